/- Texts RnN, RaA in one. -/
import Derived.RegionTactic
import Derived.BigQuiet
import Derived.Deep.RegionHeld3
import Derived.Test.YteadkhigkmijiaaGreatPD1
import Derived.Test.YteadkhigkmijiaaGreatPD26
set_option linter.all false
namespace Go.Proofs.YteadkhigkmijiaaGreat
section
open Go.RowKit
def upn(f:Nat->Nat)(k n i:Nat):Nat:=if i=k then n else f i
section
variable {b:Bool}{G:GS}{W W':World}{g:Nat}{m:NM}{x:RX}
theorem RA.clock(h:RA b G W g m x):∃(c:Cx 11)(L:Value),RKt c W g m.t.lm L m.ck/\
  ∀W' v' ck',RKt c W' g m.t.lm v' ck'->Only g W W'->(∀k,jv v'=some k->W.heap.size<=k/\ck'≠[])->ck'.length<=4->(∀k,W.heap.size<=k->G k)->RA b G W' g {m with ck:=ck'} x:=by
 obtain⟨V,L,D,R,hB,hA,hV⟩:=h.ex;obtain⟨n1,n2,n3,n4,n5,n6,n7,n8,n9,n10,n11,n12,n13,n14,n15⟩:=h.ne;refine⟨⟨rnH m V x,rnT m D x b,93,rfl⟩,L,⟨hB.eq (EF ..),hV.l,hV.lf g (by simp[RX.own])⟩,λW' v' ck' hk o hn h4 hG=>?_⟩;have kk:Kp (x.own g) W W':=o.kp (by simp[RX.own]);obtain⟨⟨sv,hS,hd⟩,hso⟩:=h.so;have hV':=hV.keep kk;refine⟨⟨V,v',D,R,Blk.eq hk.blk (EF {m with ck:=ck'} V v' D x b).symm,hA.only o n1,⟨hV'.t,hV'.tf,hV'.tn,hk.sees,λf hf e=>?_,λ_ k hk=>hG k (hn k hk).1,λk e=>?_,hV'.d,hV'.r,hV'.rf,hV'.rn⟩⟩,h.ty.only o (dH n6),⟨⟨sv,hS.only o (dH n7),λi hi=>(hd i hi).keep kk⟩,hso⟩,h.nb.only o (dH n8),h.rb.only o (dH n9),h.nd,h.gs,h.al2,h4,h.n16⟩
 ·have:=(hn f e).1
  have:=h.lts f (aT _ hf);omega
 ·obtain⟨A,c,rfl,-,-,h3,-⟩:=hk.sees.at_
  obtain⟨b',off,rfl,hb,-⟩:=h3 (aX.2 (hn k e).2);have:b'=k:=by simpa[jv]using e
  omega
theorem RA.sDa(h:RA b G W g m x){v:Value}{l:List Int}(hv:jr G (x.own g) W v l):RA b G (W.setCell (g,15) v) g {m with da:=l} x:=by
 obtain⟨V,L,D,R,hB,hA,hV⟩:=h.ex;obtain⟨n1,n2,n3,n4,n5,n6,n7,n8,n9,n10,n11,n12,n13,n14,n15⟩:=h.ne;have o:Only g W (W.setCell (g,15) v):=(aE g W).set 15 v;have kk:Kp (x.own g) W (W.setCell (g,15) v):=o.kp (by simp[RX.own]);obtain⟨⟨sv,hS,hd⟩,hk⟩:=h.so;have hV':=hV.keep kk;exact⟨⟨V,L,v,R,(hB.set 15 v).eq rfl,hA.only o n1,⟨hV'.t,hV'.tf,hV'.tn,hV'.l,hV'.lf,hV'.ln,hV'.ll,hv.keep kk,hV'.r,hV'.rf,hV'.rn⟩⟩,h.ty.only o (dH n6),⟨⟨sv,hS.only o (dH n7),λi hi=>(hd i hi).keep kk⟩,hk⟩,h.nb.only o (dH n8),h.rb.only o (dH n9),h.nd,h.gs,h.al2,h.cko,h.n16⟩
theorem RA.upN(h:RA b G W g m x)(an ar:Nat->Nat)(kq:Kq [x.n,x.r] W W')(hn:Blk W' x.n (two m.al.length an) 3)(hr:Blk W' x.r (two m.al.length ar) 3)(h16:∀i,i<m.al.length->an i<16/\ar i<16/\ar i ||| an i=ar i):RA b G W' g {m with an:=an,ar:=ar} x:=by
 obtain⟨V,L,D,R,hB,hA,hV⟩:=h.ex;obtain⟨n1,n2,n3,n4,n5,n6,n7,n8,n9,n10,n11,n12,n13,n14,n15⟩:=h.ne;have kk:Kp (x.own g) W W':=⟨kq.size,λk hk hn=>kq.block k hk λhm=>hn (by
  simp only[bq,cM,fL]at hm;rcases hm with rfl|rfl<;>simp[RX.own])⟩
 have e:∀{k cs t},Blk W k cs t->k≠x.n->k≠x.r->Blk W' k cs t:=λhb a1 a2=>(kq.block _ hb.lt (by simp[a1,a2])).trans hb;obtain⟨⟨sv,hS,hd⟩,hk⟩:=h.so;exact⟨⟨V,L,D,R,e hB n8 n9,e hA n4 n5,hV.keep kk⟩,⟨e h.ty.1 n11 n12,h.ty.2⟩,⟨⟨sv,e hS n13 n14,λi hi=>(hd i hi).keep kk⟩,hk⟩,hn,hr,h.nd,h.gs,h.al2,h.cko,h16⟩
theorem EG{v:Value}{l:List Tb.D}{f:Nat}(h:jh W W v l)(hf:W.heap.size<=f)(h0:l≠[]):v.ownBlock≠some f:=by
 obtain⟨A,c,rfl,-,-,h3,-⟩:=h.at_;obtain⟨b,off,rfl,hb,-⟩:=h3 (aX.2 h0);intro e;have:b=f:=by simpa[Value.ownBlock]using e
 omega
theorem EH{v:Value}{l:List R4}{f:Nat}(h:jl W W v l)(hf:W.heap.size<=f)(h0:l≠[]):v.ownBlock≠some f:=by
 obtain⟨A,c,rfl,-,-,h3,-⟩:=h.at_;obtain⟨b,off,rfl,hb,-⟩:=h3 (aX.2 h0);intro e;have:b=f:=by simpa[Value.ownBlock]using e
 omega
theorem EI{v:Value}{l:List Int}{f:Nat}(h:iI W W v l)(hf:W.heap.size<=f)(h0:l≠[]):v.ownBlock≠some f:=by
 obtain⟨A,c,rfl,-,-,h3,-⟩:=h.at_;obtain⟨b,off,rfl,hb,-⟩:=h3 (aX.2 h0);intro e;have:b=f:=by simpa[Value.ownBlock]using e
 omega
theorem jr.new{P:List Nat}{v:Value}{l:List Int}{f:Nat}(h:jr G P W v l)(hf:W.heap.size<=f):jr G (f::P) W v l:=
 ⟨⟨h.1.1,λk hk h0=>by
  rcases bq.1 hk with rfl|hk
  ·exact EI h.1.1 hf h0
  ·exact h.1.2 k hk h0⟩,h.2⟩
theorem RV.new{P:List Nat}{ns:List Tb.D}{ck da:List Int}{al:List R4}{V L D R:Value}{f:Nat}(h:RV G P W ns ck da al V L D R)(hf:W.heap.size<=f):RV G (f::P) W ns ck da al V L D R:=
 ⟨h.t,λk hk h0=>by
  rcases bq.1 hk with rfl|hk
  ·exact EG h.t hf h0
  ·exact h.tf k hk h0,h.tn,h.l,λk hk e=>by
  rcases bq.1 hk with rfl|hk
  ·have:=h.ll _ e;omega
  ·exact h.lf k hk e,h.ln,h.ll,h.d.new hf,h.r,λk hk h0=>by
  rcases bq.1 hk with rfl|hk
  ·exact EH h.r hf h0
  ·exact h.rf k hk h0,h.rn⟩
theorem RA.DU(h:RA b G W g m x)(hb:Below W W W'){gm:Nat}(hgm:gm=W.heap.size){ty:TS}(hT:TAt 164 W' gm ty)(hg:G gm):RA b G (W'.setCell (g,9) ↑(gm,0)) g {m with ty:=ty} {x with m:=gm}:=by
 have h':=h.below hb;obtain⟨V,L,D,R,hB,hA,hV0⟩:=h.ex;obtain⟨n1,n2,n3,n4,n5,n6,n7,n8,n9,n10,n11,n12,n13,n14,n15⟩:=h.ne;have hn:gm∉x.a::x.own g:=λhm=>by have:=h.lts _ hm;omega
 simp only[RX.own,bq,cM,fL,not_or]at hn;obtain⟨q1,q2,q3,q4,q5,q6⟩:=hn;obtain⟨⟨sv,hS,hd⟩,hk⟩:=h.so;have hV':=(hV0.new (f:=gm) (by omega)).keep (ku hb);have hd':=λi(hi:i<8)=>((hd i hi).new (f:=gm) (by omega)).keep (ku hb);have o:Only g W' (W'.setCell (g,9) ↑(gm,0)):=(aE g W').set 9 _;have sub:∀f,f∈({x with m:=gm}:RX).own g->f∈gm::x.own g:=λf hf=>by
  simp only[RX.own,bq,cM,fL]at hf ⊢;rcases hf with e|e|e|e|e<;>simp[e]
 have kk:Kp (({x with m:=gm}:RX).own g) W' (W'.setCell (g,9) ↑(gm,0)):=o.kp (by simp[RX.own]);have hV2:RV G (({x with m:=gm}:RX).own g) W' m.t.ns m.ck m.da m.al V L D R:=⟨hV'.t,λf hf=>hV'.tf f (sub f hf),hV'.tn,hV'.l,λf hf=>hV'.lf f (sub f hf),hV'.ln,hV'.ll,⟨⟨hV'.d.1.1,λf hf=>hV'.d.1.2 f (sub f hf)⟩,hV'.d.2⟩,hV'.r,λf hf=>hV'.rf f (sub f hf),hV'.rn⟩;refine⟨⟨V,L,D,R,((hB.below hb hB.lt).set 9 _).eq rfl,(hA.below hb hA.lt).only o n1,hV2.keep kk⟩,hT.only o q2,⟨⟨sv,(hS.below hb hS.lt).only o (dH n7),λi hi=>jr.keep (F:=({x with m:=gm}:RX).own g) ⟨⟨(hd' i hi).1.1,λf hf=>(hd' i hi).1.2 f (sub f hf)⟩,(hd' i hi).2⟩ kk⟩,hk⟩,h'.nb.only o (dH n8),h'.rb.only o (dH n9),?_,?_,h.al2,h.cko,h.n16⟩
 ·simp only[RX.own,ia,bq,cM,fL,not_or,iz,gu,fQ]
  exact⟨⟨n1,dH q1,n3,n4,n5⟩,⟨dH q2,n7,n8,n9⟩,⟨q4,q5,q6⟩,⟨n13,n14⟩,n15⟩
 ·intro k hk
  simp only[RX.own,bq,cM,fL]at hk;rcases hk with rfl|rfl|rfl|rfl|rfl|rfl
  ·exact h.gs _ (by simp)
  ·exact h.gs _ (by simp[RX.own])
  ·exact hg
  ·exact h.gs _ (by simp[RX.own])
  ·exact h.gs _ (by simp[RX.own])
  ·exact h.gs _ (by simp[RX.own])
theorem RA.cells(h:RA b G W g m x):∃V L D R,Blk W g (rnc m V L D x b) 93/\Blk W x.a #[R,.slice (some (x.n,0)) m.al.length m.al.length,.slice (some (x.r,0)) m.al.length m.al.length] 162/\RV G (x.own g) W m.t.ns m.ck m.da m.al V L D R:=h.ex
theorem RA.frozen(h:RA b G W g m x)(o:Nat):W.frozen? (g,o)=false:=by
 obtain⟨V,L,D,R,hB,-,-⟩:=h.ex;exact hB.frozen o
theorem RA.c1(h:RA b G W g m x):W.cell? (g,1)=some ↑m.t.dr:=by obtain⟨V,L,D,R,hB,-,-⟩:=h.ex;exact hB.cell 1 rfl
theorem RA.c2(h:RA b G W g m x):W.cell? (g,2)=some ↑m.t.wi:=by obtain⟨V,L,D,R,hB,-,-⟩:=h.ex;exact hB.cell 2 rfl
theorem RA.c3(h:RA b G W g m x):W.cell? (g,3)=some ↑m.t.lm:=by obtain⟨V,L,D,R,hB,-,-⟩:=h.ex;exact hB.cell 3 rfl
theorem RA.c4(h:RA b G W g m x):W.cell? (g,4)=some ↑(m.i:Nat):=by obtain⟨V,L,D,R,hB,-,-⟩:=h.ex;exact hB.cell 4 rfl
theorem RA.c5(h:RA b G W g m x):W.cell? (g,5)=some ↑m.dr:=by obtain⟨V,L,D,R,hB,-,-⟩:=h.ex;exact hB.cell 5 rfl
theorem RA.c6(h:RA b G W g m x):W.cell? (g,6)=some ↑(m.st:Nat):=by obtain⟨V,L,D,R,hB,-,-⟩:=h.ex;exact hB.cell 6 rfl
theorem RA.c7(h:RA b G W g m x):W.cell? (g,7)=some ↑m.rd:=by obtain⟨V,L,D,R,hB,-,-⟩:=h.ex;exact hB.cell 7 rfl
theorem RA.c8(h:RA b G W g m x):W.cell? (g,8)=some ↑(m.sl:Nat):=by obtain⟨V,L,D,R,hB,-,-⟩:=h.ex;exact hB.cell 8 rfl
theorem RA.c9(h:RA b G W g m x):W.cell? (g,9)=some ↑(x.m,0):=by obtain⟨V,L,D,R,hB,-,-⟩:=h.ex;exact hB.cell 9 rfl
theorem RA.c10(h:RA b G W g m x):W.cell? (g,10)=some ↑m.tm:=by obtain⟨V,L,D,R,hB,-,-⟩:=h.ex;exact hB.cell 10 rfl
theorem RA.c13(h:RA b G W g m x):W.cell? (g,13)=some ↑(x.s,0):=by obtain⟨V,L,D,R,hB,-,-⟩:=h.ex;exact hB.cell 13 rfl
theorem RA.c14(h:RA b G W g m x):W.cell? (g,14)=some ↑(x.a,0):=by obtain⟨V,L,D,R,hB,-,-⟩:=h.ex;exact hB.cell 14 rfl
theorem RA.c16(h:RA b G W g m x):W.cell? (g,16)=some ↑(m.wt:Nat):=by obtain⟨V,L,D,R,hB,-,-⟩:=h.ex;exact hB.cell 16 rfl
theorem RA.c17(h:RA b G W g m x):W.cell? (g,17)=some ↑b:=by obtain⟨V,L,D,R,hB,-,-⟩:=h.ex;exact hB.cell 17 rfl
theorem RA.c0(h:RA b G W g m x):∃A c,W.cell? (g,0)=some (.slice A m.t.ns.length c)/\jh W W (.slice A m.t.ns.length c) m.t.ns:=by
 obtain⟨V,L,D,R,hB,-,hV⟩:=h.ex;obtain⟨A,c,e,-⟩:=hV.t.at_;exact⟨A,c,e▸hB.cell 0 rfl,e▸hV.t⟩
theorem RA.lV(h:RA b G W g m x){j:Nat}(hj:j<m.t.ns.length):∃bl off c,W.cell? (g,0)=some (.slice (some ⟨bl,off,none⟩) m.t.ns.length c)/\bl<W.heap.size/\AtD W bl (off+j*4) (m.t.ns.getD j default)/\m.t.ns.length<=c:=by
 obtain⟨A,c,h0,hs⟩:=h.c0;obtain⟨A',c',e,h1,-,h3,-⟩:=hs.at_
 cases e
 obtain⟨bl,off,rfl,hb,hd⟩:=h3 (by omega);exact⟨bl,off,c,h0,hb,hd j hj,h1⟩
theorem RA.c15(h:RA b G W g m x):∃A c,W.cell? (g,15)=some (.slice A m.da.length c)/\jr G (x.own g) W (.slice A m.da.length c) m.da:=by
 obtain⟨V,L,D,R,hB,-,hV⟩:=h.ex;obtain⟨A,c,e,-⟩:=hV.d.1.1.at_;exact⟨A,c,e▸hB.cell 15 rfl,e▸hV.d⟩
theorem RA.a0(h:RA b G W g m x){K:Nat}(hK:m.al.length=K):∃A c,W.cell? (x.a,0)=some (.slice A K c)/\jl W W (.slice A K c) m.al/\∀f,f∈x.own g->0<K->(Value.slice A K c).ownBlock≠some f:=by
 obtain⟨V,L,D,R,-,hA,hV⟩:=h.ex;obtain⟨A,c,e,-⟩:=hV.r.at_;rw[hK]at e;exact⟨A,c,e▸hA.cell 0 rfl,e▸hV.r,λf hf h0=>e▸hV.rf f hf (λh=>by rw[h]at hK;simp at hK;omega)⟩
theorem RA.a1(h:RA b G W g m x){K:Nat}(hK:m.al.length=K):W.cell? (x.a,1)=some (.slice (some (x.n,0)) K K):=by obtain⟨V,L,D,R,-,hA,-⟩:=h.ex;rw[hK]at hA;exact hA.cell 1 rfl
theorem RA.a2(h:RA b G W g m x){K:Nat}(hK:m.al.length=K):W.cell? (x.a,2)=some (.slice (some (x.r,0)) K K):=by obtain⟨V,L,D,R,-,hA,-⟩:=h.ex;rw[hK]at hA;exact hA.cell 2 rfl
theorem nR{K:Nat}(h2:K=0\/K=2)(f:Nat->Nat){k:Nat}(hk:k<K):(two K f)[k]?=some ↑(f k:Nat):=by
 rcases h2 with rfl|rfl
 ·omega
 match k,hk with
 |0,_=>rfl
 |1,_=>rfl
theorem xD{K:Nat}(h2:K=0\/K=2)(f:Nat->Nat){k:Nat}(hk:k<K)(n:Nat):(two K f).setIfInBounds k ↑(n:Nat)=two K (upn f k n):=by
 rcases h2 with rfl|rfl
 ·omega
 match k,hk with
 |0,_=>rfl
 |1,_=>rfl
theorem RA.n_(h:RA b G W g m x){k:Nat}(hk:k<m.al.length):W.cell? (x.n,k)=some ↑(m.an k:Nat):=h.nb.cell k (nR h.al2 _ hk)
theorem RA.r_(h:RA b G W g m x){k:Nat}(hk:k<m.al.length):W.cell? (x.r,k)=some ↑(m.ar k:Nat):=h.rb.cell k (nR h.al2 _ hk)
end
end
section
set_option maxRecDepth 100000
set_option maxHeartbeats 4000000
open Go.RowKit
section
variable {b:Bool}{G:GS}{W W':World}{g:Nat}{m:NM}{x:RX}
def GN(G:GS)(w:World):Prop:=∀k,w.heap.size<=k->G k
theorem GN.up{w w':World}(h:GN G w)(k:w.heap.size<=w'.heap.size):GN G w':=λi hi=>h i (aW k hi)
end
def RS(b:Bool)(G:GS)(W:World)(g:Nat)(m:NM):Prop:=∃x,RA b G W g m x
def RL(G:GS)(W:World)(g:Nat)(m:NM):Prop:=∃b,RS b G W g m
theorem qi(b:Bool)(G:GS)(g:Nat)(m:NM)(x:RX)(k:Nat)(w:World)(h:RA b G w g m x)(hG:GN G w):
  Calls Tryz.prog 77 #[↑(g,0),↑(k:Nat)] w λe w'=>e=.returned (.tuple #[])/\RS false G w' g (m.anew k)/\KG G w w':=by
 have c6:=h.c6;have c7:=h.c7;have c8:=h.c8;have c16:=h.c16;have c17:=h.c17;have f6:=h.frozen 6;have f7:=h.frozen 7;have f8:=h.frozen 8;have f16:=h.frozen 16;have f17:=h.frozen 17;have hg:=h.G_;have h1:=af (((((h.sSt k).sRd 0).sSl 0).sWt 0).sSe false);have hk1:Hid (KG G w (((((w.setCell (g,6) ↑(k:Nat)).setCell (g,7) ↑(0:Int)).setCell (g,8) ↑(0:Nat)).setCell (g,16) ↑(0:Nat)).setCell (g,17) ↑false)):=
  af ((((((aE g w).set _ _).set _ _).set _ _).set _ _).set _ _ |>.kg hg)
 go_enter Tryz.func77,Tryz.ntmps77
 go_wp2_with fail;clear c6 c7 c8 c16 c17 f6 f7 f8 f16 f17
 (generalize((((w.setCell (g,6) _).setCell (g,7) _).setCell (g,8) _).setCell (g,16) _).setCell (g,17) _=w1 at h1 hk1 ⊢)
 refine(xq 0 w1).mono ?_;rintro _ w2 ⟨rfl,hT,hb2,hs2⟩;have hz1:w.heap.size<=w1.heap.size:=hk1.o.size;have h2:=h1.o.below hb2;have c9:=h2.c9;have f9:=h2.frozen 9;have h3:=h1.o.DU hb2 rfl hT (hG _ hz1);have hk3:Hid (KG G w (w2.setCell (g,9) ↑(w1,0))):=af ((hk1.o.trans (iZ hb2)).trans (((aE g w2).set 9 _).kg hg));clear h1 hk1 h2 h;go_wp2_with fail;clear c9 f9;generalize w2.setCell (g,9) _=w3 at h3 hk3 ⊢;obtain⟨c,L,hc,hup⟩:=h3.clock;refine(xu c g _ L _ w3 hc).mono ?_;rintro _ w4 ⟨rfl,hc4,o4⟩;have h4:=hup _ _ _ hc4 o4 (λk e=>by simp[jv]at e) (by simp) λi hi=>hG i (aW hk3.o.size hi);have hk4:=af (hk3.o.trans (o4.kg hg));have c13:=h4.c13;have hC:=af (DV G _ _ _ w4 h4.so (by simp[RX.own]));have h4:=af h4;clear h3 hk3 hc hup hc4 hT;go_wp2_with fail;refine hC.o.mono ?_;rintro _ w5 ⟨rfl,h5,o5⟩;have h6:=af ((h4.o.upS h5 o5).se_ false);have hk5:=af (hk4.o.trans (o5.kg (h4.o.gs _ (aT _ (by simp[RX.own])))));clear h4 hk4 hC h5 o5;go_wp2;exact aD (ax (by rfl) _ _ _) rfl ⟨rfl,⟨_,h6.o⟩,hk5.o⟩
theorem Ns(b:Bool)(G:GS)(g:Nat)(m:NM)(x:RX)(w:World)(h:RA b G w g m x)(hG:GN G w):
  Calls Tryz.prog 38 #[↑(g,0)] w λe w'=>e=.returned (.tuple #[])/\RS false G w' g m.off/\KG G w w':=by
 have H:=af (qi b G g m x 0 w h hG);unfold NM.off;generalize m.anew 0=m' at *;clear h
 go_enter Tryz.func38,Tryz.ntmps38
 go_wp2_with fail;refine H.o.mono ?_;rintro _ w1 ⟨rfl,h1,o1⟩;go_wp2;exact aD (ax (by rfl) _ _ _) rfl ⟨rfl,h1,o1⟩
theorem Nt(b:Bool)(G:GS)(g:Nat)(m:NM)(x:RX)(a:Int)(w:World)(h:RA b G w g m x)(hG:GN G w)(h5:m.st<=5):
  Calls Tryz.prog 35 #[↑(g,0),↑a] w λe w'=>e=.returned ↑(m.onE a)/\RL G w' g (m.on a)/\KG G w w':=by
 by_cases h1:a < -1000\/1000<a
 ·have e:m.onE a=1:=by unfold NM.onE;rw[au h1]
  rw[e,show m.on a=m by unfold NM.on;rw[e];rfl];by_cases h2:a < -1000
  ·clear h1
   go_enter Tryz.func35,Tryz.ntmps35
   go_wp2;go_ret;exact⟨rfl,⟨_,_,h⟩,KG.refl _ _⟩
  ·have h3:1000<a:=by omega
   have h2:-1000<=a:=by omega
   clear h1
   go_enter Tryz.func35,Tryz.ntmps35
   go_wp2;go_ret;exact⟨rfl,⟨_,_,h⟩,KG.refl _ _⟩
 ·have a1:-1000<=a:=by omega
  have a2:a<=1000:=by omega
  have c6:=h.c6;by_cases h2:m.st≠0/\m.st≠5
  ·have e:m.onE a=4:=by unfold NM.onE;rw[ai h1,au h2]
   rw[e,show m.on a=m by unfold NM.on;rw[e];rfl];have hk:Hid (RA b G w g m x):=af h;clear h1 e h;rcases(by omega:m.st=1\/m.st=2\/m.st=3\/m.st=4)with e|e|e|e
   all_goals
    rw[e]at c6;clear h2 e h5
    go_enter Tryz.func35,Tryz.ntmps35
    go_wp2;go_ret;exact⟨rfl,⟨_,_,hk.o⟩,KG.refl _ _⟩
  ·have e:m.onE a=0:=by unfold NM.onE;rw[ai h1,ai h2]
   rw[e,show m.on a={m.anew 1 with tm:=a} by unfold NM.on;rw[au e]];have HB:=af (qi b G g m x 1 w h hG);clear h h1 e;generalize m.anew 1=m' at *;rcases(by omega:m.st=0\/m.st=5)with e|e
   all_goals
    rw[e]at c6;clear h2 e
    go_enter Tryz.func35,Tryz.ntmps35
    go_wp2_with fail;refine HB.o.mono ?_;rintro _ w1 ⟨rfl,⟨x1,h1⟩,o1⟩;have c10:=h1.c10;have f10:=h1.frozen 10;have h2:=af (h1.sTm a);have hg:=h1.G_;clear h1;go_wp2;go_ret;exact⟨rfl,⟨_,_,h2.o⟩,o1.trans (((aE g w1).set _ _).kg hg)⟩
theorem ug(b:Bool)(G:GS)(g:Nat)(m:NM)(x:RX)(w:World)(h:RA b G w g m x):
  Calls Tryz.prog 43 #[↑(g,0)] w λe w'=>e=.returned (csV m.rd m.sl m.ty.m)/\Below w w w':=by
 have HS:∀W,Below w w W->W.cell? (g,7)=some ↑m.rd/\W.cell? (g,8)=some ↑(m.sl:Nat)/\W.cell? (g,9)=some ↑(x.m,0)/\W.cell? (x.m,0)=some ↑(m.ty.m:Nat):=λW hW=>by
  have h':=h.below hW;exact⟨h'.c7,h'.c8,h'.c9,h'.ty.c0⟩
 unfold csV;clear h
 go_enter Tryz.func43,Tryz.ntmps43
 go_wp2_with fail;obtain⟨c7,c8,c9,c0⟩:=HS (w.alloc (.cells #[↑(0:Int),↑(0:Int),↑(0:Int)] 96)) ((ah _ _).alloc lr _);have b0:=((ah w w).alloc lr (.cells #[↑(0:Int),↑(0:Int),↑(0:Int)] 96)).drew;have S0:=af (HS _ b0);have HH:=af HS;clear HS c7 c8 c9 c0
 go_region_held3 (λW=>W.cell? (g,7)=some ↑m.rd/\W.cell? (g,8)=some ↑(m.sl:Nat)/\W.cell? (g,9)=some ↑(x.m,0)/\W.cell? (x.m,0)=some ↑(m.ty.m:Nat)) ((first|exact S0.o|(refine HH.o _ ?_;(repeat' (first|exact ah _ _|exact aR _|(with_reducible refine aU ?_ ?_ _)|(with_reducible refine bE ?_ lr _)|(with_reducible refine aC ?_ _)|(with_reducible refine bL ?_)))))) (fail)
 go_wp2;refine aK (v:=.agg #[↑m.rd,↑(m.sl:Nat),↑(m.ty.m:Nat)]) ?_ rfl ?_
 ·rw[j4 rfl]
  go_simp
 ·refine⟨rfl,?_⟩
  (repeat' (first|exact ah _ _|exact aR _|(with_reducible refine aU ?_ ?_ _)|(with_reducible refine bE ?_ lr _)|(with_reducible refine aC ?_ _)|(with_reducible refine bL ?_)))
theorem Nu(b:Bool)(G:GS)(g:Nat)(m:NM)(x:RX)(v:Value)(l:List Int)(B:Nat)(w:World)(h:RA b G w g m x)(hG:GN G w)(hi:m.i<m.t.ns.length)(hv:iI w B v l)(hz:m.me.sz<=8):
  Calls Tryz.prog 36 #[↑(g,0),v] w λe w'=>e=.returned ↑(m.kN l)/\RA b G w' g (m.write l) x/\KG G w w':=by
 obtain⟨bl,off,cn,c0,hbl,⟨-,-,-,d3⟩,hcn⟩:=h.lV hi;have c4:=h.c4;obtain⟨A,c,rfl,v1,v2,v3,v4⟩:=hv.at_;unfold maxLen at v2;rw[show m.t.ns.getD m.i default=m.me from rfl]at d3;have hk:Hid (RA b G w g m x):=af h;have hg:=h.G_;clear v3 v4 h;generalize m.t.ns.length=N at *;generalize m.i=i at *;generalize hze:m.me.sz=z at *;by_cases h1:z<l.length
 ·rw[show m.kN l=1 by unfold NM.kN;rw[au (by omega)],show m.write l=m by unfold NM.write;rw[au (by omega)]]
  have q1:decide (z<((l.length:Nat):Int))=true:=av h1;clear hze
  go_enter Tryz.func36,Tryz.ntmps36
  go_wp2_with fail
  go_quiet (fail)
  go_wp2;go_ret;exact⟨rfl,hk.o.drewN _,iZ (aC (ah _ _) _)⟩
 ·rw[show m.kN l=0 by unfold NM.kN;rw[ai (by omega)],show m.write l={m with da:=l} by unfold NM.write;rw[ai (by omega)]]
  have q1:decide (z<((l.length:Nat):Int))=false:=aj h1;clear hze;have hem:Hid (∀n,iJ ((w.drewN n).alloc (.cells #[] 5)) (w.drewN n).heap.size (.slice (some ((w.drewN n).heap.size,0)) 0 0) []):=af λn=>mL _ _ rfl _ _ lr rfl;have hvs:Hid (∀n,iI ((w.drewN n).alloc (.cells #[] 5)) B (.slice A l.length c) l):=af λn=>(hv.below (aC (ah B w) n)).alloc _;clear hv
  go_enter Tryz.func36,Tryz.ntmps36
  go_wp2_with fail
  go_quiet (fail)
  go_wp2_with (at_builtin;go_loud (refine AE _ rfl (.tmp 21) (.tmp 22) 41 rfl (w.drewN _).heap.size kx Tryz.underlying41 _ [] (hem.o _) rfl B _ l rfl (hvs.o _) (by simp) (by simp;omega) ?_));intro v1 w1 ho1 hx1;have ho2:iJ w1 w v1 l:=by simpa using ho1
  have hb1:Below w w w1:=(((aC (ah w w) _).alloc (by simp) (.cells #[] 5))).trans (hx1.toBelow (B:=w.heap.size) (by simp) (λj hj=>by simp[Value.ownBlock]at hj;omega));have h2:=hk.o.below hb1;obtain⟨A',c',c15,-⟩:=h2.c15;have f15:=h2.frozen 15;have h3:=af (h2.sDa (v:=v1) (l:=l) ⟨⟨ho2.sees,λf hf _ e=>by have:=(ho2.lt f e).1;have:=hk.o.lts f (aT _ hf);omega⟩,λ_ k hk=>hG k (ho2.lt k hk).1⟩);obtain⟨A2,d2,rfl,-⟩:=ho2.sees.at_;clear h2 ho1 ho2 hx1 hem hvs c0 c4 d3;go_wp2;go_ret;exact⟨rfl,h3.o,(iZ hb1).trans (((aE g w1).set _ _).kg hg)⟩
end
end Go.Proofs.YteadkhigkmijiaaGreat
