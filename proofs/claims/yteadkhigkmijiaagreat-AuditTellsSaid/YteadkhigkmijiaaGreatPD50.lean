/- Texts QmI in one. -/
import Derived.Test.YteadkhigkmijiaaGreatPD1
import Derived.Test.YteadkhigkmijiaaGreatPD8
import Derived.Test.YteadkhigkmijiaaGreatPD18
import Derived.Test.YteadkhigkmijiaaGreatPD30
import Derived.Test.YteadkhigkmijiaaGreatPD34
import Derived.Test.YteadkhigkmijiaaGreatPD41
set_option linter.all false
namespace Go.Proofs.YteadkhigkmijiaaGreat
section
set_option maxRecDepth 100000
set_option maxHeartbeats 16000000
open Go.RowKit
theorem RG.lT{Q:GS}{W W':World}{g:Nat}{t:Tb.T}{s:G}(h:RG Q W g t s)(hs:W.heap.size<=W'.heap.size)(hk:∀k,k<W.heap.size->Q k\/Q.ro k->W'.heap[k]?=W.heap[k]?):RG Q W' g t s:=by
 obtain⟨⟨sl,si,L,h,hkn⟩,hg⟩:=h;obtain⟨V,hB,hT,hf,hn⟩:=h.ex;refine⟨⟨sl,si,L,⟨⟨V,(hk g hB.lt (.inl h.q)).trans hB,?_,hf,hn⟩,?_,h.lf,h.ln,h.q⟩,hkn⟩,hg⟩
 ·obtain⟨A,c,rfl,h1,h2,h3,h4⟩:=hT.at_
  refine⟨⟨A,c,rfl,h1,h2,λh0=>?_,h4⟩⟩;obtain⟨b,off,rfl,hb,hd⟩:=h3 h0;have e:=hk b hb (hn (aX.1 h0) b rfl);exact⟨b,off,rfl,aN hb hs,λj hj=>(hd j hj).keep λo=>by simp only[World.cell?,e]⟩
 ·obtain⟨A,c,rfl,h1,h2,h3,h4⟩:=h.ls.at_
  refine⟨⟨A,c,rfl,h1,h2,λh0=>?_,h4⟩⟩;obtain⟨b,off,rfl,hb,hd⟩:=h3 h0;have e:=hk b hb (.inl (h.ln (aX.1 h0) b rfl));exact⟨b,off,rfl,aN hb hs,λj hj=>by rw[<-hd j hj];simp only[World.cell?,e]⟩
theorem RG.only{Q:GS}{W W':World}{g g':Nat}{t:Tb.T}{s:G}(h:RG Q W g t s)(o:Only g' W W')(hn:¬(Q g'\/Q.ro g')):RG Q W' g t s:=
 h.lT o.size λk hk hq=>o.block k hk (by intro e;cases e;exact hn hq)
theorem RG.mono{Q Q':GS}{W:World}{g:Nat}{t:Tb.T}{s:G}(h:RG Q W g t s)(h1:∀k,Q k->Q' k)(h2:∀k,Q.ro k->Q'.ro k):RG Q' W g t s:=by
 obtain⟨⟨sl,si,L,h,hkn⟩,hg⟩:=h;obtain⟨V,hB,hT,hf,hn⟩:=h.ex;exact⟨⟨sl,si,L,⟨⟨V,hB,hT,hf,λh0 y hy=>(hn h0 y hy).imp (h1 y) (h2 y)⟩,h.ls,h.lf,λh0 b hb=>h1 b (h.ln h0 b hb),h1 g h.q⟩,hkn⟩,hg⟩
theorem RG.past{Q:GS}{w W:World}{g:Nat}{t:Tb.T}{s:G}(h:RG Q w g t s)(b:Below w w W):RG (Gp Q w W) W g t s:=by
 refine RG.below (W:=w) ?_ b;obtain⟨⟨sl,si,L,h,hkn⟩,hg⟩:=h;have hl:=h.lt;obtain⟨V,hB,hT,hf,hn⟩:=h.ex;refine⟨⟨sl,si,L,⟨⟨V,hB,hT,hf,λh0 y hy=>(hn h0 y hy).imp (λh=>⟨h,λq=>by have:=qz hT h0 hy;omega⟩) id⟩,h.ls,h.lf,λh0 y hy=>⟨h.ln h0 y hy,λq=>?_⟩,h.q,λq=>by omega⟩,hkn⟩,hg⟩;obtain⟨A,c,rfl,-,-,h3,-⟩:=h.ls.at_;obtain⟨b',off,rfl,hb,-⟩:=h3 (aX.2 h0);have:b'=y:=by simpa[jv]using hy
 omega
theorem Np{bs:Nat->List Int}(h:∀i,(bs i).length<=50)(i:Nat):(bs i).take 50=bs i:=gE (h i)
theorem Nq(v:Value)(n:Nat)(a b:Nat->Int)(w:World)(h:jN w v n a b):
  Calls Tryz.prog 120 #[v] w λe w'=>∃X Y,e=.returned (.tuple #[↑(tk n a),X,↑(tk n b),Y])/\iJ w' w X (tl n a)/\iJ w' w Y (tl n b)/\Below w w w':=by
 have h4:=h.n4;obtain⟨A,c,rfl,hs⟩:=h.at_;refine(KN A n c a b w hs (by omega)).mono ?_;rintro e w' ⟨K,v,L,u,rfl,h1,h2,hb⟩;obtain⟨rfl,o1⟩:=h1.own;obtain⟨rfl,o2⟩:=h2.own;exact⟨v,u,rfl,o1,o2,hb⟩
theorem jF.start{W:World}{ab:Nat}{A:Nat->Option Addr}{c:Nat->Nat}{bs:Nat->List Int}{a:Nat->Int}{B:Nat}(hB:Blk W ab (jC (λi=>.slice (A i) (bs i).length (c i)) (Air.start bs a)) 201)(hv:∀i,i<8->iI W B (.slice (A i) (bs i).length (c i)) (bs i))(hb:B<=ab)(hy:∀i,iK (bs i))(h50:∀i,(bs i).length<=50):jF W ab (λi=>.slice (A i) (bs i).length (c i)) (Air.start bs a):=
 ⟨hB,λi hi=>by
  have hab:=hB.lt;show Dat [ab] W _ ((bs i).take 50);rw[Np h50];exact Dq ((hv i hi).more hb) hab,Air.Ok.start a hy⟩
theorem Air.Nr(fl:List Ft)(x:Air)(k:Nat)(hk:k<fl.length):(fl.take (k+1)).foldl (λx f=>x.fault f) x=((fl.take k).foldl (λx f=>x.fault f) x).fault (fl.getD k default):=by
 rw[gM,fO,ay,aP hk]
 rfl
theorem DF{g0:Nat}{w w1 w2:World}(h:Below w w w1)(o:Only g0 w1 w2):Kq [g0] w w2:=⟨o.os.trans h.os,o.tape.trans h.tape,o.output.trans h.output,aW h.size o.size,λk hk hn=>(o.block k (aN hk h.size) (by intro e;cases e;simp at hn)).trans (h.block k hk)⟩
theorem DG{g0 g1:Nat}{w w1 w2:World}(h:Kq [g0] w w1)(o:Only g1 w1 w2):Kq [g0,g1] w w2:=⟨o.os.trans h.os,o.tape.trans h.tape,o.output.trans h.output,aW h.size o.size,λk hk hn=>(o.block k (aN hk h.size) (by intro e;cases e;simp at hn)).trans (h.block k hk (by simp at hn ⊢;exact hn.1))⟩
theorem DI{F:List Nat}{g:Nat}{w w1 w2:World}(h:Kq F w w1)(o:Only g w1 w2)(hg:w.heap.size<=g):Kq F w w2:=⟨o.os.trans h.os,o.tape.trans h.tape,o.output.trans h.output,aW h.size o.size,λk hk hn=>(o.block k (aN hk h.size) (by intro e;cases e;omega)).trans (h.block k hk hn)⟩
structure nC(W:World)(Bs N:Nat)(x:Air)(Z:jy)(a:Nat->Int)(i:Nat)(h:Hd):Prop where
 eq:i<N->h.A=(Z.hear x (a i) i).a/\h.B=(Z.hear x (a i) i).b/\h.o=(Z.hear x (a i) i).o
 X:∃l,iJ W Bs h.X l/\(i<N->l=(Z.hear x (a i) i).x)
 Y:∃l,iJ W Bs h.Y l/\(i<N->l=(Z.hear x (a i) i).y)
theorem nC.only{W W':World}{Bs g N:Nat}{x:Air}{Z:jy}{a:Nat->Int}{i:Nat}{h:Hd}(H:nC W Bs N x Z a i h)(o:Only g W W')(hg:g<Bs):nC W' Bs N x Z a i h:=by
 obtain⟨l,h1,h2⟩:=H.X;obtain⟨m,h3,h4⟩:=H.Y;exact⟨H.eq,⟨l,h1.only o hg,h2⟩,⟨m,h3.only o hg,h4⟩⟩
theorem nC.base{W:World}{Bs B' N:Nat}{x:Air}{Z:jy}{a:Nat->Int}{i:Nat}{h:Hd}(H:nC W Bs N x Z a i h)(hB:B'<=Bs):nC W B' N x Z a i h:=by
 obtain⟨l,h1,h2⟩:=H.X;obtain⟨m,h3,h4⟩:=H.Y;exact⟨H.eq,⟨l,h1.base hB,h2⟩,⟨m,h3.base hB,h4⟩⟩
theorem IB(Q0 Q1:GS)(g g0 g1 N:Nat)(t:Tb.T)(s s2:G)(A:Nat->Option Addr)(c:Nat->Nat)(bs:Nat->List Int)(a:Nat->Int)(v:Value)(fl:List Ft)(B:Nat)(X:Air)(Z:jy)(w:World)
  (hS:Blk w g #[↑(g0,0),↑(g1,0)] 144) (hG0:RG Q0 w g0 t s) (hG1:RG Q1 w g1 t s2) (hne:g≠g0/\g≠g1) (hq1:¬(Q1 g0\/Q1.ro g0)) (hq0:¬(Q0 g1\/Q0.ro g1)) (hQ0:∀k,w.heap.size<=k->Q0 k) (hQ1:∀k,w.heap.size<=k->Q1 k) (hr0:∀k,Q0.ro k->k<w.heap.size) (hr1:∀k,Q1.ro k->k<w.heap.size) (hN:t.ns.length=N) (h8:N<=8)
  (hv:∀i,i<8->iI w w (.slice (A i) (bs i).length (c i)) (bs i)) (hy:∀i,iK (bs i)) (h50:∀i,(bs i).length<=50) (ha:∀i,-100000000<=a i/\a i<=100000000) (hf:ju w B v fl) (hBw:B<=w.heap.size) (his:jc fl=true)
  (hX:fl.foldl (λx f=>x.fault f) (Air.start bs a)=X) (hZ:(⟨X.ch N s 0,X.ch N s2 1⟩:jy)=Z)
  (ss:s.slot<N) (sw:time s.now) (swi:0<=s.wi/\s.wi<=2305843009213693952) (ts:s2.slot<N) (tw:time s2.now) (twi:0<=s2.wi/\s2.wi<=2305843009213693952) (ok:s.Ok (X.jq Z.c.p)) (ok2:s2.Ok (X.jq Z.d.p)) (si:s.kn=true->s.si<2*s.n) (si2:s2.kn=true->s2.si<2*s2.n)
  (hp0:Z.c.p=-1\/∃j:Nat,Z.c.p=j/\j<N) (hp1:Z.d.p=-1\/∃j:Nat,Z.d.p=j/\j<N) (hzc:∀k,Z.c.n<=k->Z.c.q k=0) (hzd:∀k,Z.d.n<=k->Z.d.q k=0):
  Calls Tryz.prog 75 #[↑(g,0),s8 λi=>.slice (A i) (bs i).length (c i),jK a,v] w λe w'=>∃f,e=.returned (.tuple #[.agg (hdC f),↑(0:Int)])/\
   (∀i,i<8->nC w' w N X Z a i (f i))/\RG Q0 w' g0 t (s.ended (tl Z.n Z.c.q) (X.jq Z.c.p))/\RG Q1 w' g1 t (s2.ended (tl Z.n Z.d.q) (X.jq Z.d.p))/\Kq [g0,g1] w w':=by
 have X0:=(((aJ w w rfl (aS A bs c) 150).alloc (.cells (aI a) 22)).alloc (.cells zH 154)).alloc (.cells zH 154);have X1:=((aJ (w.alloc (.cells (aS A bs c) 150)) (w.heap.size+1) (by simp) (aI a) 22).alloc (.cells zH 154)).alloc (.cells zH 154);have X2:=(aJ ((w.alloc (.cells (aS A bs c) 150)).alloc (.cells (aI a) 22)) (w.heap.size+1+1) (by simp) zH 154).alloc (.cells zH 154);have X3:=aJ (((w.alloc (.cells (aS A bs c) 150)).alloc (.cells (aI a) 22)).alloc (.cells zH 154)) (w.heap.size+1+1+1) (by simp) zH 154;have hb4:=((((ah w w).alloc lr (.cells (aS A bs c) 150)).alloc (by simp) (.cells (aI a) 22)).alloc (by simp;omega) (.cells zH 154)).alloc (by simp;omega) (.cells zH 154);have hz4:((((w.alloc (.cells (aS A bs c) 150)).alloc (.cells (aI a) 22)).alloc (.cells zH 154)).alloc (.cells zH 154)).heap.size=w.heap.size+1+1+1+1:=by simp
 have hlen:fl.length<=4:=by unfold jc at his;simp at his;exact his.1
 have hmay:∀f∈fl,f.may=true:=by unfold jc at his;simp at his;exact his.2
 have TD:=hG0.lt;have TF:=hG1.lt;have hgl:=hS.lt;obtain⟨Af,cf,rfl,n1,n2,-⟩:=hf.at_;have HW:Hid (∀W,Below w w W->Blk W g #[↑(g0,0),↑(g1,0)] 144/\RG (Gp Q0 w W) W g0 t s/\RG (Gp Q1 w W) W g1 t s2/\ju W B (.slice Af fl.length cf) fl/\∀i,i<8->iI W w (.slice (A i) (bs i).length (c i)) (bs i)):=af λW hW=>⟨hS.below hW hgl,hG0.past hW,hG1.past hW,hf.below (hW.mono hBw),λi hi=>(hv i hi).below hW⟩;have hIs:=λW(hW:Below w w W)=>af (zY (.slice Af fl.length cf) fl B W (HW.o W hW).2.2.2.1 (by have:=hW.size;omega));rw[his]at hIs;have hcp:Hid (∀k,k<8->(bs k).length<=c k):=af λk hk=>by
  obtain⟨A',c',e,h1,-⟩:=(hv k hk).at_
  cases e
  exact h1
 clear hf hv hG0 hG1 hS his;unfold s8 jK
 go_enter Tryz.func75,Tryz.ntmps75
 go_wp2_with fail;generalize((((w.alloc (.cells (aS A bs c) 150)).alloc (.cells (aI a) 22)).alloc (.cells zH 154)).alloc (.cells zH 154))=w4 at *;refine(hIs w4 hb4).o.mono ?_;rintro e w5 ⟨rfl,hb5⟩;have Y0:=X0.below hb5 (by omega);have Y1:=X1.below hb5 (by omega);have Y2:=X2.below hb5 (by omega);have Y3:=X3.below hb5 (by omega);have hB5:=hb4.trans (hb5.mono (by omega));have hz5:w.heap.size+1+1+1+1<=w5.heap.size:=by have:=hb5.size;omega
 have c0:=Y0.cell 0 (x:=.slice (A 0) (bs 0).length (c 0)) rfl;have c1:=Y0.cell 1 (x:=.slice (A 1) (bs 1).length (c 1)) rfl;have c2:=Y0.cell 2 (x:=.slice (A 2) (bs 2).length (c 2)) rfl;have c3:=Y0.cell 3 (x:=.slice (A 3) (bs 3).length (c 3)) rfl;have c4:=Y0.cell 4 (x:=.slice (A 4) (bs 4).length (c 4)) rfl;have c5:=Y0.cell 5 (x:=.slice (A 5) (bs 5).length (c 5)) rfl;have c6:=Y0.cell 6 (x:=.slice (A 6) (bs 6).length (c 6)) rfl;have c7:=Y0.cell 7 (x:=.slice (A 7) (bs 7).length (c 7)) rfl;have d0:=Y1.cell 0 (x:=↑(a 0)) rfl;have d1:=Y1.cell 1 (x:=↑(a 1)) rfl;have d2:=Y1.cell 2 (x:=↑(a 2)) rfl;have d3:=Y1.cell 3 (x:=↑(a 3)) rfl;have d4:=Y1.cell 4 (x:=↑(a 4)) rfl;have d5:=Y1.cell 5 (x:=↑(a 5)) rfl;have d6:=Y1.cell 6 (x:=↑(a 6)) rfl;have d7:=Y1.cell 7 (x:=↑(a 7)) rfl;have hB6:=hB5.alloc (by omega) (.cells #[.slice (A 0) (bs 0).length (c 0),.slice (A 1) (bs 1).length (c 1),.slice (A 2) (bs 2).length (c 2),.slice (A 3) (bs 3).length (c 3),.slice (A 4) (bs 4).length (c 4),.slice (A 5) (bs 5).length (c 5),.slice (A 6) (bs 6).length (c 6),.slice (A 7) (bs 7).length (c 7),↑(a 0),↑(a 1),↑(a 2),↑(a 3),↑(a 4),↑(a 5),↑(a 6),↑(a 7),↑false,↑false,↑false,↑false,↑false,↑false,↑false,↑false,↑false,↑false,↑false,↑false] 201);have V1:=Y1.alloc (.cells #[.slice (A 0) (bs 0).length (c 0),.slice (A 1) (bs 1).length (c 1),.slice (A 2) (bs 2).length (c 2),.slice (A 3) (bs 3).length (c 3),.slice (A 4) (bs 4).length (c 4),.slice (A 5) (bs 5).length (c 5),.slice (A 6) (bs 6).length (c 6),.slice (A 7) (bs 7).length (c 7),↑(a 0),↑(a 1),↑(a 2),↑(a 3),↑(a 4),↑(a 5),↑(a 6),↑(a 7),↑false,↑false,↑false,↑false,↑false,↑false,↑false,↑false,↑false,↑false,↑false,↑false] 201);have V2:=Y2.alloc (.cells #[.slice (A 0) (bs 0).length (c 0),.slice (A 1) (bs 1).length (c 1),.slice (A 2) (bs 2).length (c 2),.slice (A 3) (bs 3).length (c 3),.slice (A 4) (bs 4).length (c 4),.slice (A 5) (bs 5).length (c 5),.slice (A 6) (bs 6).length (c 6),.slice (A 7) (bs 7).length (c 7),↑(a 0),↑(a 1),↑(a 2),↑(a 3),↑(a 4),↑(a 5),↑(a 6),↑(a 7),↑false,↑false,↑false,↑false,↑false,↑false,↑false,↑false,↑false,↑false,↑false,↑false] 201);have V3:=Y3.alloc (.cells #[.slice (A 0) (bs 0).length (c 0),.slice (A 1) (bs 1).length (c 1),.slice (A 2) (bs 2).length (c 2),.slice (A 3) (bs 3).length (c 3),.slice (A 4) (bs 4).length (c 4),.slice (A 5) (bs 5).length (c 5),.slice (A 6) (bs 6).length (c 6),.slice (A 7) (bs 7).length (c 7),↑(a 0),↑(a 1),↑(a 2),↑(a 3),↑(a 4),↑(a 5),↑(a 6),↑(a 7),↑false,↑false,↑false,↑false,↑false,↑false,↑false,↑false,↑false,↑false,↑false,↑false] 201);have V4:=aJ w5 w5 rfl #[.slice (A 0) (bs 0).length (c 0),.slice (A 1) (bs 1).length (c 1),.slice (A 2) (bs 2).length (c 2),.slice (A 3) (bs 3).length (c 3),.slice (A 4) (bs 4).length (c 4),.slice (A 5) (bs 5).length (c 5),.slice (A 6) (bs 6).length (c 6),.slice (A 7) (bs 7).length (c 7),↑(a 0),↑(a 1),↑(a 2),↑(a 3),↑(a 4),↑(a 5),↑(a 6),↑(a 7),↑false,↑false,↑false,↑false,↑false,↑false,↑false,↑false,↑false,↑false,↑false,↑false] 201;have hz6:(w5.alloc (.cells #[.slice (A 0) (bs 0).length (c 0),.slice (A 1) (bs 1).length (c 1),.slice (A 2) (bs 2).length (c 2),.slice (A 3) (bs 3).length (c 3),.slice (A 4) (bs 4).length (c 4),.slice (A 5) (bs 5).length (c 5),.slice (A 6) (bs 6).length (c 6),.slice (A 7) (bs 7).length (c 7),↑(a 0),↑(a 1),↑(a 2),↑(a 3),↑(a 4),↑(a 5),↑(a 6),↑(a 7),↑false,↑false,↑false,↑false,↑false,↑false,↑false,↑false,↑false,↑false,↑false,↑false] 201)).heap.size=w5.heap.size+1:=by simp
 clear X0 X1 X2 X3 hIs hb4 hb5 hz4 Y0 Y1 Y2 Y3 hB5;go_wp2_with fail;generalize(w5.alloc (.cells #[.slice (A 0) (bs 0).length (c 0),.slice (A 1) (bs 1).length (c 1),.slice (A 2) (bs 2).length (c 2),.slice (A 3) (bs 3).length (c 3),.slice (A 4) (bs 4).length (c 4),.slice (A 5) (bs 5).length (c 5),.slice (A 6) (bs 6).length (c 6),.slice (A 7) (bs 7).length (c 7),↑(a 0),↑(a 1),↑(a 2),↑(a 3),↑(a 4),↑(a 5),↑(a 6),↑(a 7),↑false,↑false,↑false,↑false,↑false,↑false,↑false,↑false,↑false,↑false,↑false,↑false] 201))=w6 at *;generalize w5.heap.size=ab at *;clear c0 c1 c2 c3 c4 c5 c6 c7 d0 d1 d2 d3 d4 d5 d6 d7;have eA:#[.slice (A 0) (bs 0).length (c 0),.slice (A 1) (bs 1).length (c 1),.slice (A 2) (bs 2).length (c 2),.slice (A 3) (bs 3).length (c 3),.slice (A 4) (bs 4).length (c 4),.slice (A 5) (bs 5).length (c 5),.slice (A 6) (bs 6).length (c 6),.slice (A 7) (bs 7).length (c 7),↑(a 0),↑(a 1),↑(a 2),↑(a 3),↑(a 4),↑(a 5),↑(a 6),↑(a 7),↑false,↑false,↑false,↑false,↑false,↑false,↑false,↑false,↑false,↑false,↑false,↑false]=jC (λi=>.slice (A i) (bs i).length (c i)) (Air.start bs a):=rfl;rw[eA]at V4;clear eA;have DJ:=af (aL V1 (aL V2 V3));clear V1 V2 V3;have hCV:=λk hk=>af (nN (λi=>.slice (A i) (bs i).length (c i)) (Air.start bs a) k hk);have hSV:Hid (∀k,k<8->(jC (λi=>.slice (A i) (bs i).length (c i)) (Air.start bs a)).setIfInBounds k (.slice (A k) (bs k).length (c k))=jC (λi=>.slice (A i) (bs i).length (c i)) (Air.start bs a)):=af λk hk=>by
  rw[Dn _ _ k hk];refine qY (λi _=>?_) (λ_ _=>rfl) (λ_ _=>rfl) (λ_ _=>rfl) (λ_ _=>rfl);unfold upV
  split
  ·rename_i e;subst e;rfl
  ·rfl
 have xg:=λk=>af (h50 k);generalize hCA:jC (λi=>.slice (A i) (bs i).length (c i)) (Air.start bs a)=CA at *;have hCA:=af hCA
 go_loopw [12] (λi wr=>∃k:Nat,k<=8/\i=↑k/\Blk wr ab CA 201/\Only ab w6 wr) (λi _=>8-(intOf i).toNat)
 case atStart=>exact⟨0,by omega,rfl,V4,aE _ _⟩
 case round=>
  obtain⟨k,hk,rfl,hV,hO⟩:=hrel;by_cases hlt:k<8
  ·have q1:decide ((k:Int)<8)=true:=av (by omega)
   have k8:(k:Int)<8:=by omega
   have y:=hV.cell k (hCV k hlt).o;have f:=hV.frozen k;have V5:=af ((hV.set k (.slice (A k) (bs k).length (c k))).eq (hSV.o k hlt)).drew;have O5:=af (hO.set k (.slice (A k) (bs k).length (c k))).drew;have m1:=(xg k).o;have m2:=hcp.o k hlt;have m3:¬((50:Int)<(((bs k).length:Nat):Int)):=by omega
   have m4:(((bs k).length:Nat):Int)<=((c k:Nat):Int):=by omega
   clear V4 hCV hSV hV hO xg;go_wp2_with fail
   go_region
   all_goals
    go_wp2_with fail;go_roundw
    case rel=>exact⟨k+1,by omega,by go_num,V5.o,O5.o⟩
    case measure=>simp[intOf];omega
  ·obtain rfl:k=8:=by omega
   rw[show((8:Nat):Int)=8 from rfl];clear V4 hCV hSV xg;rw[<-hCA.o]at hV;have hBr:=hB6.trans (hO.below (B:=w.heap.size) (by omega) (by omega));have hzr:=hO.size;have V7:jF wr ab (λi=>.slice (A i) (bs i).length (c i)) (Air.start bs a):=jF.start hV (λi hi=>(HW.o wr hBr).2.2.2.2 i hi) (by omega) hy h50;obtain⟨v1,v2,v3⟩:=DJ.o;have U1:=v1.only hO (by omega);have U2:=v2.only hO (by omega);have U3:=v3.only hO (by omega);clear v1 v2 v3 DJ hV;generalize hx0:Air.start bs a=x0 at *;have HA0:Hid (∀i,-100000000<=(x0.s i).at_/\(x0.s i).at_<=100000000):=af λi=>by rw[<-hx0];exact ha i
   have HT:=λk hk=>af (Air.Nr fl x0 k hk);have HAt:=λk(hk:k<=fl.length)i=>af (Air.vQ (fl.take k) x0 i λf hf=>by have hm:=hmay f (bM hf);unfold Ft.may at hm;rw[nu]at hm;omega);clear hx0 hCA hy h50;generalize wr=w9 at *;go_wp2_with fail
   go_loopw [13] (λi wr=>∃(k:Nat)(V:Nat->Value),k<=fl.length/\i=↑k/\jF wr ab V ((fl.take k).foldl (λx f=>x.fault f) x0)/\Only ab w9 wr) (λi _=>fl.length-(intOf i).toNat)
   case atStart=>exact⟨0,_,by omega,rfl,by simpa using V7,aE _ _⟩
   case round=>
    obtain⟨k,V,hk,rfl,hV,hOz⟩:=hrel;clear V7;by_cases hlt:k<fl.length
    ·have q2:decide ((k:Int)<((fl.length:Nat):Int))=true:=av (by omega)
     have hBz:=hBr.trans (hOz.below (B:=w.heap.size) (by omega) (by omega));have hFr:=(HW.o wr hBz).2.2.2.1;obtain⟨Af2,cf2,hfe,-,-,hfc⟩:=hFr.at_;obtain⟨bf,off,rfl,hbf,hd⟩:=hfc (by omega);simp only[fq]at hfe;obtain⟨rfl,-,rfl⟩:=hfe;obtain⟨c0,c1,c2,u,c3,hu⟩:=hd k hlt;have hyf:=hFr.by_ _ (tY fl k hlt);have hfm:=hmay _ (tY fl k hlt);have HTk:=HT k hlt;have HAk:=HAt k (by omega);generalize fl.getD k default=f at *;obtain⟨Au,cu,rfl,-⟩:=hu.at_;have hS7:=Ni ab V _ f (.slice Au f.d.length cu) wr hV hfm (hu.more (by omega)) hyf (λi hi=>by
      have h1:=(HAk i).o;have h2:=HA0.o i;rw[cQ]at h1;unfold wide;omega)
     unfold nB ftV at hS7;rw[<-HTk.o]at hS7;have hS7:=af hS7;have hOz:=af hOz;clear hV hd hfc hu hFr HT HAt HA0 hBz;go_wp2_with fail;refine hS7.o.mono ?_;rintro e wy ⟨rfl,V',hV',hO'⟩;have hV':=af hV';have hO2:=af (hOz.o.trans hO');clear hS7;go_wp2_with fail;go_roundw
     case rel=>exact⟨k+1,V',by omega,by go_num,hV'.o,hO2.o⟩
     case measure=>simp[intOf];omega
    ·obtain rfl:k=fl.length:=by omega
     have q2:decide ((fl.length:Int)<((fl.length:Nat):Int))=false:=by simp
     rw[dz,hX]at hV;have hXa:Hid (∀i,-100005000<=(X.s i).at_/\(X.s i).at_<=100005000):=af λi=>by
      have h1:=(HAt fl.length lr i).o;have h2:=HA0.o i;rw[dz,hX]at h1;omega
     have T1:=U1.only hOz (by omega);have T2:=U2.only hOz (by omega);have T3:=U3.only hOz (by omega);have hBz:=hBr.trans (hOz.below (B:=w.heap.size) (by omega) (by omega));have hzz:=hOz.size;clear HT HAt HA0 U1 U2 U3 hBr hOz hmay hX;obtain⟨zS,zG0,zG1,-,-⟩:=HW.o wr hBz;have hZc:X.ch N s 0=Z.c:=by rw[<-hZ]
     have hZd:X.ch N s2 1=Z.d:=by rw[<-hZ]
     have hC0:=Nj (Gp Q0 w wr) g g0 g1 ab t s V X wr zS zG0 hV (by omega) (by omega) sw (λi _=>by have:=hXa.o i;unfold time;omega) swi;rw[hN,hZc]at hC0;have hC0:=af hC0;have HV:Hid (∀W,Below wr wr W->jF W ab V X):=af λW hW=>hV.below hW;have hC1:=λW(hW:Below wr wr W)=>Nk (Gp Q1 w wr) g g0 g1 ab t s2 V X W (zS.below hW zS.lt) (zG1.below hW) (hV.below hW) (by omega) (by omega) tw (λi _=>by have:=hXa.o i;unfold time;omega) twi;rw[hN,hZd]at hC1;have hC1:=af hC1;unfold ChP at hC0 hC1;clear zS zG0 zG1 hV hZc hZd hZ;go_wp2_with fail;refine hC0.o.mono ?_;rintro e wa ⟨ra,rfl,hra,hba⟩;clear hC0;have DK:=af (hC1.o wa hba);clear hC1;go_wp2_with fail;refine DK.o.mono ?_;rintro e wb ⟨rb,rfl,hrb,hbb⟩;clear DK;have xj:=hba.trans (hbb.mono hba.size);have hM:=af (wY ra rb _ _ _ _ _ _ wb (hra.below hbb) hrb (λk h=>by simp[pf,hzc k h]) (λk h=>by simp[pf,hzd k h]) (λk=>by have h1:=hra.bd k;have h2:=hrb.bd k;simp[pf]at h1 h2 ⊢;omega));clear hra hrb;go_wp2_with fail;refine hM.o.mono ?_;rintro e wc2 ⟨rc,rfl,hrc,hbc⟩;clear hM;have tZ:=xj.trans (hbc.mono xj.size);have hR:=Nq rc _ _ _ wc2 hrc;simp only[pf,dG,bA,dB,Int.add_zero,Int.zero_add]at hR;rw[show max Z.c.n Z.d.n=Z.n from rfl]at hR;have hR:=af hR;clear hrc;go_wp2_with fail;refine hR.o.mono ?_;rintro e wd ⟨vx,vy,rfl,oX,oY,hbd⟩;clear hR;obtain⟨Ax,cx,rfl,-⟩:=oX.sees.at_;obtain⟨Ay,cy,rfl,-⟩:=oY.sees.at_;have oQ:=tZ.trans (hbd.mono tZ.size);have TG:=tZ.size;have S1:=T1.below oQ T1.lt;have S2:=T2.below oQ T2.lt;have S3:=T3.below oQ T3.lt;have hVd:=HV.o wd oQ;have hBd:=hBz.trans (oQ.mono (by omega));have oX:=oX.base (B:=w.heap.size+1+1+1+1) (by omega);have oY:=oY.base (B:=w.heap.size+1+1+1+1) (by omega);have hzd:=oQ.size;clear T1 T2 T3 HV hBz tZ hbd hba hbb xj hbc oQ hC1 hzc;obtain⟨K0,hK0⟩:∃K,tk Z.n Z.c.q=K:=⟨_,rfl⟩;obtain⟨K1,hK1⟩:∃K,tk Z.n Z.d.q=K:=⟨_,rfl⟩;obtain⟨lx,hlx⟩:∃l,tl Z.n Z.c.q=l:=⟨_,rfl⟩;obtain⟨ly,hly⟩:∃l,tl Z.n Z.d.q=l:=⟨_,rfl⟩;obtain⟨P0,hP0⟩:∃P,Z.c.p=P:=⟨_,rfl⟩;obtain⟨P1,hP1⟩:∃P,Z.d.p=P:=⟨_,rfl⟩;have hE0:Hid (∀(Q:GS)W,(∀k,W.heap.size<=k->Q k)->Blk W g #[↑(g0,0),↑(g1,0)] 144->RG Q W g0 t s->(∀j,j<8->W.cell? (ab,8+j)=some ↑(X.s j).at_)->w.heap.size<=W.heap.size->iI W W (.slice Ax lx.length cx) lx->Calls Tryz.prog 122 #[↑(g,0),↑(ab,0),↑(0:Int),↑K0,.slice Ax lx.length cx,↑P0] W λe w'=>e=.returned (.tuple #[])/\RG Q w' g0 t (s.ended lx (X.jq P0))/\Only g0 W w'):=af λQ W a0 a1 a2 a3 a4 a5=>by
      have h:=Nl Q g g0 g1 ab t s X Z.n Z.c.q (.slice Ax lx.length cx) Z.c.p W a1 a2 a3 a0 ok si (by rw[hlx];exact a5) (hp0.imp id λ⟨j,e,hj⟩=>⟨j,e,by omega⟩);rw[hK0,hlx,hP0]at h;exact h
     have hE1:Hid (∀(Q:GS)W,(∀k,W.heap.size<=k->Q k)->Blk W g #[↑(g0,0),↑(g1,0)] 144->RG Q W g1 t s2->(∀j,j<8->W.cell? (ab,8+j)=some ↑(X.s j).at_)->w.heap.size<=W.heap.size->iI W W (.slice Ay ly.length cy) ly->Calls Tryz.prog 122 #[↑(g,0),↑(ab,0),↑(1:Int),↑K1,.slice Ay ly.length cy,↑P1] W λe w'=>e=.returned (.tuple #[])/\RG Q w' g1 t (s2.ended ly (X.jq P1))/\Only g1 W w'):=af λQ W a0 a1 a2 a3 a4 a5=>by
      have h:=Nn Q g g0 g1 ab t s2 X Z.n Z.d.q (.slice Ay ly.length cy) Z.d.p W a1 a2 a3 a0 ok2 si2 (by rw[hly];exact a5) (hp1.imp id λ⟨j,e,hj⟩=>⟨j,e,by omega⟩);rw[hK1,hly,hP1]at h;exact h
     have hEq:=af (aL hK0 (aL hK1 (aL hlx (aL hly (aL hP0 hP1)))));rw[hP0]at hp0;rw[hP1]at hp1;rw[hlx]at oX ⊢;rw[hly]at oY ⊢;rw[hK0,hK1,hP0,hP1];clear hK0 hK1 hlx hly hP0 hP1 ok ok2 si si2;have hcase:(P0=-1/\P1=-1/\Z.who=-1)\/(∃j:Nat,P0=-1/\P1=(j:Nat)/\Z.who=(j:Nat)/\j<N)\/(∃j:Nat,P0=(j:Nat)/\Z.who=(j:Nat)/\j<N):=by
      obtain⟨-,-,-,-,e0,e1⟩:=hEq.o;unfold jy.who;rw[e0,e1];rcases hp0 with rfl|⟨j,rfl,hj⟩
      ·rw[au (by decide)]
       rcases hp1 with rfl|⟨j,rfl,hj⟩
       ·exact .inl ⟨rfl,rfl,rfl⟩
       ·exact .inr (.inl ⟨j,rfl,rfl,rfl,hj⟩)
      ·rw[ai (by omega)]
       exact .inr (.inr ⟨j,rfl,rfl,hj⟩)
     have HC:=λf k hk=>af (xk f k hk);have HS4:=λf k hk A B X Y=>af (DL f k hk A B X Y);have HSO:=λf k hk o=>af (DR f k hk o);have hvb:=af hVd.blk;have e3:zH=hdC (λ_=>hdz):=rfl;rw[e3]at S2 S3;clear e3 hVd hp0 hp1;rcases hcase with⟨rfl,rfl,hw⟩|⟨j,rfl,rfl,hw,hj⟩|⟨j,rfl,hw,hj⟩
     ·have hw:=af hw
      go_wp2_with fail
      go_loopw [23] (λi wr=>∃(k:Nat)(f:Nat->Hd),k<=N/\i=↑k/\Blk wr (w.heap.size+1+1+1) (hdC f) 154/\Hid (∀i,i<k->f i=(⟨if(X.s i).df=true then 0 else K0,if(X.s i).df=true then 0 else K1,if(X.s i).df=true then .slice none 0 0 else .slice Ax lx.length cx,if(X.s i).df=true then .slice none 0 0 else .slice Ay ly.length cy,0⟩:Hd))/\Hid (∀i,k<=i->f i=hdz)/\Only (w.heap.size+1+1+1) wd wr) (λi _=>N-(intOf i).toNat)
      case atStart=>exact⟨0,_,by omega,rfl,S3,af (λi hi=>absurd hi (Nat.not_lt_zero _)),af (λi hi=>rfl),aE _ _⟩
      case round=>
       obtain⟨k,f,hk,rfl,hR,hH,hZf,hO⟩:=hrel;clear S3;have hbe:=hBd.trans (hO.below (B:=w.heap.size) (by omega) (by omega));obtain⟨zS,zG0,zG1,-,-⟩:=HW.o wr hbe;have hG0:=af zG0;obtain⟨⟨sl0,si0,L0,hC0,-⟩,-⟩:=zG0;obtain⟨An,cn,n0,-⟩:=hC0.c0;rw[hN]at n0;have s0:=zS.cell 0 (x:=↑(g0,0)) rfl;have hvr:=hvb.o.only hO (by omega);by_cases hlt:k<N
       ·have q3:decide ((k:Int)<((N:Nat):Int))=true:=av (by omega)
        have k8:(k:Int)<8:=by omega
        have yd:=hvr.cell (16+k) (tQ V X k (by omega));obtain⟨r0,r1,r2,r3,r4⟩:=(HC f k (by omega)).o;have z0:=hR.cell (k*5) r0;have z1:=hR.cell (k*5+1) r1;have z2:=hR.cell (k*5+2) r2;have z3:=hR.cell (k*5+3) r3;have z4:=hR.cell (k*5+4) r4;have w0:=hR.frozen (k*5);have w1:=hR.frozen (k*5+1);have w2:=hR.frozen (k*5+2);have w3:=hR.frozen (k*5+3);have w4':=hR.frozen (k*5+4);have hZk:=af (hZf.o k lr);have hZ':Hid (∀i,k+1<=i->f i=hdz):=af λi hi=>hZf.o i (by omega);have hfk:Hid (f k=⟨0,0,.slice none 0 0,.slice none 0 0,0⟩):=hZk;have hfo:Hid (∀i,i≠k->f i=f i):=af λi hi=>rfl;clear zS hC0 hbe hG0 zG1 z0 z1 z2 z3 z4 w0 w1 w2 w3 w4' r0 r1 r2 r3 r4
        cases hdf:(X.s k).df
        case true=>
         rw[hdf]at yd;have HF:Hid (∀i,i<k+1->f i=(⟨if(X.s i).df=true then 0 else K0,if(X.s i).df=true then 0 else K1,if(X.s i).df=true then .slice none 0 0 else .slice Ax lx.length cx,if(X.s i).df=true then .slice none 0 0 else .slice Ay ly.length cy,0⟩:Hd)):=af λi hi=>by
          by_cases e:i=k
          ·rw[e,hfk.o]
           simp[hdf]
          ·rw[hfo.o i e]
           exact hH.o i (by omega)
         have HZ2:Hid (∀i,k+1<=i->f i=hdz):=af λi hi=>by rw[hfo.o i (by omega)];exact hZ'.o i hi
         have hR:=af hR;have hO:=af hO;go_wp2_with fail;go_roundw
         case rel=>exact⟨k+1,f,by omega,by go_num,hR.o,HF,HZ2,hO.o⟩
         case measure=>simp[intOf];omega
        case false=>
         rw[hdf]at yd;obtain⟨r0,r1,r2,r3,r4⟩:=(HC f k (by omega)).o;have z0:=hR.cell (k*5) r0;have z1:=hR.cell (k*5+1) r1;have z2:=hR.cell (k*5+2) r2;have z3:=hR.cell (k*5+3) r3;have w0:=hR.frozen (k*5);have w1:=hR.frozen (k*5+1);have w2:=hR.frozen (k*5+2);have w3:=hR.frozen (k*5+3);have R4:=af (((((hR.set (k*5) ↑K0).set (k*5+2) (.slice Ax lx.length cx)).set (k*5+1) ↑K1).set (k*5+3) (.slice Ay ly.length cy)).eq (HS4 f k (by omega) K0 K1 (.slice Ax lx.length cx) (.slice Ay ly.length cy)).o);have O4:=af ((((hO.set (k*5) ↑K0).set (k*5+2) (.slice Ax lx.length cx)).set (k*5+1) ↑K1).set (k*5+3) (.slice Ay ly.length cy));have HF:Hid (∀i,i<k+1->upH f k {f k with A:=K0,B:=K1,X:=.slice Ax lx.length cx,Y:=.slice Ay ly.length cy} i=(⟨if(X.s i).df=true then 0 else K0,if(X.s i).df=true then 0 else K1,if(X.s i).df=true then .slice none 0 0 else .slice Ax lx.length cx,if(X.s i).df=true then .slice none 0 0 else .slice Ay ly.length cy,0⟩:Hd)):=af λi hi=>by
          by_cases e:i=k
          ·rw[e]
           simp only[upH,dG];rw[hfk.o];simp[hdf]
          ·simp only[upH,ai e]
           rw[hfo.o i e];exact hH.o i (by omega)
         have HZ2:Hid (∀i,k+1<=i->upH f k {f k with A:=K0,B:=K1,X:=.slice Ax lx.length cx,Y:=.slice Ay ly.length cy} i=hdz):=af λi hi=>by
          simp only[upH,ai (show i≠k by omega)];rw[hfo.o i (by omega)];exact hZ'.o i hi
         clear hR hO r0 r1 r2 r3 r4;go_wp2_with fail;go_roundw
         case rel=>exact⟨k+1,_,by omega,by go_num,R4.o,HF,HZ2,O4.o⟩
         case measure=>simp[intOf];omega
       ·obtain rfl:k=N:=by omega
        have q3:decide ((k:Int)<((k:Nat):Int))=false:=aj (by omega);have oXr:=oX.only hO (by omega);have oYr:=oY.only hO (by omega);have S2r:=S2.only hO (by omega);have hEa:=af (hE0.o (Gp Q0 w wr) wr (λk hk=>⟨hQ0 k (by have:=hbe.size;omega),λq=>by omega⟩) zS hG0.o (λj hj=>hvr.cell (8+j) (nA V X j hj)) hbe.size oXr.sees);have hK:Hid (Blk wr g #[↑(g0,0),↑(g1,0)] 144/\RG (Gp Q1 w wr) wr g1 t s2/\Blk wr ab (jC V X) 201/\Blk wr (w.heap.size+1+1+1) (hdC f) 154/\Blk wr (w.heap.size+1+1) (hdC λ_=>hdz) 154/\iJ wr (w.heap.size+1+1+1+1) (.slice Ax lx.length cx) lx/\iJ wr (w.heap.size+1+1+1+1) (.slice Ay ly.length cy) ly/\Below w w wr):=af ⟨zS,zG1,hvr,hR,S2r,oXr,oYr,hbe⟩;have hzr:=hbe.size;have hzo:=hR.lt;clear hE0 S1 S2 hR hO zS zG1 hvr hC0 hbe oXr oYr S2r oX oY hG0;go_wp2_with fail;refine hEa.o.mono ?_;rintro e we ⟨rfl,hGa,oa⟩;obtain⟨b1,b2,b3,b4,b5,b6,b7,b8'⟩:=hK.o;have b1:=b1.only oa hne.1;have b2:=b2.only oa (λh=>hq1 (h.imp And.left id));have b3:=b3.only oa (by omega);have b4:=b4.only oa (by omega);have b5:=b5.only oa (by omega);have b6:=b6.only oa (by omega);have b7:=b7.only oa (by omega);have b8:Kq [g0] w we:=DF b8' oa;have hze:=oa.size;have hEb:=af (hE1.o (Gp Q1 w wr) we (λk hk=>⟨hQ1 k (by omega),λq=>by omega⟩) b1 b2 (λj hj=>b3.cell (8+j) (nA V X j hj)) (by omega) b7.sees);have hK:=af (aL b4 (aL b5 (aL b6 (aL b7 (aL b8 hGa)))));clear hE1 b1 b2 b3 b4 b5 b6 b7 b8 hEa hGa b8';go_wp2_with fail;refine hEb.o.mono ?_;rintro e wf ⟨rfl,hGb,ob⟩;obtain⟨b4,b5,b6,b7,b8,hGa⟩:=hK.o;have b4:=b4.only ob (by omega);have b5:=b5.only ob (by omega);have b6:=b6.only ob (by omega);have b7:=b7.only ob (by omega);have hGa:=hGa.only ob (λh=>hq0 (h.imp And.left id));have b9:Kq [g0,g1] w wf:=DG b8 ob;have hF:Hid (∀i,i<8->nC wf (w.heap.size+1+1+1+1) k X Z a i (f i)):=af λi hi=>by
         obtain⟨e1,e2,e3,e4,-,-⟩:=hEq.o;by_cases hik:i<k
         ·rw[hH.o i hik]
          refine⟨λ_=>?_,?_,?_⟩
          ·unfold jy.hear Air.jq
           rw[e1,e2,hw.o];refine⟨rfl,rfl,?_⟩;simp only
           first
            |(rw[au (by decide)];done)
            |(rw[ai (by omega),ai (by omega),aQ];done)
          ·refine⟨(Z.hear X (a i) i).x,?_,λ_=>rfl⟩
           unfold jy.hear;simp only;rw[e3]
           cases (X.s i).df
           ·exact b6
           ·exact bR
          ·refine⟨(Z.hear X (a i) i).y,?_,λ_=>rfl⟩
           unfold jy.hear;simp only;rw[e4]
           cases (X.s i).df
           ·exact b7
           ·exact bR
         ·rw[hZf.o i (by omega)]
          exact⟨λh=>absurd h hik,⟨[],bR,λh=>absurd h hik⟩,⟨[],bR,λh=>absurd h hik⟩⟩
        have hG2:Hid (RG (Gp Q0 w wr) wf g0 t (s.ended (tl Z.n Z.c.q) (X.jq Z.c.p))/\RG (Gp Q1 w wr) wf g1 t (s2.ended (tl Z.n Z.d.q) (X.jq Z.d.p))):=af (by
         obtain⟨-,-,e3,e4,e5,e6⟩:=hEq.o;rw[e3,e4,e5,e6];exact⟨hGa,hGb⟩)
        have hzf:=ob.size;have hcs:wf.rangeAt (w.heap.size+1+1+1) 0 (hdC f).toList:=λq v hv=>by rw[bU];exact b4.cell q (by simpa using hv)
        have hth:wf.there (w.heap.size+1+1) 0 (hdC f).size:=λq hq=>⟨by rw[bU,b5.cell q (cm (by simpa[hdC]using hq))];rfl,b5.frozen _⟩;have hin:=rm;have hun:=Tryz.underlying154;have hone:=af (lH f (λi hi=>by obtain⟨l,h,-⟩:=(hF.o i hi).X;obtain⟨A,c,h,-⟩:=h.sees.at_;exact⟨A,_,c,h⟩) (λi hi=>by obtain⟨l,h,-⟩:=(hF.o i hi).Y;obtain⟨A,c,h,-⟩:=h.sees.at_;exact⟨A,_,c,h⟩));have HQ:=af b9;clear hEb hK b4 b5 b6 b7 b8 b9 hGa hGb oa ob hH hZf HC HS4 HSO n0 s0 hvb;go_wp2_with (first
         |(refine iF rfl _ _ rfl _ _ rfl _ _ hcs hun rfl hin ?_)
         |(refine gU rfl _ _ _ rfl _ _ (hdC f) rfl rfl hth hin hone.o ?_))
        have o6:Only (w.heap.size+1+1) wf (wf.setCells (w.heap.size+1+1) 0 (hdC f).toList):=Only.setCells _ _ (aE _ _);refine aK (v:=.tuple #[.agg (hdC f),↑(0:Int)]) ?_ rfl ⟨f,rfl,λi hi=>?_,(hG2.o.1.lT o6.size (λb hb hq=>o6.block b hb (λe=>by cases e;rcases hq with hq|hq;exact hq.2 ⟨by omega,by omega⟩;have:=hr0 _ hq;omega))).mono (λ_ h=>h.1) (λ_ h=>h),(hG2.o.2.lT o6.size (λb hb hq=>o6.block b hb (λe=>by cases e;rcases hq with hq|hq;exact hq.2 ⟨by omega,by omega⟩;have:=hr1 _ hq;omega))).mono (λ_ h=>h.1) (λ_ h=>h),DI HQ.o o6 (by omega)⟩
        ·rw[aV rfl]
         have hld:=ig (P:=Tryz.prog) (wf.setCells (w.heap.size+1+1) 0 (hdC f).toList) (w.heap.size+1+1) 0 154 (hdC f).toList _ (cO _ _ _ _ (by simpa using hth)) hun rfl hin;simp only[fT]at hld;show((asAddr (.pointer (some ⟨w.heap.size+1+1,0,none⟩))).run Tryz.prog _).andThen _=_;simp only[asAddr,iA,fR,hld]
         rfl
        ·exact((hF.o i hi).only o6 (by omega)).base (by omega)
     all_goals
      have hw:=af hw;go_wp2_with fail
      go_loopw [23] (λi wr=>∃(k:Nat)(f:Nat->Hd),k<=N/\i=↑k/\Blk wr (w.heap.size+1+1+1) (hdC f) 154/\Hid (∀i,i<k->f i=(⟨if(X.s i).df=true then 0 else K0,if(X.s i).df=true then 0 else K1,if(X.s i).df=true then .slice none 0 0 else .slice Ax lx.length cx,if(X.s i).df=true then .slice none 0 0 else .slice Ay ly.length cy,((X.s j).at_-a i)⟩:Hd))/\Hid (∀i,k<=i->f i=hdz)/\Only (w.heap.size+1+1+1) wd wr) (λi _=>N-(intOf i).toNat)
      case atStart=>exact⟨0,_,by omega,rfl,S3,af (λi hi=>absurd hi (Nat.not_lt_zero _)),af (λi hi=>rfl),aE _ _⟩
      case round=>
       obtain⟨k,f,hk,rfl,hR,hH,hZf,hO⟩:=hrel;clear S3;have hbe:=hBd.trans (hO.below (B:=w.heap.size) (by omega) (by omega));obtain⟨zS,zG0,zG1,-,-⟩:=HW.o wr hbe;have hG0:=af zG0;obtain⟨⟨sl0,si0,L0,hC0,-⟩,-⟩:=zG0;obtain⟨An,cn,n0,-⟩:=hC0.c0;rw[hN]at n0;have s0:=zS.cell 0 (x:=↑(g0,0)) rfl;have hvr:=hvb.o.only hO (by omega);by_cases hlt:k<N
       ·have q3:decide ((k:Int)<((N:Nat):Int))=true:=av (by omega)
        have k8:(k:Int)<8:=by omega
        have j8:(j:Int)<8:=by omega
        have q4:decide ((0:Int)<=((j:Nat):Int))=true:=av (by omega);have y1:=hvr.cell (8+j) (nA V X j (by omega));have y2:=(S1.only hO (by omega)).cell k (l7 a k (by omega));have wo:IntKind.i64.wrap ((X.s j).at_-a k)=(X.s j).at_-a k:=aO _ (by have:=hXa.o j;have:=ha k;omega);have yd:=hvr.cell (16+k) (tQ V X k (by omega));obtain⟨r0,r1,r2,r3,r4⟩:=(HC f k (by omega)).o;have z0:=hR.cell (k*5) r0;have z1:=hR.cell (k*5+1) r1;have z2:=hR.cell (k*5+2) r2;have z3:=hR.cell (k*5+3) r3;have z4:=hR.cell (k*5+4) r4;have w0:=hR.frozen (k*5);have w1:=hR.frozen (k*5+1);have w2:=hR.frozen (k*5+2);have w3:=hR.frozen (k*5+3);have w4':=hR.frozen (k*5+4);have hZk:=af (hZf.o k lr);have hZ':Hid (∀i,k+1<=i->f i=hdz):=af λi hi=>hZf.o i (by omega);have R5:=(((hR.set (k*5+4) ↑((X.s j).at_-a k:Int)).eq (HSO f k (by omega) ((X.s j).at_-a k)).o)).drew;have O5:=(hO.set (k*5+4) ↑((X.s j).at_-a k:Int)).drew;have R5:=af R5;have O5:=af O5;have hvx:=af (hvr.only (Only.set (aE (w.heap.size+1+1+1) wr) (k*5+4) ↑((X.s j).at_-a k:Int)).drew (by omega));clear zS hC0 hvr hbe hG0 zG1;go_wp2_with fail
        go_region
        all_goals
         have hR:=R5.o;have hO:=O5.o;have hvr:=hvx.o;clear R5 O5 hvx z0 z1 z2 z3 z4 w0 w1 w2 w3 w4' r0 r1 r2 r3 r4 y1 y2 yd wo n0 s0;generalize(wr.setCell (w.heap.size+1+1+1,k*5+4) ↑((X.s j).at_-a k:Int)).drew=wx at *;have yd:=hvr.cell (16+k) (tQ V X k (by omega));obtain⟨f',hf'⟩:∃f',upH f k {f k with o:=((X.s j).at_-a k)}=f':=⟨_,rfl⟩;have hfk:Hid (f' k=⟨0,0,.slice none 0 0,.slice none 0 0,((X.s j).at_-a k)⟩):=af (by rw[<-hf'];simp only[upH,dG];rw[hZk.o];rfl);have hfo:Hid (∀i,i≠k->f' i=f i):=af λi hi=>by rw[<-hf'];simp only[upH,ai hi]
         rw[hf']at hR;clear hf'
         cases hdf:(X.s k).df
         case true=>
          rw[hdf]at yd;have HF:Hid (∀i,i<k+1->f' i=(⟨if(X.s i).df=true then 0 else K0,if(X.s i).df=true then 0 else K1,if(X.s i).df=true then .slice none 0 0 else .slice Ax lx.length cx,if(X.s i).df=true then .slice none 0 0 else .slice Ay ly.length cy,((X.s j).at_-a i)⟩:Hd)):=af λi hi=>by
           by_cases e:i=k
           ·rw[e,hfk.o]
            simp[hdf]
           ·rw[hfo.o i e]
            exact hH.o i (by omega)
          have HZ2:Hid (∀i,k+1<=i->f' i=hdz):=af λi hi=>by rw[hfo.o i (by omega)];exact hZ'.o i hi
          have hR:=af hR;have hO:=af hO;go_wp2_with fail;go_roundw
          case rel=>exact⟨k+1,f',by omega,by go_num,hR.o,HF,HZ2,hO.o⟩
          case measure=>simp[intOf];omega
         case false=>
          rw[hdf]at yd;obtain⟨r0,r1,r2,r3,r4⟩:=(HC f' k (by omega)).o;have z0:=hR.cell (k*5) r0;have z1:=hR.cell (k*5+1) r1;have z2:=hR.cell (k*5+2) r2;have z3:=hR.cell (k*5+3) r3;have w0:=hR.frozen (k*5);have w1:=hR.frozen (k*5+1);have w2:=hR.frozen (k*5+2);have w3:=hR.frozen (k*5+3);have R4:=af (((((hR.set (k*5) ↑K0).set (k*5+2) (.slice Ax lx.length cx)).set (k*5+1) ↑K1).set (k*5+3) (.slice Ay ly.length cy)).eq (HS4 f' k (by omega) K0 K1 (.slice Ax lx.length cx) (.slice Ay ly.length cy)).o);have O4:=af ((((hO.set (k*5) ↑K0).set (k*5+2) (.slice Ax lx.length cx)).set (k*5+1) ↑K1).set (k*5+3) (.slice Ay ly.length cy));have HF:Hid (∀i,i<k+1->upH f' k {f' k with A:=K0,B:=K1,X:=.slice Ax lx.length cx,Y:=.slice Ay ly.length cy} i=(⟨if(X.s i).df=true then 0 else K0,if(X.s i).df=true then 0 else K1,if(X.s i).df=true then .slice none 0 0 else .slice Ax lx.length cx,if(X.s i).df=true then .slice none 0 0 else .slice Ay ly.length cy,((X.s j).at_-a i)⟩:Hd)):=af λi hi=>by
           by_cases e:i=k
           ·rw[e]
            simp only[upH,dG];rw[hfk.o];simp[hdf]
           ·simp only[upH,ai e]
            rw[hfo.o i e];exact hH.o i (by omega)
          have HZ2:Hid (∀i,k+1<=i->upH f' k {f' k with A:=K0,B:=K1,X:=.slice Ax lx.length cx,Y:=.slice Ay ly.length cy} i=hdz):=af λi hi=>by
           simp only[upH,ai (show i≠k by omega)];rw[hfo.o i (by omega)];exact hZ'.o i hi
          clear hR hO r0 r1 r2 r3 r4;go_wp2_with fail;go_roundw
          case rel=>exact⟨k+1,_,by omega,by go_num,R4.o,HF,HZ2,O4.o⟩
          case measure=>simp[intOf];omega
       ·obtain rfl:k=N:=by omega
        have q3:decide ((k:Int)<((k:Nat):Int))=false:=aj (by omega);have oXr:=oX.only hO (by omega);have oYr:=oY.only hO (by omega);have S2r:=S2.only hO (by omega);have hEa:=af (hE0.o (Gp Q0 w wr) wr (λk hk=>⟨hQ0 k (by have:=hbe.size;omega),λq=>by omega⟩) zS hG0.o (λj hj=>hvr.cell (8+j) (nA V X j hj)) hbe.size oXr.sees);have hK:Hid (Blk wr g #[↑(g0,0),↑(g1,0)] 144/\RG (Gp Q1 w wr) wr g1 t s2/\Blk wr ab (jC V X) 201/\Blk wr (w.heap.size+1+1+1) (hdC f) 154/\Blk wr (w.heap.size+1+1) (hdC λ_=>hdz) 154/\iJ wr (w.heap.size+1+1+1+1) (.slice Ax lx.length cx) lx/\iJ wr (w.heap.size+1+1+1+1) (.slice Ay ly.length cy) ly/\Below w w wr):=af ⟨zS,zG1,hvr,hR,S2r,oXr,oYr,hbe⟩;have hzr:=hbe.size;have hzo:=hR.lt;clear hE0 S1 S2 hR hO zS zG1 hvr hC0 hbe oXr oYr S2r oX oY hG0;go_wp2_with fail;refine hEa.o.mono ?_;rintro e we ⟨rfl,hGa,oa⟩;obtain⟨b1,b2,b3,b4,b5,b6,b7,b8'⟩:=hK.o;have b1:=b1.only oa hne.1;have b2:=b2.only oa (λh=>hq1 (h.imp And.left id));have b3:=b3.only oa (by omega);have b4:=b4.only oa (by omega);have b5:=b5.only oa (by omega);have b6:=b6.only oa (by omega);have b7:=b7.only oa (by omega);have b8:Kq [g0] w we:=DF b8' oa;have hze:=oa.size;have hEb:=af (hE1.o (Gp Q1 w wr) we (λk hk=>⟨hQ1 k (by omega),λq=>by omega⟩) b1 b2 (λj hj=>b3.cell (8+j) (nA V X j hj)) (by omega) b7.sees);have hK:=af (aL b4 (aL b5 (aL b6 (aL b7 (aL b8 hGa)))));clear hE1 b1 b2 b3 b4 b5 b6 b7 b8 hEa hGa b8';go_wp2_with fail;refine hEb.o.mono ?_;rintro e wf ⟨rfl,hGb,ob⟩;obtain⟨b4,b5,b6,b7,b8,hGa⟩:=hK.o;have b4:=b4.only ob (by omega);have b5:=b5.only ob (by omega);have b6:=b6.only ob (by omega);have b7:=b7.only ob (by omega);have hGa:=hGa.only ob (λh=>hq0 (h.imp And.left id));have b9:Kq [g0,g1] w wf:=DG b8 ob;have hF:Hid (∀i,i<8->nC wf (w.heap.size+1+1+1+1) k X Z a i (f i)):=af λi hi=>by
         obtain⟨e1,e2,e3,e4,-,-⟩:=hEq.o;by_cases hik:i<k
         ·rw[hH.o i hik]
          refine⟨λ_=>?_,?_,?_⟩
          ·unfold jy.hear Air.jq
           rw[e1,e2,hw.o];refine⟨rfl,rfl,?_⟩;simp only
           first
            |(rw[au (by decide)];done)
            |(rw[ai (by omega),ai (by omega),aQ];done)
          ·refine⟨(Z.hear X (a i) i).x,?_,λ_=>rfl⟩
           unfold jy.hear;simp only;rw[e3]
           cases (X.s i).df
           ·exact b6
           ·exact bR
          ·refine⟨(Z.hear X (a i) i).y,?_,λ_=>rfl⟩
           unfold jy.hear;simp only;rw[e4]
           cases (X.s i).df
           ·exact b7
           ·exact bR
         ·rw[hZf.o i (by omega)]
          exact⟨λh=>absurd h hik,⟨[],bR,λh=>absurd h hik⟩,⟨[],bR,λh=>absurd h hik⟩⟩
        have hG2:Hid (RG (Gp Q0 w wr) wf g0 t (s.ended (tl Z.n Z.c.q) (X.jq Z.c.p))/\RG (Gp Q1 w wr) wf g1 t (s2.ended (tl Z.n Z.d.q) (X.jq Z.d.p))):=af (by
         obtain⟨-,-,e3,e4,e5,e6⟩:=hEq.o;rw[e3,e4,e5,e6];exact⟨hGa,hGb⟩)
        have hzf:=ob.size;have hcs:wf.rangeAt (w.heap.size+1+1+1) 0 (hdC f).toList:=λq v hv=>by rw[bU];exact b4.cell q (by simpa using hv)
        have hth:wf.there (w.heap.size+1+1) 0 (hdC f).size:=λq hq=>⟨by rw[bU,b5.cell q (cm (by simpa[hdC]using hq))];rfl,b5.frozen _⟩;have hin:=rm;have hun:=Tryz.underlying154;have hone:=af (lH f (λi hi=>by obtain⟨l,h,-⟩:=(hF.o i hi).X;obtain⟨A,c,h,-⟩:=h.sees.at_;exact⟨A,_,c,h⟩) (λi hi=>by obtain⟨l,h,-⟩:=(hF.o i hi).Y;obtain⟨A,c,h,-⟩:=h.sees.at_;exact⟨A,_,c,h⟩));have HQ:=af b9;clear hEb hK b4 b5 b6 b7 b8 b9 hGa hGb oa ob hH hZf HC HS4 HSO n0 s0 hvb;go_wp2_with (first
         |(refine iF rfl _ _ rfl _ _ rfl _ _ hcs hun rfl hin ?_)
         |(refine gU rfl _ _ _ rfl _ _ (hdC f) rfl rfl hth hin hone.o ?_))
        have o6:Only (w.heap.size+1+1) wf (wf.setCells (w.heap.size+1+1) 0 (hdC f).toList):=Only.setCells _ _ (aE _ _);refine aK (v:=.tuple #[.agg (hdC f),↑(0:Int)]) ?_ rfl ⟨f,rfl,λi hi=>?_,(hG2.o.1.lT o6.size (λb hb hq=>o6.block b hb (λe=>by cases e;rcases hq with hq|hq;exact hq.2 ⟨by omega,by omega⟩;have:=hr0 _ hq;omega))).mono (λ_ h=>h.1) (λ_ h=>h),(hG2.o.2.lT o6.size (λb hb hq=>o6.block b hb (λe=>by cases e;rcases hq with hq|hq;exact hq.2 ⟨by omega,by omega⟩;have:=hr1 _ hq;omega))).mono (λ_ h=>h.1) (λ_ h=>h),DI HQ.o o6 (by omega)⟩
        ·rw[aV rfl]
         have hld:=ig (P:=Tryz.prog) (wf.setCells (w.heap.size+1+1) 0 (hdC f).toList) (w.heap.size+1+1) 0 154 (hdC f).toList _ (cO _ _ _ _ (by simpa using hth)) hun rfl hin;simp only[fT]at hld;show((asAddr (.pointer (some ⟨w.heap.size+1+1,0,none⟩))).run Tryz.prog _).andThen _=_;simp only[asAddr,iA,fR,hld]
         rfl
        ·exact((hF.o i hi).only o6 (by omega)).base (by omega)
end
end Go.Proofs.YteadkhigkmijiaaGreat
