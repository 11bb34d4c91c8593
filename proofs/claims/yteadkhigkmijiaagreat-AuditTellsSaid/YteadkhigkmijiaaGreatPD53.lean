/- Texts RaJ, DwN in one. -/
import Derived.Test.YteadkhigkmijiaaGreatPD1
import Derived.Test.YteadkhigkmijiaaGreatPD19
import Derived.Test.YteadkhigkmijiaaGreatPD35
import Derived.Test.YteadkhigkmijiaaGreatPD48
import Derived.Test.YteadkhigkmijiaaGreatPD51
set_option linter.all false
namespace Go.Proofs.YteadkhigkmijiaaGreat
section
set_option maxRecDepth 100000
set_option maxHeartbeats 4000000
open Go.RowKit
open Tb (D T)
theorem three(wr:World)(c1 c2 c3:Array Value)(t t3:TypeId):Blk (((wr.alloc (.cells c1 t)).alloc (.cells c2 t)).alloc (.cells c3 t3)).drew wr c1 t/\Blk (((wr.alloc (.cells c1 t)).alloc (.cells c2 t)).alloc (.cells c3 t3)).drew (wr.heap.size+1) c2 t/\Blk (((wr.alloc (.cells c1 t)).alloc (.cells c2 t)).alloc (.cells c3 t3)).drew (wr.heap.size+2) c3 t3:=
 ⟨(((aJ wr _ rfl c1 t).alloc _).alloc _).drew,((aJ (wr.alloc (.cells c1 t)) _ (by simp) c2 t).alloc _).drew,(aJ ((wr.alloc (.cells c1 t)).alloc (.cells c2 t)) _ (by simp) c3 t3).drew⟩
theorem Ob(l:List R4)(v:Value)(w:World)(hv:jl w w v l)(h:wF l)(h2l:l.length=0\/l.length=2):
  Calls Tryz.prog 63 #[v] w λe w'=>(∃ga gn gr,e=.returned (.tuple #[.pointer (some ⟨ga,0,none⟩),↑(0:Int)])/\Blk w' ga #[v,.slice (some ⟨gn,0,none⟩) l.length l.length,.slice (some ⟨gr,0,none⟩) l.length l.length] 162/\Blk w' gn (two l.length λ_=>0) 3/\Blk w' gr (two l.length λ_=>0) 3/\(gn≠gr/\ga≠gn/\ga≠gr)/\w.heap.size<=ga/\w.heap.size<=gn/\w.heap.size<=gr)/\Below w w w':=by
 have HL:=af h2l;clear h2l;obtain⟨A,c,rfl,v1,v2,v3,-⟩:=hv.at_;unfold maxLen at v2;have h8:=h.1;have d0:decide ((8:Int)<((l.length:Nat):Int))=false:=aj (by omega);have HX:Hid (0<l.length->∃b off,A=some ⟨b,off,none⟩/\∀W,Below w w W->∀k,k<l.length->mJ W b (off+k*4) (l.getD k default)):=af λh0=>by
  obtain⟨b,off,hA,hb,hc⟩:=v3 h0;exact⟨b,off,hA,λW hW k hk=>(hc k hk).keep λo=>hW.cell (p:=(b,o)) (by show b<_;omega)⟩
 have hm:=af h.2;obtain⟨i0,hi,hz0,hz1,hz2⟩:=fV oh;have hmk:=λW=>af (Oc (P:=Tryz.prog) 33 3 i0 ↑(0:Int) Tryz.underlying33 hi hz0 .i64 .i64 l.length l.length lr (by rw[hz2];omega) (by omega) W);clear v3 hv h
 go_enter Tryz.func63,Tryz.ntmps63
 go_wp2_with fail
 go_loopw [4] (λi wr=>∃k:Nat,k<=l.length/\i=↑k/\Below w w wr) (λi _=>l.length-(intOf i).toNat)
 case atStart=>exact⟨0,by omega,rfl,ah _ _⟩
 case round=>
  obtain⟨k,hk,rfl,b⟩:=hrel;by_cases hlt:k<l.length
  ·have r1:decide ((k:Int)<((l.length:Nat):Int))=true:=av (by omega)
   obtain⟨bl,off,rfl,HG⟩:=HX.o (by omega);obtain⟨x0,x1,x2,x3⟩:=HG _ b k hlt;have D6:=hm.o k hlt;clear HG HX hm hmk;generalize l.getD k default=q at *;have hq:=Od q;rw[av D6]at hq;clear D6;obtain⟨qn,ql,qh,qs⟩:=q;have hq2:∀n a b t,Tb.wi n a b=t->∀W,Hid (Calls Tryz.prog 91 #[.int .i64 n,.int .i64 a,.int .i64 b] W λe w'=>e=.returned (.bool t)/\W=w'):=by
    rintro n a b t rfl W;exact af (Oe n a b W)
   simp only at x0 x1 x2 x3;have hb2:=b.alloc b.size (.cells #[↑qn,↑ql,↑qh,↑qs] 69);unfold uj at hq;simp only[bg]at hq;obtain⟨⟨⟨q0,q1⟩,q2⟩,q3⟩:=hq;have f0:=hq2 _ _ _ _ q0;have f1:=hq2 _ _ _ _ q1;have f2:=hq2 _ _ _ _ q2;have f3:=hq2 _ _ _ _ q3;clear q0 q1 q2 q3 hq2;go_wp2_with fail;refine(f0 _).o.mono ?_;rintro _ w2 ⟨rfl,rfl⟩;go_wp2_with fail;refine(f1 _).o.mono ?_;rintro _ w3 ⟨rfl,rfl⟩;go_wp2_with fail;refine(f2 _).o.mono ?_;rintro _ w4 ⟨rfl,rfl⟩;go_wp2_with fail;refine(f3 _).o.mono ?_;rintro _ w5 ⟨rfl,rfl⟩;go_wp2;go_roundw
   case rel=>exact⟨k+1,by omega,by go_num,hb2⟩
   case measure=>simp[intOf];omega
  ·obtain rfl:k=l.length:=by omega
   have m0:=λW=>(hmk W).o;have eM:madeCells #[Value.int .i64 0] l.length=two l.length (λ_=>0):=by rcases HL.o with e|e<;>rw[e]<;>kernel_rfl
   have eMH:=af eM;clear HX hm hmk eM;go_wp2_with fail
   go_region
   all_goals
    go_wp2;go_ret2
    first
     |exact⟨⟨wr.heap.size+2,wr.heap.size,wr.heap.size+1,rfl,(three wr (madeCells #[.int .i64 0] l.length) (madeCells #[.int .i64 0] l.length) #[.slice A l.length c,.slice (some (wr,0)) l.length l.length,.slice (some (wr.heap.size+1,0)) l.length l.length] 3 162).2.2,(three wr _ _ _ _ _).1.eq eMH.o,(three wr _ _ _ _ _).2.1.eq eMH.o,by omega,by have:=b.size;omega⟩,(((b.alloc b.size _).alloc (by have:=b.size;simp;omega) _).alloc (by have:=b.size;simp;omega) _).drew⟩
     |exact⟨⟨wr.heap.size+2,wr.heap.size+1,wr.heap.size,rfl,(three wr (madeCells #[.int .i64 0] l.length) (madeCells #[.int .i64 0] l.length) #[.slice A l.length c,.slice (some (wr.heap.size+1,0)) l.length l.length,.slice (some (wr,0)) l.length l.length] 3 162).2.2,(three wr _ _ _ _ _).2.1.eq eMH.o,(three wr _ _ _ _ _).1.eq eMH.o,by omega,by have:=b.size;omega⟩,(((b.alloc b.size _).alloc (by have:=b.size;simp;omega) _).alloc (by have:=b.size;simp;omega) _).drew⟩
theorem Jh(B:Nat)(t:Tb.T)(v u:Value)(i dr:Int)(l:List R4)(w:World)(hv:jh w w v t.ns)(hu:jl w w u l)(h2l:l.length=0\/l.length=2)(hm:NM.may t i dr l)(hBw:B<=w.heap.size)(R:Nat->Prop)(hvB:t.ns≠[]->∀k,v.ownBlock=some k->B<=k\/R k)(huB:l≠[]->∀k,u.ownBlock=some k->B<=k\/R k):
  Calls Tryz.prog 27 #[jW t v,↑i,↑dr,u] w λe w'=>∃g,e=.returned (.tuple #[.pointer (some ⟨g,0,none⟩),↑(0:Int)])/\RS false ⟨λk=>B<=k,R⟩ w' g (NM.new t i.toNat dr l)/\Below w w w':=by
 obtain⟨ht,⟨hi,hj⟩,⟨hd,he⟩,hl8,hlm⟩:=hm;have h:wF l:=⟨hl8,hlm⟩;have hvu:=af (aL (aL hv hvB) (aL hu huB));obtain⟨A,c,rfl,n1,n2,-,-⟩:=hv.at_;obtain⟨Ar,cr,rfl,r1,r2,-,-⟩:=hu.at_;have hb0:=(ah w w).alloc lr (.cells #[.slice A t.ns.length c,↑t.dr,↑t.wi,↑t.lm] 31);have hX:=aJ w w rfl #[.slice A t.ns.length c,↑t.dr,↑t.wi,↑t.lm] 31;have hu1:=(hu.below hb0).more hb0.size;have hI:=λW(hW:Below w w W)=>af (sD t (.slice A t.ns.length c) W W lr ((hv.below hW).more hW.size));have hN:=af (Ob l _ _ hu1 h h2l);have tm:=Tb.T.may ht;have n8:=tm.n8;have d1:=tm.dr.1;have d2:=tm.dr.2;rw[ht]at hI;unfold jW at *;have H2L:=af h2l;clear hu1 hv hu h hvB huB h2l
 go_enter Tryz.func27,Tryz.ntmps27
 go_wp2_with fail;refine hN.o.mono ?_;rintro _ w2 ⟨⟨ga,gn,gr,rfl,hA,hNn,hRr,hne,hlo⟩,b2⟩;have hz0:(w.alloc (.cells #[.slice A t.ns.length c,↑t.dr,↑t.wi,↑t.lm] 31)).heap.size=w.heap.size+1:=by simp
 rw[hz0]at hlo;have hX2:=hX.below b2 (by simp);have b2:=hb0.trans (b2.mono hb0.size);have x0:=hX2.cell 0 (x:=.slice A t.ns.length c) rfl;have x1:=hX2.cell 1 (x:=↑t.dr) rfl;have x2:=hX2.cell 2 (x:=↑t.wi) rfl;have x3:=hX2.cell 3 (x:=↑t.lm) rfl;have hI:=hI w2 b2;clear hX hb0;go_wp2_with fail;refine hI.o.mono ?_;rintro _ w3 ⟨rfl,b3⟩;have hO3:=af (aL (hA.below b3 hA.lt) (aL (hNn.below b3 hNn.lt) (hRr.below b3 hRr.lt)));have hlt2:ga<w2.heap.size/\gn<w2.heap.size/\gr<w2.heap.size:=⟨hA.lt,hNn.lt,hRr.lt⟩;have hz3:=b3.size;clear hA hNn hRr;have hX3:=hX2.below b3 hX2.lt;have b3:=b2.trans (b3.mono b2.size);clear x0 x1 x2 x3;have R7:=λW=>af (xq 0 W);have R8:=λW=>af (Og (λk=>B<=k) W);have x0:=hX3.cell 0 (x:=.slice A t.ns.length c) rfl;have x1:=hX3.cell 1 (x:=↑t.dr) rfl;have x2:=hX3.cell 2 (x:=↑t.wi) rfl;have x3:=hX3.cell 3 (x:=↑t.lm) rfl;have HS:∀W,Below w3 w3 W->W.cell? (w,0)=some (.slice A t.ns.length c)/\W.cell? (w,1)=some ↑t.dr/\W.cell? (w,2)=some ↑t.wi/\W.cell? (w,3)=some ↑t.lm:=λW hW=>by
  have hY:=hX3.below hW hX3.lt;exact⟨hY.cell 0 rfl,hY.cell 1 rfl,hY.cell 2 rfl,hY.cell 3 rfl⟩
 have hb1:=ah w3 w3;go_wp2_with fail;have S0:=af (HS _ hb1.drew);have HH:=af (aL hX3 HS);clear hX3 HS hX2
 go_region_held3 (λW=>W.cell? (w,0)=some (.slice A t.ns.length c)/\W.cell? (w,1)=some ↑t.dr/\W.cell? (w,2)=some ↑t.wi/\W.cell? (w,3)=some ↑t.lm) ((first|exact S0.o|exact S1.o|exact S2.o|exact HH.o.2 _ (b7.alloc b7.size _)))
  (first
   |(go_at_call 64;refine(R7 w3.drew).o.mono ?_;rintro _ w4 ⟨rfl,hT4,b4,-⟩;(have b5:=hb1.drew.trans (b4.mono (by simp)));(have S1:=af (HH.o.2 w4 b5)))
   |(go_at_call 65;refine(R8 w4).o.mono ?_;rintro _ w6 ⟨g8,rfl,hg8,hS8,b6⟩;(have b7:=b5.trans (b6.mono b5.size));(have S2:=af (HH.o.2 w6 b7)))
   |fail)
 clear S0 S1 S2 HH R7 R8 x0 x1 x2 x3;have hgm:(w3.drew).heap.size=w3.heap.size:=by simp
 have TH:w3.heap.size<w4.heap.size:=by have:=hT4.lt;simpa using this
 have TI:g8<w6.heap.size:=SRt.lt (hS8 []);have hb4:=b4.size;have hO3:=hO3.o;have hw3:=b3.size;have hbA:Below w3 w3 w6:=b7;have hA6:=hO3.1.below hbA (by omega);have hN6:=hO3.2.1.below hbA (by omega);have hR6:=hO3.2.2.below hbA (by omega);have hT6:=hT4.below b6 hT4.lt;have bw6:=b3.trans (b7.mono b3.size);have hfin:Hid (RS false ⟨λk=>B<=k,R⟩ (w6.alloc (.cells (rnc (NM.new t i.toNat dr l) (.slice A t.ns.length c) (.slice none 0 0) (.slice none 0 0) ⟨w3.heap.size,g8,ga,gn,gr⟩ false) 93)) w6 (NM.new t i.toNat dr l)):=af ⟨⟨w3.heap.size,g8,ga,gn,gr⟩,by
  obtain⟨⟨hv,hvB⟩,hu,huB⟩:=hvu.o;have bw:=bw6.alloc bw6.size (.cells (rnc (NM.new t i.toNat dr l) (.slice A t.ns.length c) (.slice none 0 0) (.slice none 0 0) ⟨w3.heap.size,g8,ga,gn,gr⟩ false) 93);have TJ:w.heap.size<=w2.heap.size:=b2.size;have own:∀f,f∈ga::(⟨w3.heap.size,g8,ga,gn,gr⟩:RX).own w6.heap.size->w.heap.size<=f:=λf hf=>by
   simp only[RX.own,bq,cM,fL]at hf;omega
  refine⟨⟨_,_,_,_,aJ w6 _ rfl _ _,hA6.alloc _,⟨(hv.below bw).more bw.size,λf hf h0 e=>?_,λh0 k e=>hvB h0 k e,ja.nil,λf hf e=>by simp[jv]at e,λh0=>absurd rfl h0,λk e=>by simp[jv]at e,jr.nil,(hu.below bw).more bw.size,λf hf h0 e=>?_,λh0 k e=>huB h0 k e⟩⟩,⟨hT6.1.alloc _,hT6.2⟩,(hS8 _).below ((ah _ _).alloc lr _),hN6.alloc _,hR6.alloc _,?_,λk hk=>aW hBw (own k hk),H2L.o,(by show 0<=4;omega),λk hk=>⟨by show 0<16;omega,by show 0<16;omega,Nat.or_self 0⟩⟩
  ·have:=qz hv h0 e
   have:=own f (aT _ hf);omega
  ·have:=xB hu h0 e
   have:=own f (aT _ hf);omega
  ·simp only[RX.own,ia,bq,cM,fL,not_or,iz,gu,fQ]
   omega⟩
 have xC:Hid (Below w w (w6.alloc (.cells (rnc (NM.new t i.toNat dr l) (.slice A t.ns.length c) (.slice none 0 0) (.slice none 0 0) ⟨w3.heap.size,g8,ga,gn,gr⟩ false) 93))):=af (bw6.alloc bw6.size _);have eI:((i.toNat:Nat):Int)=i:=by omega
 unfold rnc NM.new at hfin xC;simp only[eI]at hfin xC;go_wp2;go_ret2;exact⟨_,rfl,hfin.o,xC.o⟩
end
section
set_option maxRecDepth 100000
set_option maxHeartbeats 8000000
open Go.RowKit
theorem NJ.vv{t:Tb.T}{i:Nat}{dr:Int}{l:List R4}(h:NM.may t (i:Nat) dr l):NJ (NM.new t i dr l):=by
 obtain⟨h1,⟨h2,h3⟩,h4,-⟩:=h;have hi:i<t.ns.length:=by omega
 have hm:=Tb.T.may h1;have hd:=hm.dr;have hn:=hm.n4;refine⟨h1,hi,by show(0:Nat)<=5;omega,by show(0:Int)<=0/\(0:Int)<=65535;omega,by show 0<t.ns.length;omega,⟨by show(0:Nat)<=8;omega,λx hx=>(by cases hx)⟩,sC (m:=NM.new t i dr l) h1 hi,qD,by show -1000<=dr/\dr<=1000;omega⟩
theorem RG.newT{Rs:List Nat}{W:World}{g:Nat}{t:Tb.T}{v:Value}(hB:Blk W g (rgc t v (.slice none 0 0) false 0 0 0) 176)(hT:jh W g v t.ns)(hR:∀k,v.ownBlock=some k->k∈Rs):RG ⟨λk=>k=g,λk=>k∈Rs⟩ W g t (newG t):=by
 have hg:=hB.lt;refine⟨⟨0,0,.slice none 0 0,⟨⟨v,hB,hT.more (by omega),λh0 e=>?_,λh0 k e=>.inr (hR k e)⟩,ja.nil,by simp[jv],λh=>absurd rfl h,rfl⟩,λh=>Bool.noConfusion h⟩,⟨rfl,rfl,rfl,λj hj=>rfl,by show 0<=4;omega⟩⟩;obtain⟨A,c,rfl,h1,h2,h3,h4⟩:=hT.at_;obtain⟨b,off,rfl,hb,-⟩:=h3 (aX.2 h0);simp only[Value.ownBlock,bB]at e;omega
theorem Je(Rs:List Nat)(t:Tb.T)(v:Value)(w:World)(hv:jh w w v t.ns)(his:t.is=true)(hRv:∀k,v.ownBlock=some k->k∈Rs):
  Calls Tryz.prog 62 #[jW t v] w λe w'=>∃g,e=.returned (.tuple #[.pointer (some ⟨g,0,none⟩),↑(0:Int)])/\RG ⟨λk=>k=g,λk=>k∈Rs⟩ w' g t (newG t)/\w.heap.size<=g/\Below w w w':=by
 have hvk:=hv;obtain⟨A,c,rfl,v1,v2,v3,-⟩:=hv.at_;have hB0:=(ah w w).alloc lr (.cells #[.slice A t.ns.length c,↑t.dr,↑t.wi,↑t.lm] 31);have hX:=aJ w _ rfl #[.slice A t.ns.length c,↑t.dr,↑t.wi,↑t.lm] 31;have hI:=af (sD t (.slice A t.ns.length c) (w.alloc (.cells #[.slice A t.ns.length c,↑t.dr,↑t.wi,↑t.lm] 31)) w (by simp) (hv.below hB0));unfold jW at hI ⊢;have hvk:=af hvk;have hRv:=af hRv;clear hv v3;have t0:=hX.cell 0 (x:=.slice A t.ns.length c) rfl;have t1:=hX.cell 1 (x:=↑t.dr) rfl;have t2:=hX.cell 2 (x:=↑t.wi) rfl;have t3:=hX.cell 3 (x:=↑t.lm) rfl;rw[his]at hI
 go_enter Tryz.func62,Tryz.ntmps62
 go_wp2_with fail;refine hI.o.mono ?_;rintro e w2 ⟨rfl,hb2⟩;have hB2:=hB0.trans (hb2.mono hB0.size);have hX2:=hX.below hb2 hX.lt;have t0:=hX2.cell 0 (x:=.slice A t.ns.length c) rfl;have t1:=hX2.cell 1 (x:=↑t.dr) rfl;have t2:=hX2.cell 2 (x:=↑t.wi) rfl;have t3:=hX2.cell 3 (x:=↑t.lm) rfl;have hfin:=af (show RG ⟨λk=>k=w2.heap.size,λk=>k∈Rs⟩ (w2.alloc (.cells (rgc t (.slice A t.ns.length c) (.slice none 0 0) false 0 0 0) 176)) w2 t (newG t)from RG.newT (aJ w2 _ rfl _ _) (((hvk.o.below hB2).below ((ah w2 w2).alloc lr _ |>.mono hB2.size)).more hB2.size) hRv.o);clear hX hI hB0 hb2;go_wp2_with fail;go_ret2;exact⟨_,rfl,hfin.o,hB2.size,hB2.alloc hB2.size _⟩
theorem Jf(Rs:List Nat)(t:Tb.T)(v:Value)(w:World)(hv:jh w w v t.ns)(his:t.is=true)(hRv:∀k,v.ownBlock=some k->k∈Rs):
  Calls Tryz.prog 26 #[jW t v] w λe w'=>∃gs ga gb,e=.returned (.tuple #[.pointer (some ⟨gs,0,none⟩),↑(0:Int)])/\Blk w' gs #[.pointer (some ⟨ga,0,none⟩),.pointer (some ⟨gb,0,none⟩)] 144/\RG ⟨λk=>k=ga,λk=>k∈Rs⟩ w' ga t (newG t)/\RG ⟨λk=>k=gb,λk=>k∈Rs⟩ w' gb t (newG t)/\(w.heap.size<=ga/\ga<gb/\gb<gs)/\Below w w w':=by
 have hR:=λW(hb:Below w w W)=>af (Je Rs t v W ((hv.below hb).more hb.size) his hRv);obtain⟨A,c,rfl,v1,v2,v3,-⟩:=hv.at_;have hB0:=(ah w w).alloc lr (.cells #[.slice A t.ns.length c,↑t.dr,↑t.wi,↑t.lm] 31);have hX:=aJ w _ rfl #[.slice A t.ns.length c,↑t.dr,↑t.wi,↑t.lm] 31;have hI:=af (sD t (.slice A t.ns.length c) (w.alloc (.cells #[.slice A t.ns.length c,↑t.dr,↑t.wi,↑t.lm] 31)) w (by simp) (hv.below hB0));unfold jW at hI hR ⊢;clear hv v3 hRv;have t0:=hX.cell 0 (x:=.slice A t.ns.length c) rfl;have t1:=hX.cell 1 (x:=↑t.dr) rfl;have t2:=hX.cell 2 (x:=↑t.wi) rfl;have t3:=hX.cell 3 (x:=↑t.lm) rfl;rw[his]at hI
 go_enter Tryz.func26,Tryz.ntmps26
 go_wp2_with fail;refine hI.o.mono ?_;rintro e w2 ⟨rfl,hb2⟩;have hB2:=hB0.trans (hb2.mono hB0.size);have hX2:=hX.below hb2 hX.lt;have t0:=hX2.cell 0 (x:=.slice A t.ns.length c) rfl;have t1:=hX2.cell 1 (x:=↑t.dr) rfl;have t2:=hX2.cell 2 (x:=↑t.wi) rfl;have t3:=hX2.cell 3 (x:=↑t.lm) rfl;have h1:=hR _ hB2;clear hX hI hB0 hb2;go_wp2_with fail;refine h1.o.mono ?_;rintro e w3 ⟨ga,rfl,hGa,hla,hb3⟩;have hB3:=hB2.trans (hb3.mono hB2.size);have hX3:=hX2.below hb3 hX2.lt;have t0:=hX3.cell 0 (x:=.slice A t.ns.length c) rfl;have t1:=hX3.cell 1 (x:=↑t.dr) rfl;have t2:=hX3.cell 2 (x:=↑t.wi) rfl;have t3:=hX3.cell 3 (x:=↑t.lm) rfl;have h2:=hR _ hB3;have hS2:=hB2.size;clear hX2 hb3 hB2 h1;go_wp2_with fail;refine h2.o.mono ?_;rintro e w4 ⟨gb,rfl,hGb,hlb,hb4⟩;have hB4:=hB3.trans (hb4.mono hB3.size);have hfin:=af (show Blk (w4.alloc (.cells #[↑(ga,0),↑(gb,0)] 144)) w4 #[↑(ga,0),↑(gb,0)] 144/\RG ⟨λk=>k=ga,λk=>k∈Rs⟩ (w4.alloc (.cells #[↑(ga,0),↑(gb,0)] 144)) ga t (newG t)/\RG ⟨λk=>k=gb,λk=>k∈Rs⟩ (w4.alloc (.cells #[↑(ga,0),↑(gb,0)] 144)) gb t (newG t)/\(w.heap.size<=ga/\ga<gb/\gb<w4.heap.size)/\Below w w (w4.alloc (.cells #[↑(ga,0),↑(gb,0)] 144))from
  ⟨aJ w4 _ rfl _ _,(hGa.below hb4).below ((ah w4 w4).alloc lr _),hGb.below ((ah w4 w4).alloc lr _),⟨by omega,by have:=hGa.lt;omega,hGb.lt⟩,hB4.alloc hB4.size _⟩)
 clear hX3 hb4 hB3 h2 t0 t1 t2 t3 hGa hGb hB4;go_wp2_with fail;go_ret2;exact⟨_,ga,gb,rfl,hfin.o⟩
structure DN(S:Nat)(t:Tb.T)(dl:List Int)(l:List R4)(Rs:List Nat)(x gs g0 g1 k:Nat)(gp:Nat->Nat)(F:Nat->List Nat)(v:Value)(X:Array Value)(w0 W:World):Prop where
 blk:Blk W x #[v,↑(gs,0),↑(0:Int)] 74
 star:Blk W gs #[↑(g0,0),↑(g1,0)] 144
 s:RG ⟨λk=>k=g0,λk=>k∈Rs⟩ W g0 t (newG t)
 tt:RG ⟨λk=>k=g1,λk=>k∈Rs⟩ W g1 t (newG t)
 lst:W.ownsRow (gs+1) 77 1 v k (ptrs gp k)
 nd:∀i,i<k->RN jO (F i) Rs W (gp i) (NM.new t i (dl.getD i 0) l)
 own:∀i,i<k->∀f,f∈F i->(gs+1<=f/\f<W.heap.size)/\v.ownBlock≠some f
 dis:∀i j,i<k->j<k->i≠j->∀f,f∈F i->f∉F j
 tab:Blk W S X 31
 lo:S<x/\x<g0/\g0<g1/\g1<gs
 rs:∀f,f∈Rs->f<S
 bw:Below S w0 W
section
variable {S:Nat}{t:Tb.T}{dl:List Int}{l:List R4}{Rs:List Nat}{x gs g0 g1 k:Nat}{gp:Nat->Nat}{F:Nat->List Nat}{v:Value}{X:Array Value}{w0 W W':World}
theorem RG.one{g:Nat}{s:G}(h:RG ⟨λk=>k=g,λk=>k∈Rs⟩ W g t s)(hs:W.heap.size<=W'.heap.size)(hg:W'.heap[g]?=W.heap[g]?)(hr:∀f,f∈Rs->W'.heap[f]?=W.heap[f]?):RG ⟨λk=>k=g,λk=>k∈Rs⟩ W' g t s:=
 h.lT hs λk _ hk=>hk.elim (λe=>by rw[show k=g from e];exact hg) λe=>hr k e
theorem DN.keep(h:DN S t dl l Rs x gs g0 g1 k gp F v X w0 W)(hs:W.heap.size<=W'.heap.size)(hb:∀b,b<W.heap.size->v.ownBlock≠some b->W'.heap[b]?=W.heap[b]?)(bw:Below S w0 W')(hl:W'.ownsRow (gs+1) 77 1 v k (ptrs gp k)):DN S t dl l Rs x gs g0 g1 k gp F v X w0 W':=by
 obtain⟨l1,l2,l3,l4⟩:=h.lo;have hgs:=h.star.lt;have hn:∀p,p<=gs->v.ownBlock≠some p:=λp hp e=>by have:=(h.lst.lt p e).1;omega
 have hb':∀p,p<=gs->W'.heap[p]?=W.heap[p]?:=λp hp=>hb p (by omega) (hn p hp);have hr:∀f,f∈Rs->W'.heap[f]?=W.heap[f]?:=λf hf=>hb' f (by have:=h.rs f hf;omega);exact⟨(hb' x (by omega)).trans h.blk,(hb' gs (by omega)).trans h.star,h.s.one hs (hb' g0 (by omega)) hr,h.tt.one hs (hb' g1 (by omega)) hr,hl,λi hi=>(h.nd i hi).keep hs (λf hf=>hb f (h.own i hi f hf).1.2 (h.own i hi f hf).2) hr,λi hi f hf=>⟨⟨(h.own i hi f hf).1.1,aN (h.own i hi f hf).1.2 hs⟩,(h.own i hi f hf).2⟩,h.dis,(hb' S (by omega)).trans h.tab,h.lo,h.rs,bw⟩
theorem DN.below(h:DN S t dl l Rs x gs g0 g1 k gp F v X w0 W)(b:Below W W W'):DN S t dl l Rs x gs g0 g1 k gp F v X w0 W':=
 h.keep b.size (λk hk _=>b.block k hk) (h.bw.trans (b.mono (by have:=h.lo;have:=h.star.lt;omega))) (cB (row:=none) h.lst ⟨b.os,b.tape,b.output,b.size,λk hk _=>b.block k hk⟩ (by cases v.ownBlock<;>simp))
theorem DN.node(h:DN S t dl l Rs x gs g0 g1 k gp F v X w0 W)(b:Below W W W'){g:Nat}{F':List Nat}(hn:RN jO F' Rs W' g (NM.new t k (dl.getD k 0) l))(hF:∀f,f∈F'->W.heap.size<=f/\f<W'.heap.size):
  ∃gp' F'',gp' k=g/\DN S t dl l Rs x gs g0 g1 k gp' F'' v X w0 W'/\RN jO (F'' k) Rs W' (gp' k) (NM.new t k (dl.getD k 0) l)/\(∀f,f∈F'' k->(gs+1<=f/\f<W'.heap.size)/\v.ownBlock≠some f)/\∀i,i<k->∀f,f∈F'' k->f∉F'' i:=by
 have h':=h.below b;have hgs:=h.star.lt;have e1:∀i,i<k->je gp k g i=gp i:=λi hi=>kB _ _ _ (by omega);have e2:∀i,i<k->je F k F' i=F i:=λi hi=>kB _ _ _ (by omega);have ep:ptrs (je gp k g) k=ptrs gp k:=dK λi hi=>by rw[e1 i (cA.1 hi)]
 refine⟨je gp k g,je F k F',j9 _ _ _,⟨h'.blk,h'.star,h'.s,h'.tt,by rw[ep];exact h'.lst,λi hi=>by rw[e1 i hi,e2 i hi];exact h'.nd i hi,λi hi f hf=>by rw[e2 i hi]at hf;exact h'.own i hi f hf,λi j hi hj hne f hf=>by rw[e2 i hi]at hf;rw[e2 j hj];exact h'.dis i j hi hj hne f hf,h'.tab,h'.lo,h'.rs,h'.bw⟩,by rw[j9,j9];exact hn,λf hf=>?_,λi hi f hf=>?_⟩
 ·rw[j9]at hf
  have:=hF f hf;refine⟨⟨by omega,this.2⟩,λe=>?_⟩;have:=(h.lst.lt f e).2;omega
 ·rw[j9]at hf
  rw[e2 i hi];intro hm;have:=hF f hf;have:=(h.own i hi f hm).1.2;omega
theorem DN.push(h:DN S t dl l Rs x gs g0 g1 k gp F v X w0 W)(hn:RN jO (F k) Rs W (gp k) (NM.new t k (dl.getD k 0) l))(hF:∀f,f∈F k->(gs+1<=f/\f<W.heap.size)/\v.ownBlock≠some f)(hd:∀i,i<k->∀f,f∈F k->f∉F i){v':Value}(e:Ext W W' v v')(hl:W'.ownsRow (gs+1) 77 1 v' (k+1) (ptrs gp k++[.pointer (some (gp k,0))])):
  DN S t dl l Rs x gs g0 g1 (k+1) gp F v' X w0 (W'.setCell (x,0) v'):=by
 obtain⟨l1,l2,l3,l4⟩:=h.lo;have hgs:=h.star.lt;have hx:=h.blk.lt;have hn0:∀p,p<=gs->v.ownBlock≠some p:=λp hp e=>by have:=(h.lst.lt p e).1;omega
 have hb:∀b,b<W.heap.size->v.ownBlock≠some b->W'.heap[b]?=W.heap[b]?:=λb h1 h2=>e.grown.block b h1 (λe=>h2 e.symm);have o:Only x W' (W'.setCell (x,0) v'):=(aE _ _).set 0 _;have hsz:=e.size;have hb2:∀b,b<W.heap.size->b≠x->v.ownBlock≠some b->(W'.setCell (x,0) v').heap[b]?=W.heap[b]?:=λb h1 h2 h3=>(o.block b (by omega) (by intro e;cases e;exact h2 rfl)).trans (hb b h1 h3);have hb3:∀p,p<=gs->p≠x->(W'.setCell (x,0) v').heap[p]?=W.heap[p]?:=λp hp hne=>hb2 p (by omega) hne (hn0 p hp);have hr:∀f,f∈Rs->(W'.setCell (x,0) v').heap[f]?=W.heap[f]?:=λf hf=>hb3 f (by have:=h.rs f hf;omega) (by have:=h.rs f hf;omega);have sE:W.heap.size<=(W'.setCell (x,0) v').heap.size:=aW hsz o.size;have ep:ptrs gp (k+1)=ptrs gp k++[.pointer (some (gp k,0))]:=by unfold ptrs;rw[cZ,List.map_append];rfl
 have nds:∀i,i<k+1->RN jO (F i) Rs W (gp i) (NM.new t i (dl.getD i 0) l):=λi hi=>by
  by_cases ei:i=k
  ·subst ei;exact hn
  ·exact h.nd i (by omega)
 have owns:∀i,i<k+1->∀f,f∈F i->(gs+1<=f/\f<W.heap.size)/\v.ownBlock≠some f:=λi hi=>by
  by_cases ei:i=k
  ·subst ei;exact hF
  ·exact h.own i (by omega)
 have hX:Blk W' x #[v,↑(gs,0),↑(0:Int)] 74:=(hb x hx (hn0 x (by omega))).trans h.blk;refine⟨(hX.set 0 v').eq (by simp),(hb3 gs (by omega) (by omega)).trans h.star,h.s.one sE (hb3 g0 (by omega) (by omega)) hr,h.tt.one sE (hb3 g1 (by omega) (by omega)) hr,by
   rw[ep];exact cB (row:=some x) hl o (.inr λe'=>by have:=(hl.lt x e').1;omega),λi hi=>(nds i hi).keep sE (λf hf=>hb2 f (owns i hi f hf).1.2 (by have:=(owns i hi f hf).1.1;omega) (owns i hi f hf).2) hr,λi hi f hf=>⟨⟨(owns i hi f hf).1.1,aN (owns i hi f hf).1.2 sE⟩,λe'=>?_⟩,λi j hi hj hne f hf=>?_,(hb3 S (by omega) (by omega)).trans h.tab,h.lo,h.rs,?_⟩
 ·rcases e.lies f e' with h1|h1
  ·have:=(owns i hi f hf).1.2;omega
  ·exact(owns i hi f hf).2 h1
 ·by_cases ei:i=k
  ·subst ei;exact hd j (by omega) f hf
  ·by_cases ej:j=k
   ·subst ej;exactλhm=>hd i (by omega) f hm hf
   ·exact h.dis i j (by omega) (by omega) hne f hf
 ·exact h.bw.trans ((e.toBelow (B:=S) (by omega) (λj hj=>by have:=(h.lst.lt j hj).1;omega)).setCell (p:=(x,0)) (by show S<=x;omega) v')
theorem DN.done(h:DN S t dl l Rs x gs g0 g1 k gp F v X w0 W)(hk:0<k):∃D,RD D Rs k t W x (WM.new t dl l)/\∀p,p∈D->p∈Rs\/S<=p:=by
 have hx:=h.blk.lt;obtain⟨l1,l2,l3,l4⟩:=h.lo;have hgs:=h.star.lt;rcases h.lst.2 with⟨-,e⟩|⟨nb,cap,cur,rfl,hB,hg,hn,hc,hs,ht⟩
 ·omega
 ·have hnl:nb<W.heap.size:=(bT.1 hg).1
  have hfx:∀p,p∈DP.fx ⟨nb,gs,g0,g1,cap,Rs,gp,F⟩ x->p=x\/p=nb\/p=gs\/p=g0\/p=g1:=λp hp=>by simpa[DP.fx]using hp
  have hfl:∀p,p∈DP.fx ⟨nb,gs,g0,g1,cap,Rs,gp,F⟩ x->S<p/\p<W.heap.size:=λp hp=>by
   rcases hfx p hp with e|e|e|e|e<;>omega
  refine⟨_,⟨⟨nb,gs,g0,g1,cap,Rs,gp,F⟩,rfl,⟨h.blk,h.star,h.s.mono (λk e=>.inl e) λ_ e=>e,h.tt.mono (λk e=>.inl e) λ_ e=>e,λi hi=>?_,λi hi=>h.nd i hi,λi hi f hf=>(h.own i hi f hf).1.2,λf hf=>?_,λ_ h=>h,λi hi p hp hm=>?_,h.dis,?_,λp hp=>⟨λhm=>?_,λhm=>by cases hm⟩,(λp hp=>by cases hp),hn⟩⟩,λp hp=>?_⟩
  ·have e1:cur.toList[i]?=some ↑(gp i,0):=by
    have:(cur.toList.take (k*1))[i]?=(ptrs gp k)[i]?:=by rw[ht]
    rw[List.getElem?_take_of_lt (by omega)]at this;rw[this];simp[ptrs,hi]
   simp only[World.cell?,hg];simpa using e1
  ·rcases hf with e|e|e
   ·exact(hfl f e).2
   ·have:=h.rs f e;omega
   ·cases e
  ·obtain⟨⟨a,a'⟩,b⟩:=h.own i hi p hm
   rcases hp with e|e|e
   ·rcases hfx p e with e|e|e|e|e
    ·omega
    ·exact b (by rw[e];rfl)
    ·omega
    ·omega
    ·omega
   ·have:=h.rs p e;omega
   ·cases e
  ·simp only[DP.fx,ia,bq,cM,fL,not_or,fQ,iz,gu]
   refine⟨⟨?_,?_,?_,?_⟩,⟨?_,?_,?_⟩,⟨?_,?_⟩,?_⟩<;>omega
  ·have:=h.rs p hm;have:=(hfl p hp).1;omega
  ·rcases DP.kA.1 hp with e|e|⟨i,hi,e⟩
   ·exact .inr (by have:=(hfl p e).1;omega)
   ·exact .inl e
   ·exact .inr (by have:=(h.own i hi p e).1.1;omega)
end
theorem Jg(Rs:List Nat)(t:Tb.T)(v u:Value)(i:Nat)(dr:Int)(l:List R4)(w:World)(hv:jh w w v t.ns)(hu:jl w w u l)(h2l:l.length=0\/l.length=2)(hm:NM.may t (i:Nat) dr l)(hRv:∀k,v.ownBlock=some k->k∈Rs)(hRu:∀k,u.ownBlock=some k->k∈Rs):
  Calls Tryz.prog 27 #[jW t v,↑(i:Nat),↑dr,u] w λe w'=>∃g F',e=.returned (.tuple #[.pointer (some ⟨g,0,none⟩),↑(0:Int)])/\RN jO F' Rs w' g (NM.new t i dr l)/\(∀f,f∈F'->w.heap.size<=f/\f<w'.heap.size)/\Below w w w':=by
 refine(Jh w t v u (i:Nat) dr l w hv hu h2l hm lr (λk=>k∈Rs) (λ_ k e=>.inr (hRv k e)) (λ_ k e=>.inr (hRu k e))).mono ?_;rintro e w' ⟨g,rfl,⟨x,hr⟩,hb⟩;rw[aQ]at hr;refine⟨g,List.range' w (w'.heap.size-w.heap.size),rfl,⟨⟨false,x,trivial,hr.cut (λk hk hl=>List.mem_range'_1.2 ⟨hk,?_⟩) λ_ h=>h⟩,NJ.vv hm⟩,λf hf=>?_,hb⟩
 ·have:=hb.size
  have:w.heap.size<=k:=hk;omega
 ·have:=List.mem_range'_1.1 hf
  have:=hb.size;omega
theorem Ji(Rs:List Nat)(t:Tb.T)(tv dv rv:Value)(dl:List Int)(l:List R4)(W:World)(ht:jh W W tv t.ns)(hd:ja W W dv dl)(hr:jl W W rv l)(his:t.is=true)(hN:dl.length=t.ns.length)(hmay:∀i,i<t.ns.length->NM.may t (i:Nat) (dl.getD i 0) l)(h2l:l.length=0\/l.length=2)(hRv:∀k,tv.ownBlock=some k->k∈Rs)(hRu:∀k,rv.ownBlock=some k->k∈Rs)(hRl:∀f,f∈Rs->f<W.heap.size):
  Calls Tryz.prog 11 #[jW t tv,dv,rv] W λe w'=>∃x D,e=.returned (.tuple #[.pointer (some ⟨x,0,none⟩),↑(0:Int)])/\RD D Rs t.ns.length t w' x (WM.new t dl l)/\(∀p,p∈D->p∈Rs\/W.heap.size<=p)/\Below W W w':=by
 have hn4:=(Tb.T.may his).n4;have hn8:=(Tb.T.may his).n8;have hbx:=(ah W W).alloc lr (.cells #[tv,↑t.dr,↑t.wi,↑t.lm] 31);have X:=aJ W W rfl #[tv,↑t.dr,↑t.wi,↑t.lm] 31;have hT:=λW'(hb:Below W W W')=>(ht.below hb).more hb.size;have hI:=af (sD t tv (W.alloc (.cells #[tv,↑t.dr,↑t.wi,↑t.lm] 31)) W (by simp) (ht.below hbx));rw[his]at hI;have hS:=λW'(hb:Below W W W')=>af (Jf Rs t tv W' (hT W' hb) his hRv);obtain⟨Ad,cd,rfl,d1,d2,d3,d4⟩:=hd.at_;obtain⟨At,ct,rfl,-⟩:=ht.at_;have hNd:=λ(k:Nat)(hk:k<t.ns.length)(wr:World)(hb:Below W W wr)=>af (Jg Rs t (.slice At t.ns.length ct) rv k (dl.getD k 0) l wr (hT wr hb) ((hr.below hb).more hb.size) h2l (hmay k hk) hRv hRu);unfold jW at hI hS hNd ⊢;rw[hN]at d1 d3 d4 ⊢;have q0:(((t.ns.length:Nat):Int) != ((t.ns.length:Nat):Int))=false:=by simp
 have hdc:Hid (∀(k:Nat)(wr:World),k<t.ns.length->Below W W wr->∃b off,Ad=some ⟨b,off,none⟩/\wr.cell? ⟨b,off+k,none⟩=some ↑(dl.getD k 0)):=af λk wr hk hb=>by
  obtain⟨b,off,e,hlt,hc⟩:=d3 (by omega);exact⟨b,off,e,(hb.cell (p:=(b,off+k)) hlt).trans (hc k hk)⟩
 clear d3 d4 ht hd hr hmay hRv hRu;have hRl:=af hRl;generalize hNe:t.ns.length=N at *
 go_enter Tryz.func11,Tryz.ntmps11
 have x0:=X.cell 0 (x:=.slice At N ct) rfl;have x1:=X.cell 1 (x:=↑t.dr) rfl;have x2:=X.cell 2 (x:=↑t.wi) rfl;have x3:=X.cell 3 (x:=↑t.lm) rfl;go_wp2_with fail;refine hI.o.mono ?_;rintro e w1 ⟨rfl,hb1⟩;have X1:=X.below hb1 X.lt;have hB1:=hbx.trans (hb1.mono (by simp));clear x0 x1 x2 x3 X hI hbx hb1;have X2:=X1.alloc (.cells #[.slice none 0 0,.pointer none,↑(0:Int)] 74);have hB2:=hB1.alloc hB1.size (.cells #[.slice none 0 0,.pointer none,↑(0:Int)] 74);have Y2:=aJ w1 w1 rfl #[.slice none 0 0,.pointer none,↑(0:Int)] 74;have hXw:W.heap.size<w1.heap.size:=X1.lt;have x0:=X1.cell 0 (x:=.slice At N ct) rfl;have y0:=X2.cell 0 (x:=.slice At N ct) rfl;have y1:=X2.cell 1 (x:=↑t.dr) rfl;have y2:=X2.cell 2 (x:=↑t.wi) rfl;have y3:=X2.cell 3 (x:=↑t.lm) rfl;have hS2:=hS _ hB2;clear hS;go_wp2_with fail;refine hS2.o.mono ?_;rintro e w3 ⟨gs,g0,g1,rfl,hst,hg0,hg1,hlo,hb3⟩;have X3:=X2.below hb3 X2.lt;have Y3:=Y2.below hb3 Y2.lt;have hB3:=hB2.trans (hb3.mono hB2.size);have f3:=Y3.frozen 1;have c3:=Y3.cell 1 (x:=.pointer none) rfl;have hx3:=Y3.lt;have Aw:w1.heap.size<g0:=by have:=hlo.1;simp at this;omega
 have o3:Only w1 w3 (w3.setCell (w1,1) ↑(gs,0)):=(aE _ _).set 1 _;have ob:∀p,p<w3.heap.size->p≠w1.heap.size->(w3.setCell (w1,1) ↑(gs,0)).heap[p]?=w3.heap[p]?:=λp h1 h2=>o3.block p h1 (by intro e;cases e;exact h2 rfl);have hr3:∀f,f∈Rs->(w3.setCell (w1,1) ↑(gs,0)).heap[f]?=w3.heap[f]?:=λf hf=>ob f (by have:=hRl.o f hf;omega) (by have:=hRl.o f hf;omega);have hMW:Hid (DN W t dl l Rs w1 gs g0 g1 0 (λ_=>0) (λ_=>[]) (.slice none 0 0) #[.slice At N ct,↑t.dr,↑t.wi,↑t.lm] W (w3.setCell (w1,1) ↑(gs,0))):=
  af ⟨(Y3.set 1 _).eq (by simp),(ob gs hst.lt (by omega)).trans hst,hg0.one o3.size (ob g0 hg0.lt (by omega)) hr3,hg1.one o3.size (ob g1 hg1.lt (by omega)) hr3,dX _ _ _ _,λi hi=>by omega,λi hi=>by omega,λi j hi=>by omega,X3.other (w1,1) (by show W.heap.size≠w1.heap.size;omega) _,⟨hXw,Aw,hlo.2⟩,hRl.o,hB3.setCell (p:=(w1.heap.size,1)) (by show W.heap.size<=w1.heap.size;omega) _⟩
 clear hst hg0 hg1 hlo Aw ob hr3 o3 hx3;clear x0 y0 y1 y2 y3 X1 X2 X3 Y2 Y3 hS2 hB1 hB2 hB3 hb3;generalize w1.heap.size=x at *;go_wp2_with fail;generalize w3.setCell (x,1) ↑(gs,0)=w4 at *;clear f3 c3
 go_loopw [9] (λi wr=>∃(k:Nat)(gp:Nat->Nat)(F:Nat->List Nat)(v:Value),k<=N/\i=↑(k:Nat)/\DN W t dl l Rs x gs g0 g1 k gp F v #[.slice At N ct,↑t.dr,↑t.wi,↑t.lm] W wr) (λi _=>N-(intOf i).toNat)
 case atStart=>exact⟨0,_,_,_,by omega,rfl,hMW.o⟩
 case round=>
  clear hMW;obtain⟨k,gp,F,v,hk,rfl,h⟩:=hrel;by_cases hlt:k<N
  ·have r1:decide ((k:Int)<(N:Nat))=true:=by simp;omega
   obtain⟨b,off,rfl,hdr⟩:=hdc.o k wr (by omega) h.bw;have x0:=h.tab.cell 0 (x:=.slice At N ct) rfl;have x1:=h.tab.cell 1 (x:=↑t.dr) rfl;have x2:=h.tab.cell 2 (x:=↑t.wi) rfl;have x3:=h.tab.cell 3 (x:=↑t.lm) rfl;have hN4:=hNd k hlt wr.drew h.bw.drew;have hD:=af (h.below (ah _ wr).drew);have HS:∀W',Below wr wr W'->W'.cell? (W,0)=some (.slice At N ct)/\W'.cell? (W,1)=some ↑t.dr/\W'.cell? (W,2)=some ↑t.wi/\W'.cell? (W,3)=some ↑t.lm/\W'.cell? (b,off+k)=some ↑(dl.getD k 0):=λW' hW=>by
    have h':=h.tab.below hW h.tab.lt;obtain⟨b',off',e',hc'⟩:=hdc.o k W' (by omega) (h.bw.trans (hW.mono h.bw.size))
    cases e'
    exact⟨h'.cell 0 rfl,h'.cell 1 rfl,h'.cell 2 rfl,h'.cell 3 rfl,hc'⟩
   have hbr:=(ah wr wr).drew;have S0:=af (HS _ hbr);have HH:=af HS;clear HS;obtain⟨y,hy0⟩:∃y,y=dl.getD k 0:=⟨_,rfl⟩;have hy:=af hy0;rw[<-hy0]at hdr hN4 HH S0;clear hy0;clear h;go_wp2_with fail;clear x0 x1 x2 x3 hdr
   go_region_held3 (λW'=>W'.cell? (W,0)=some (.slice At N ct)/\W'.cell? (W,1)=some ↑t.dr/\W'.cell? (W,2)=some ↑t.wi/\W'.cell? (W,3)=some ↑t.lm/\W'.cell? (b,off+k)=some ↑y) ((first|exact S0.o|exact S1.o))
    (first
     |(go_at_call 27;refine hN4.o.mono ?_;rintro e w5 ⟨g,F',rfl,hn,hF,hb5⟩;(rw[hy.o]at hn);(obtain⟨gp',F'',eg,h5,hn5,hF5,hd5⟩:=hD.o.node hb5 hn hF);subst eg;(have S1:=af (HH.o _ (hbr.trans (hb5.mono hbr.size)))))
     |fail)
   clear hN4 hb5 hD S0 S1 HH hn hF;have Tj:=h5.lo;have hxg:=h5.star.lt;have hx5:=h5.blk.lt;have hl5:=h5.lst;have c0:=h5.blk.cell 0 (x:=v) rfl;have hvx:v.ownBlock≠some x:=λe=>by have:=(hl5.lt x e).1;omega
   have hsrc:=Jj w5 77 w5.heap.size (gp' k) rfl;go_wp2_with (at_builtin;go_loud (refine og _ rfl (.tmp 56) (.tmp 58) 71 rfl (gs+1) 77 _ 1 8 Jk rfl (by omega) Tryz.underlying71 v k _ (hl5.alloc _) rfl _ 1 _ rfl hsrc (by simp;omega) (by simp[maxLen];omega) (by omega) ?_));intro v6 w6 hl6 hx6;obtain⟨b6,e6,rfl⟩:∃b6 e6,v6=.slice (some ⟨b6,0,none⟩) (k+1) e6:=by
    rcases hl6.2 with⟨-,e⟩|⟨g6,Jl,Tk,e,-⟩
    ·omega
    ·exact⟨g6,Jl,e⟩
   have hE:=((Ext.refl w5 v).alloc (.cells #[↑(gp' k,0)] 77)).trans hx6;have hX6:Blk w6 x #[v,↑(gs,0),↑(0:Int)] 74:=(hE.grown.block x hx5 (λe=>hvx e.symm)).trans h5.blk;have c6:=hX6.cell 0 (x:=v) rfl;have f6:=hX6.frozen 0;have h7:=af (h5.push hn5 hF5 hd5 hE hl6);clear h5 hE hl6 hx6 hX6 c0 hl5 hsrc hn5 hF5 hd5;go_wp2_with fail;go_roundw
   case rel=>exact⟨k+1,gp',F'',_,by omega,by go_num,h7.o⟩
   case measure=>simp[intOf];omega
  ·obtain rfl:k=N:=by omega
   have r1:decide ((k:Int)<(k:Nat))=false:=by simp
   have hbw:=af h.bw;have hdn:=af (h.done (by omega));clear h;go_wp2_with fail;go_ret2;obtain⟨D,hD1,hD2⟩:=hdn.o;exact⟨x,D,rfl,hD1,hD2,hbw.o⟩
end
end Go.Proofs.YteadkhigkmijiaaGreat
