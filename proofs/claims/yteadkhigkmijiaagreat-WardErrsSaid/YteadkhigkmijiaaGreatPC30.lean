/- Texts SrJ, SrK, GdG, GdL, SrN, SrQ, SrS, SrT, SrW, SqH, SrX, NdNil, NpM, NjA in one. -/
import Derived.Deep.MidRow
import Derived.Deep.RegionWith
import Derived.Test.YteadkhigkmijiaaGreatPC1
import Derived.Test.YteadkhigkmijiaaGreatPC12
import Derived.Test.YteadkhigkmijiaaGreatPC23
import Derived.Test.YteadkhigkmijiaaGreatPC26
import Derived.Test.YteadkhigkmijiaaGreatPC28
import Derived.Test.YteadkhigkmijiaaGreatPC29
set_option linter.all false
namespace Go.Proofs.YteadkhigkmijiaaGreat
section
set_option maxRecDepth 100000
set_option maxHeartbeats 8000000
open Go.RowKit
open Tb (D T)
def gz:G:=⟨λ_=>false,0,0,0,[],0,false,0,0⟩
theorem Fy(s:G):∀v∈(grd s).toList,v.oneCell'=true:=by
 simp[grd,Value.oneCell']
theorem Fz{P:Program}{md:Region.Mode}{ops:Array Oper}{Q:Exit->Act->World->Prop}{S:World->Prop}{fuel:Nat}{listed:Array Bool}{a:Act}{w:World}{i:Nat}{o:Oper}(ho:ops[i]?=some o)(hg:o.guard=none)(h:o.wp P a w (λa' w'=>S w'/\wpAnyH P md ops Q S fuel (listed.setIfInBounds i true) a' w') Q):
  wpOp P ops Q i (λa' w'=>S w'/\wpAnyH P md ops Q S fuel (listed.setIfInBounds i true) a' w') a w:=by
 unfold wpOp;rw[ho];simp only;rw[au (by simp[Region.wanted,hg])];exact .inl h
theorem FA:(Tryz.prog.info? 115).map (λi=>i.size)=some 20:=by kernel_rfl
def qv(cs:Array Value)(o:Nat):List Value->Array Value
 |[]=>cs
 |v::r=>qv (cs.setIfInBounds o v) (o+1) r
theorem Blk.setCells{g:Nat}{t:TypeId}:∀(vs:List Value)(o:Nat){W:World}{cs:Array Value},Blk W g cs t->Blk (W.setCells g o vs) g (qv cs o vs) t
 |[],_,_,_,h=>h
 |v::r,o,_,_,h=>by
  rw[World.setCells];exact Blk.setCells r (o+1) (h.set o v)
theorem QO(x:Value)(s z y:G):qv (#[x]++grd z++grd y) 1 (grd s).toList=#[x]++grd s++grd y:=by
 simp[grd,qv]
theorem QT(x:Value)(s z y:G):qv (#[x]++grd y++grd z) 21 (grd s).toList=#[x]++grd y++grd s:=by
 simp[grd,qv]
theorem QV(t:T)(v:Value)(w:World)(hv:jh w w v t.ns)(ht:t.is=true):
  Calls Tryz.prog 23 #[jW t v] w λe w'=>∃g,e=.returned (.tuple #[.pointer (some ⟨g,0,none⟩),↑(0:Int)])/\w.heap.size<=g/\jL w' g t.ns.length (newG t) (newG t)/\Below w w w':=by
 obtain⟨A,c,rfl,v1,v2,v3,-⟩:=hv.at_;have hB0:=(ah w w).alloc lr (.cells #[.slice A t.ns.length c,↑t.dr,↑t.wi,↑t.lm] 31);have hX:=aJ w _ rfl #[.slice A t.ns.length c,↑t.dr,↑t.wi,↑t.lm] 31;have hI:=af (vT t (.slice A t.ns.length c) (w.alloc (.cells #[.slice A t.ns.length c,↑t.dr,↑t.wi,↑t.lm] 31)) w (by simp) (hv.below hB0));rw[ht]at hI;have HN:=λW(hW:Below w w W)=>af (J6 t (.slice A t.ns.length c) W ((hv.below hW).more hW.size) ht);unfold jW at hI HN ⊢;clear hv v3;have t0:=hX.cell 0 (x:=.slice A t.ns.length c) rfl;have t1:=hX.cell 1 (x:=↑t.dr) rfl;have t2:=hX.cell 2 (x:=↑t.wi) rfl;have t3:=hX.cell 3 (x:=↑t.lm) rfl;generalize newG t=q at *
 go_enter Tryz.func23,Tryz.ntmps23
 go_wp2_with fail;refine hI.o.mono ?_;rintro e w2 ⟨rfl,hb2⟩;have hz2:w.heap.size+1<=w2.heap.size:=by have:=hb2.size;simp at this;omega
 have hX2:=hX.below hb2 hX.lt;have hB2:=hB0.trans (hb2.mono hB0.size);have t0:=hX2.cell 0 (x:=.slice A t.ns.length c) rfl;have hS2:=aJ w2 w2 rfl #[↑(t.ns.length:Nat),↑false,↑false,↑false,↑false,↑false,↑false,↑false,↑false,↑(0:Int),↑(0:Int),↑(0:Int),↑(0:Int),↑(0:Int),↑(0:Int),↑(0:Int),↑(0:Int),↑(0:Int),↑false,↑(0:Int),↑(0:Int),↑false,↑false,↑false,↑false,↑false,↑false,↑false,↑false,↑(0:Int),↑(0:Int),↑(0:Int),↑(0:Int),↑(0:Int),↑(0:Int),↑(0:Int),↑(0:Int),↑(0:Int),↑false,↑(0:Int),↑(0:Int)] 118;have hX3:=hX2.alloc (.cells #[↑(t.ns.length:Nat),↑false,↑false,↑false,↑false,↑false,↑false,↑false,↑false,↑(0:Int),↑(0:Int),↑(0:Int),↑(0:Int),↑(0:Int),↑(0:Int),↑(0:Int),↑(0:Int),↑(0:Int),↑false,↑(0:Int),↑(0:Int),↑false,↑false,↑false,↑false,↑false,↑false,↑false,↑false,↑(0:Int),↑(0:Int),↑(0:Int),↑(0:Int),↑(0:Int),↑(0:Int),↑(0:Int),↑(0:Int),↑(0:Int),↑false,↑(0:Int),↑(0:Int)] 118);have hB3:=hB2.alloc hB2.size (.cells #[↑(t.ns.length:Nat),↑false,↑false,↑false,↑false,↑false,↑false,↑false,↑false,↑(0:Int),↑(0:Int),↑(0:Int),↑(0:Int),↑(0:Int),↑(0:Int),↑(0:Int),↑(0:Int),↑(0:Int),↑false,↑(0:Int),↑(0:Int),↑false,↑false,↑false,↑false,↑false,↑false,↑false,↑false,↑(0:Int),↑(0:Int),↑(0:Int),↑(0:Int),↑(0:Int),↑(0:Int),↑(0:Int),↑(0:Int),↑(0:Int),↑false,↑(0:Int),↑(0:Int)] 118);have hz3:(w2.alloc (.cells #[↑(t.ns.length:Nat),↑false,↑false,↑false,↑false,↑false,↑false,↑false,↑false,↑(0:Int),↑(0:Int),↑(0:Int),↑(0:Int),↑(0:Int),↑(0:Int),↑(0:Int),↑(0:Int),↑(0:Int),↑false,↑(0:Int),↑(0:Int),↑false,↑false,↑false,↑false,↑false,↑false,↑false,↑false,↑(0:Int),↑(0:Int),↑(0:Int),↑(0:Int),↑(0:Int),↑(0:Int),↑(0:Int),↑(0:Int),↑(0:Int),↑false,↑(0:Int),↑(0:Int)] 118)).heap.size=w2.heap.size+1:=by simp
 clear hX hI hX2 hB2 hB0 hb2 t1 t2 t3;go_wp2_with fail;generalize w2.alloc (.cells #[↑(t.ns.length:Nat),↑false,↑false,↑false,↑false,↑false,↑false,↑false,↑false,↑(0:Int),↑(0:Int),↑(0:Int),↑(0:Int),↑(0:Int),↑(0:Int),↑(0:Int),↑(0:Int),↑(0:Int),↑false,↑(0:Int),↑(0:Int),↑false,↑false,↑false,↑false,↑false,↑false,↑false,↑false,↑(0:Int),↑(0:Int),↑(0:Int),↑(0:Int),↑(0:Int),↑(0:Int),↑(0:Int),↑(0:Int),↑(0:Int),↑false,↑(0:Int),↑(0:Int)] 118)=w3 at *;generalize w2.heap.size=g at *;generalize Value.agg #[↑(t.ns.length:Nat),↑false,↑false,↑false,↑false,↑false,↑false,↑false,↑false,↑(0:Int),↑(0:Int),↑(0:Int),↑(0:Int),↑(0:Int),↑(0:Int),↑(0:Int),↑(0:Int),↑(0:Int),↑false,↑(0:Int),↑(0:Int),↑false,↑false,↑false,↑false,↑false,↑false,↑false,↑false,↑(0:Int),↑(0:Int),↑(0:Int),↑(0:Int),↑(0:Int),↑(0:Int),↑(0:Int),↑(0:Int),↑(0:Int),↑false,↑(0:Int),↑(0:Int)]=zz
 go_loopw [16] (λi wr=>∃k:Nat,k<=2/\i=↑k/\Blk wr g (#[.int .i64 (t.ns.length:Nat)]++grd (if 0<k then q else gz)++grd (if 1<k then q else gz)) 118/\Blk wr w #[.slice A t.ns.length c,↑t.dr,↑t.wi,↑t.lm] 31/\Below w w wr/\g<wr.heap.size/\q.l.length<=(if 0<k then 4 else q.l.length)) (λi _=>2-(intOf i).toNat)
 case atStart=>exact⟨0,by omega,rfl,hS2.eq (by simp[grd,gz]),hX3,hB3,by omega,by simp⟩
 case round=>
  obtain⟨k,hk,rfl,hS,hT,hB,hz,hq⟩:=hrel;clear hS2 hX3 hB3 t0;have t0:=hT.cell 0 (x:=.slice A t.ns.length c) rfl;have t1:=hT.cell 1 (x:=↑t.dr) rfl;have t2:=hT.cell 2 (x:=↑t.wi) rfl;have t3:=hT.cell 3 (x:=↑t.lm) rfl;have hN:=HN wr hB;rcases(by omega:k=0\/k=1\/k=2)with rfl|rfl|rfl
  ·simp only[fD,dB]at hS
   go_wp2_with fail;refine hN.o.mono ?_;rintro e w4 ⟨g4,rfl,hg4,hG4,hb4⟩;have hS4:=hS.below hb4 hz;have hT4:=hT.below hb4 hT.lt;have hB4:=hB.trans (hb4.mono hB.size);have hne:g≠g4:=by omega
   have S5:=af ((hS4.drew.setCells (grd q).toList 1).eq (QO _ q gz gz));have rK:g<w4.heap.size:=hS4.lt;have Z5:=af (show g<(w4.drew.setCells g 1 (grd q).toList).heap.size from aN rK (Only.setCells (grd q).toList 1 (aE g w4.drew)).size);have tt0:w4.there g 1 20:=λj hj=>⟨by rw[hS4.cell (1+j) (cm (by simp[grd];omega))];rfl,hS4.frozen _⟩;have Q5:=af hG4.2;clear hb4 hS hT hB hN HN t0 t1 t2 t3;have T5:=af (hT4.drew.only (Only.setCells (grd q).toList 1 (aE g w4.drew)) (by omega));have B5:=af (hB4.drew.trans ((Only.setCells (grd q).toList 1 (aE g w4.drew)).below (by omega) rK));have rr:w4.drew.rangeAt g4 0 (grd q).toList:=λj v hv=>by rw[bU];exact hG4.1.cell j (by rw[Array.getElem?_toList]at hv;exact hv)
   have i4:=Tryz.underlying115;obtain⟨CS,hCS⟩:∃CS,CS=(grd q).toList:=⟨_,rfl⟩;have tt:w4.drew.there g 1 CS.length:=by rw[hCS];exact tt0
   have i1:(Tryz.prog.info? 115).map (λi=>i.size)=some CS.length:=by rw[hCS];exact FA
   have i3:∀v∈CS,v.oneCell'=true:=by rw[hCS];exact Fy q
   rw[<-hCS]at S5 T5 B5 Z5 rr;clear hCS tt0 hG4 hS4 hT4 hB4;go_wp2_with fail;refine cW (S:=λW=>W.rangeAt g4 0 CS/\W.there g 1 CS.length) (by kernel_rfl) ⟨rr,tt⟩ (λhHeld=>?_);refine wT 0 24 ?_;refine wT 1 25 ?_;refine wT 2 26 ?_;refine wT 3 27 ?_;refine dm (i:=4) (oi:={dst:=some 28,op:=_,type:=_,pos:=_,after:=_,guard:=none}) rfl (by kernel_rfl) (by kernel_rfl) (by kernel_rfl) (λ_ _ _ h=>h) (yieldsIf_load_mid (by rfl) _ _ rfl _ _ rfl CS _ (λ_ h=>h.1) i4 rfl i1) (by assumption) ?_;simp only[Act.put,bN,List.set_cons_zero,fH];refine wT 5 29 ?_;refine wT 6 30 ?_;refine wT 7 31 ?_;refine wpAnyH_all (rs:=[8]) (by kernel_rfl) (by simp) ?_;intro i hi;obtain rfl:i=8:=by simpa using hi
   refine Fz (o:={dst:=none,op:=_,type:=_,pos:=_,after:=_,guard:=none}) rfl rfl ?_;refine wp_store_mid _ _ _ rfl _ _ CS.toArray rfl rfl (by simpa using tt) (by simpa using i1) (all_oneCell_toArray i3) ?_
   dsimp only
   refine⟨⟨World.rangeAt_setCells_apart rr _ _ _ (.inl (dH hne)),World.there_setCells tt _ _ _⟩,?_⟩;refine bP (by kernel_rfl) ?_ _;clear tt i1 i3 rr i4;go_wp2_with fail;refine⟨⟨1,by omega,rfl,?_,T5.o,B5.o,Z5.o,?_⟩,by simp[intOf]⟩
   ·rw[au (by omega),ai (by omega)];with_reducible exact S5.o
   ·rw[au (by omega)];exact Q5.o
  ·simp only[fD,dB,Nat.zero_lt_one,dG]at hS
   go_wp2_with fail;refine hN.o.mono ?_;rintro e w4 ⟨g4,rfl,hg4,hG4,hb4⟩;have hS4:=hS.below hb4 hz;have hT4:=hT.below hb4 hT.lt;have hB4:=hB.trans (hb4.mono hB.size);have hne:g≠g4:=by omega
   have S5:=af ((hS4.drew.setCells (grd q).toList 21).eq (QT _ q gz q));have rK:g<w4.heap.size:=hS4.lt;have Z5:=af (show g<(w4.drew.setCells g 21 (grd q).toList).heap.size from aN rK (Only.setCells (grd q).toList 21 (aE g w4.drew)).size);have tt0:w4.there g 21 20:=λj hj=>⟨by rw[hS4.cell (21+j) (cm (by simp[grd];omega))];rfl,hS4.frozen _⟩;have Q5:=af hG4.2;clear hb4 hS hT hB hN HN t0 t1 t2 t3;have T5:=af (hT4.drew.only (Only.setCells (grd q).toList 21 (aE g w4.drew)) (by omega));have B5:=af (hB4.drew.trans ((Only.setCells (grd q).toList 21 (aE g w4.drew)).below (by omega) rK));have rr:w4.drew.rangeAt g4 0 (grd q).toList:=λj v hv=>by rw[bU];exact hG4.1.cell j (by rw[Array.getElem?_toList]at hv;exact hv)
   have i4:=Tryz.underlying115;obtain⟨CS,hCS⟩:∃CS,CS=(grd q).toList:=⟨_,rfl⟩;have tt:w4.drew.there g 21 CS.length:=by rw[hCS];exact tt0
   have i1:(Tryz.prog.info? 115).map (λi=>i.size)=some CS.length:=by rw[hCS];exact FA
   have i3:∀v∈CS,v.oneCell'=true:=by rw[hCS];exact Fy q
   rw[<-hCS]at S5 T5 B5 Z5 rr;clear hCS tt0 hG4 hS4 hT4 hB4;go_wp2_with fail;refine cW (S:=λW=>W.rangeAt g4 0 CS/\W.there g 21 CS.length) (by kernel_rfl) ⟨rr,tt⟩ (λhHeld=>?_);refine wT 0 24 ?_;refine wT 1 25 ?_;refine wT 2 26 ?_;refine wT 3 27 ?_;refine dm (i:=4) (oi:={dst:=some 28,op:=_,type:=_,pos:=_,after:=_,guard:=none}) rfl (by kernel_rfl) (by kernel_rfl) (by kernel_rfl) (λ_ _ _ h=>h) (yieldsIf_load_mid (by rfl) _ _ rfl _ _ rfl CS _ (λ_ h=>h.1) i4 rfl i1) (by assumption) ?_;simp only[Act.put,bN,List.set_cons_zero,fH];refine wT 5 29 ?_;refine wT 6 30 ?_;refine wT 7 31 ?_;refine wpAnyH_all (rs:=[8]) (by kernel_rfl) (by simp) ?_;intro i hi;obtain rfl:i=8:=by simpa using hi
   refine Fz (o:={dst:=none,op:=_,type:=_,pos:=_,after:=_,guard:=none}) rfl rfl ?_;refine wp_store_mid _ _ _ rfl _ _ CS.toArray rfl rfl (by simpa using tt) (by simpa using i1) (all_oneCell_toArray i3) ?_
   dsimp only
   refine⟨⟨World.rangeAt_setCells_apart rr _ _ _ (.inl (dH hne)),World.there_setCells tt _ _ _⟩,?_⟩;refine bP (by kernel_rfl) ?_ _;clear tt i1 i3 rr i4;go_wp2_with fail;refine⟨⟨2,by omega,rfl,?_,T5.o,B5.o,Z5.o,?_⟩,by simp[intOf]⟩
   ·rw[au (by omega),au (by omega)];with_reducible exact S5.o
   ·rw[au (by omega)];exact Q5.o
  ·have hS':=af (show jL wr g t.ns.length q q from⟨by simpa using hS,by simpa using hq,by simpa using hq⟩)
   have hB':=af hB;have hg:=af (show w.heap.size<=g by omega);clear hS hT hB hq HN hN;go_wp2_with fail;go_ret2;exact⟨g,rfl,hg.o,hS'.o,hB'.o⟩
end
section
open Go.RowKit
def strikes(fl:List Ft)(m:List Sd):List Sd:=fl.foldl (λm f=>kS f m) m
theorem Qi(fl:List Ft)(m:List Sd)(k:Nat)(hk:k<fl.length):strikes (fl.take (k+1)) m=kS (fl.getD k default) (strikes (fl.take k) m):=by
 unfold strikes;rw[gM,fO,ay,aP hk]
 rfl
theorem xS(fl:List Ft)(m:List Sd):(strikes fl m).length=m.length:=by
 unfold strikes
 induction fl generalizing m with
 |nil=>rfl
 |cons f fl ih=>rw[dI,ih,Qz]
theorem any_succ(fl:List Ft)(p:Ft->Bool)(k:Nat)(hk:k<fl.length):(fl.take (k+1)).any p=((fl.take k).any p||p (fl.getD k default)):=by
 rw[gM,List.any_append,ay,aP hk];simp
theorem QW(f:Ft)(s:Sd)(ha:-1000<=f.a/\f.a<=1000):s.at_-1000<=(s.strike f).at_/\(s.strike f).at_<=s.at_+1000:=by
 unfold Sd.strike
 split<;>(try split)<;>(try split)<;>(try split)<;>(try split)<;>(try simp only)<;>omega
theorem Qj(f:Ft)(m:List Sd)(ha:-1000<=f.a/\f.a<=1000)(B:Int)(h:∀s∈m,-B<=s.at_/\s.at_<=B):∀s∈kS f m,-(B+1000)<=s.at_/\s.at_<=B+1000:=by
 intro s hs;unfold kS at hs
 split at hs
 ·have:=h s hs;omega
 ·split at hs
  ·rename_i t ht
   rcases qo hs with rfl|hs
   ·have:=h t (bO ht)
    have:=QW f t ha;omega
   ·have:=h s hs;omega
  ·have:=h s hs;omega
theorem Qk(m:List Sd)(B:Int)(hB:0<=B)(h:∀s∈m,-B<=s.at_/\s.at_<=B)(i:Nat):-B<=sA m i/\sA m i<=B:=by
 unfold sA
 cases e:m[i]? with
 |none=>simp only;omega
 |some s=>exact h s (bO e)
theorem Only.other{g r:Nat}{w w1 w2:World}(h:Only g w w1)(k:Only r w1 w2)(hr:w.heap.size<=r):Only g w w2:=⟨k.os.trans h.os,k.tape.trans h.tape,k.output.trans h.output,aW h.size k.size,λi hi hne=>(k.block i (aN hi h.size) (by intro e;cases e;omega)).trans (h.block i hi hne)⟩
end
section
open Go.RowKit
open Tb (D T)
end
section
open Go.RowKit
open Clk (avg)
open Fr (St F)
def G.told(s:G)(k:Nat)(at_:Int):G:={s with kn:=true,slot:=(k+1)%s.n,now:=at_,si:=0,l:=[]}
end
section
open Go.RowKit
open Tb (D T)
def m0(n:Nat)(bs:Nat->List Int)(a:Nat->Int):List Sd:=(List.range n).map (sd0 bs a)
theorem QX(n:Nat)(bs:Nat->List Int)(a:Nat->Int):(m0 n bs a).length=n:=by simp[m0]
theorem QY(n:Nat)(bs:Nat->List Int)(a:Nat->Int)(i:Nat)(h:i<n):(m0 n bs a)[i]?=some (sd0 bs a i):=by simp[m0,h]
def S1(n:Nat):G:=(newG (jA n 1)).told 0 0
def HAt(W:World)(b:Nat)(f:Nat->Hd):Prop:=W.rangeAt b 0 (hdC f).toList
theorem HAt.get{W:World}{b:Nat}{f:Nat->Hd}(h:HAt W b f)(k:Nat)(hk:k<8):W.cell? (b,k*5)=some ↑(f k).A/\W.cell? (b,k*5+1)=some ↑(f k).B/\W.cell? (b,k*5+2)=some (f k).X/\W.cell? (b,k*5+3)=some (f k).Y/\W.cell? (b,k*5+4)=some ↑(f k).o:=by
 obtain⟨g0,g1,g2,g3,g4⟩:=xk f k hk;have key:∀j v,(hdC f)[j]?=some v->W.cell? ⟨b,j,none⟩=some v:=λj v hj=>by
  have:=h j v (by rw[Array.getElem?_toList];exact hj)
  rwa[bU]at this
 exact⟨key _ _ g0,key _ _ g1,key _ _ g2,key _ _ g3,key _ _ g4⟩
theorem HAt.below{W W':World}{B b:Nat}{f:Nat->Hd}(h:HAt W b f)(hb:Below B W W')(hB:b<B):HAt W' b f:=λj v hj=>(hb.cell (p:=(b,0+j)) hB).trans (h j v hj)
theorem vn(W:World)(b:Nat)(hb:b=W.heap.size)(t:TypeId):(W.alloc (.cells (hdC λ_=>hdz) t)).there b 0 40:=λj hj=>by
 have X:=aJ W b hb (hdC λ_=>hdz) t;refine⟨?_,X.frozen _⟩;rw[bU,X.cell j (cm (by show j<40;omega))]
 rfl
theorem Ah:hdC (λ_=>hdz)=#[↑(0:Int),↑(0:Int),.slice none 0 0,.slice none 0 0,↑(0:Int),↑(0:Int),↑(0:Int),.slice none 0 0,.slice none 0 0,↑(0:Int),↑(0:Int),↑(0:Int),.slice none 0 0,.slice none 0 0,↑(0:Int),↑(0:Int),↑(0:Int),.slice none 0 0,.slice none 0 0,↑(0:Int),↑(0:Int),↑(0:Int),.slice none 0 0,.slice none 0 0,↑(0:Int),↑(0:Int),↑(0:Int),.slice none 0 0,.slice none 0 0,↑(0:Int),↑(0:Int),↑(0:Int),.slice none 0 0,.slice none 0 0,↑(0:Int),↑(0:Int),↑(0:Int),.slice none 0 0,.slice none 0 0,↑(0:Int)]:=rfl
theorem r9(W:World)(b:Nat)(hb:b=W.heap.size)(f:Nat->Hd)(t:TypeId):HAt ((W.alloc (.cells (hdC λ_=>hdz) t)).setCells b 0 (hdC f).toList) b f/\Below W W ((W.alloc (.cells (hdC λ_=>hdz) t)).setCells b 0 (hdC f).toList):=by
 subst hb;refine⟨cO _ _ _ _ (vn W _ rfl t),?_⟩;have h1:Below W W (W.alloc (.cells (hdC λ_=>hdz) t)):=(ah _ _).alloc lr _;exact h1.trans ((Only.setCells (hdC f).toList 0 (aE W _)).below lr (by simp))
theorem jH.is{W:World}{Bs:Nat}{n:Nat}{bs:Nat->List Int}{c:Nat->Int}{r:Nat}{qa qb:Nat->Int}{p:Int}{a:Nat->Int}{i:Nat}{h:Hd}(H:jH W Bs (m0 n bs c) r qa qb p a i h)(hi:i<n):h.A=tk r qa/\h.B=tk r qb/\iJ W Bs h.X (tl r qa)/\iJ W Bs h.Y (tl r qb):=by
 have e:i<(m0 n bs c).length/\((m0 n bs c)[i]?.map Sd.df)≠some true:=⟨by rw[QX];exact hi,by rw[QY n bs c i hi];simp[sd0]⟩;obtain⟨h1,h2,h3,h4,-⟩:=H;rw[au e]at h1 h2 h3 h4;exact⟨h1,h2,h3,h4⟩
theorem b12:iK [1,2]:=λx hx=>by simp at hx;omega
end
section
open Go.RowKit
open Tb (D T)
section
variable {n g:Nat}{A:Nat->Option Addr}{c:Nat->Nat}{bs:Nat->List Int}{a:Nat->Int}{v:Value}{fl:List Ft}{m:List Sd}{s:Sd}{W:World}
end
theorem ju.one(W:World)(b:Nat)(hb:b=W.heap.size)(t:TypeId)(f:Ft)(u:Value)(hu:iI W W u f.d)(hy:iK f.d):
  ju (W.alloc (.cells #[↑f.k,↑f.n,↑f.a,u] t)) (W.heap.size+1) (.slice (some (b,0)) 1 1) [f]:=by
 subst hb;have X:=aJ W _ rfl #[↑f.k,↑f.n,↑f.a,u] t;refine⟨⟨_,1,rfl,aR _,by simp[maxLen],λ_=>⟨W.heap.size,0,rfl,cJ _,λi hi=>?_⟩⟩,λg hg=>by rw[bD.1 hg];exact hy⟩;obtain rfl:i=0:=by simpa using hi
 exact⟨X.cell 0 rfl,X.cell 1 rfl,X.cell 2 rfl,u,X.cell 3 rfl,(hu.below ((ah _ _).alloc lr _)).more (by omega)⟩
end
section
open Go.RowKit
end
section
open Go.RowKit
open Tb (D T)
open Fr (St F)
end
section
set_option maxRecDepth 100000
set_option maxHeartbeats 8000000
open Go.RowKit
theorem Qa(g N b:Nat)(s s2:G)(l:List (Value×Sd))(c d:Ch)(p r:Int)(P:List Nat)(v:Value)(n:Nat)(a q:Nat->Int)(w:World)(hg:jL w g N s s2)(hs:jd w P b l)(hgP:g∈P)(hgb:g≠b)(hr:Row w P v n a q)(hc:c.fr=p)(hd:d.fr=r)
  (hpl:p=-1\/∃j:Nat,p=j/\j<l.length) (hpr:r=-1\/∃j:Nat,r=j/\j<l.length) (ok:s.Ok (jG (l.map Prod.snd) p)) (ok2:s2.Ok (jG (l.map Prod.snd) r)):
  Calls Tryz.prog 105 #[↑(g,0),.agg (xcs b l.length c d),v] w λe w'=>e=.returned (.tuple #[])/\jL w' g N (s.ended (tl n a) (jG (l.map Prod.snd) p)) (s2.ended (tl n q) (jG (l.map Prod.snd) r))/\Only g w w':=by
 have hb0:=(ah w w).alloc lr (.cells (xcs b l.length c d) 189);have hX:XAt (w.alloc (.cells (xcs b l.length c d) 189)) (w.heap.size::P) w b l c d:=⟨aJ w _ rfl _ _,(hs.sub (P':=w.heap.size::P) (λi hi=>by
  rcases bq.1 hi with rfl|h
  ·exact .inr lr
  ·exact .inl h) (aT _ hs.mem)).below (((ah w w).alloc lr _)),by simp,by have:=hs.lt;omega⟩
 have hR:=EX v n a q P _ (hr.kp (fG P hb0));have hz:(w.alloc (.cells (xcs b l.length c d) 189)).heap.size=w.heap.size+1:=by simp
 have hG0:=hg.below hb0 hg.lt;have hgl:=hg.lt;obtain⟨Av,cv,rfl,-⟩:=hr.sees;obtain⟨bc,kc,vc,pc⟩:=c;obtain⟨bd,kd,vd,pd⟩:=d;simp only at hc hd;subst hc hd;have HR:=af hR;clear hR hr hg hs;have hW:=λW(h:XAt W (w.heap.size::P) w b l ⟨bc,kc,vc,pc⟩ ⟨bd,kd,vd,pd⟩)=>af (xR w b l _ _ _ pc W h hpl);have hW2:=λW(h:XAt W (w.heap.size::P) w b l ⟨bc,kc,vc,pc⟩ ⟨bd,kd,vd,pd⟩)=>af (xR w b l _ _ _ pd W h hpr);generalize jG (l.map Prod.snd) pc=t at *;generalize jG (l.map Prod.snd) pd=t2 at *;unfold xcs at *;simp only at *
 go_enter Tryz.func105,Tryz.ntmps105
 go_wp2_with fail;generalize w.alloc (.cells #[.slice (some (b,0)) l.length l.length,↑bc,↑kc,vc,↑pc,↑bd,↑kd,vd,↑pd] 189)=w0 at *;refine HR.o.mono ?_;rintro e w1 ⟨X,Y,rfl,oX,oY,hb1⟩;have hX1:=hX.below hb1;have hG1:=hG0.below hb1 hG0.lt;have hB1:=hb0.trans (hb1.mono (by omega));obtain⟨AX,cX,rfl,-⟩:=oX.sees.at_;obtain⟨AY,cY,rfl,-⟩:=oY.sees.at_;clear hX hG0 HR hb1 hb0;have x4:=hX1.blk.cell 4 (x:=↑pc) rfl;have hE1:=af (PL (cx1 N s2) g s _ (tl n a) t w1.drew (hG1.below ((ah _ _).drew) hG1.lt).one ok (oX.sees.drew) (qg n a));go_wp2_with fail
 go_region_with (first
  |(go_at_call 157;refine(hW w1.drew hX1.drew).o.mono ?_;rintro e w2 ⟨rfl,rfl⟩)
  |(go_at_call 156;refine hE1.o.mono ?_;rintro e w2 ⟨rfl,H2,O2⟩)
  |fail)
 all_goals
  have hX2:XAt w2 (w.heap.size::P) w b l ⟨bc,kc,vc,pc⟩ ⟨bd,kd,vd,pd⟩:=⟨(hX1.drew).blk.only O2 (by omega),(hX1.drew).sd.kp (Kw.only O2 (aT _ hgP)) (O2.block b hX1.sd.lt (by intro e;cases e;exact hgb rfl)),hX1.mem,hX1.ne⟩;have oY2:=oY.drew.only O2 (by omega);have G2:=jL.of1 H2 hG1.2.2;have O2':=af ((iQ g ((hB1.drew))).trans O2);have x8:=hX2.blk.cell 8 (x:=↑pd) rfl;have hE2:=af (PS (cx2 N (s.ended (tl n a) t)) g s2 _ (tl n q) t2 w2.drew (G2.below ((ah _ _).drew) G2.lt).two ok2 (oY2.sees.drew) (qg n q));have L2:=G2.2.1;clear hX1 hG1 hE1 x4 H2 O2 oX oY;go_wp2_with fail
  go_region_with (first
   |(go_at_call 157;refine(hW2 w2.drew hX2.drew).o.mono ?_;rintro e w3 ⟨rfl,rfl⟩)
   |(go_at_call 156;refine hE2.o.mono ?_;rintro e w3 ⟨rfl,H3,O3⟩)
   |fail)
  all_goals
   have HH:=af (jL.of2 H3 L2);have OO:=af (O2'.o.drew.trans O3);clear H3 O3 hE2 G2 oY2 hX2;go_wp2_with fail;exact aD (ax (by rfl) _ _ _) rfl ⟨rfl,HH.o,OO.o⟩
end
section
open Go.RowKit
def sl8(A:Nat->Option Addr)(c:Nat->Nat)(b:Nat->List Int):Array Value:=#[.slice (A 0) (b 0).length (c 0),.slice (A 1) (b 1).length (c 1),.slice (A 2) (b 2).length (c 2),.slice (A 3) (b 3).length (c 3),.slice (A 4) (b 4).length (c 4),.slice (A 5) (b 5).length (c 5),.slice (A 6) (b 6).length (c 6),.slice (A 7) (b 7).length (c 7)]
def kX{α:Type}(g:Nat->α)(k:Nat)(x:α)(i:Nat):α:=if i=k then x else g i
theorem Aa(A:Nat->Option Addr)(c:Nat->Nat)(b:Nat->List Int)(k:Nat)(hk:k<8):(sl8 A c b)[k]?=some (.slice (A k) (b k).length (c k)):=by
 rcases(by omega:k=0\/k=1\/k=2\/k=3\/k=4\/k=5\/k=6\/k=7)with rfl|rfl|rfl|rfl|rfl|rfl|rfl|rfl<;>rfl
theorem zP(A:Nat->Option Addr)(c:Nat->Nat)(b:Nat->List Int)(k:Nat)(hk:k<8)(A':Option Addr)(c':Nat)(l:List Int):(sl8 A c b).setIfInBounds k (.slice A' l.length c')=sl8 (kX A k A') (kX c k c') (kX b k l):=by
 rcases(by omega:k=0\/k=1\/k=2\/k=3\/k=4\/k=5\/k=6\/k=7)with rfl|rfl|rfl|rfl|rfl|rfl|rfl|rfl<;>simp[sl8,kX]
theorem HAt.same{W W':World}{b:Nat}{f:Nat->Hd}(h:HAt W b f)(e:W'.heap[b]?=W.heap[b]?):HAt W' b f:=λj v hj=>by
 rw[<-h j v hj];simp only[World.cell?,e]
end
section
open Go.ChangeShapes Go.WideShapes Go.ChangeAt Go.RowKit
end
section
open Go.RowKit
open Fr (St F)
structure Bd(m:NM)(k:Nat):Prop where
 a:m.ty.a<=k
 f:m.ty.f<=k
 t:-(2147483648*((k:Int)+1))<=m.tm/\m.tm<=2147483648*((k:Int)+1)
theorem TS.Di(s:TS)(n:Int):(s.right n).a<=s.a+1/\(s.right n).f=s.f:=by
 unfold TS.right
 split<;>simp
theorem TS.Mz(s:TS)(n:Int):(s.miss n).a=s.a/\(s.miss n).f=s.f:=by
 unfold TS.miss
 split<;>simp
theorem TS.MA(s:TS)(n:Int):(s.wrong n).a=s.a/\(s.wrong n).f<=s.f+1:=by
 unfold TS.wrong
 split<;>simp
theorem TS.MB(s:TS)(n:Int):(s.join n).a=s.a/\(s.join n).f=s.f:=by
 unfold TS.join
 split<;>simp
theorem Dh{m:NM}(h:NJ m):m.goOn.ty=m.ty/\m.tm-2000<=m.goOn.tm/\m.goOn.tm<=m.tm+2000:=by
 rw[NM.qQ];have hlm:=h.may.lm;have hd:=h.dr;have ht:=qR m.t.lm m.ck (by omega)
 split
 ·exact⟨rfl,by show m.tm-2000<=m.tm;omega,by show m.tm<=m.tm+2000;omega⟩
 ·unfold NM.kr
  split
  ·refine⟨rfl,?_,?_⟩
   ·show m.tm-2000<=m.tm+jb m.t.lm m.ck+m.dr;omega
   ·show m.tm+jb m.t.lm m.ck+m.dr<=m.tm+2000;omega
  ·exact⟨rfl,by show m.tm-2000<=m.tm;omega,by show m.tm<=m.tm+2000;omega⟩
theorem MC(m:NM):m.enter.ty.a<=m.ty.a/\m.enter.ty.f<=m.ty.f/\m.enter.tm=m.tm:=by
 unfold NM.enter
 repeat' split
 all_goals exact⟨by first|exact aR _|exact bH _,by first|exact aR _|exact bH _,rfl⟩
theorem oA(m:NM):m.iL.ty.a<=m.ty.a/\m.iL.ty.f<=m.ty.f/\m.iL.tm=m.tm:=by
 have he:=MC m;unfold NM.iL
 split
 ·split
  ·exact⟨aR _,aR _,rfl⟩
  ·have:=TS.MB ⟨0,0,0⟩ (m.i:Nat)
   exact⟨by show((⟨0,0,0⟩:TS).join (m.i:Nat)).a<=_;rw[this.1];exact bH _,by show((⟨0,0,0⟩:TS).join (m.i:Nat)).f<=_;rw[this.2];exact bH _,rfl⟩
 ·split
  ·exact⟨aR _,aR _,rfl⟩
  ·split
   ·exact he
   ·exact⟨bH _,bH _,he.2.2⟩
theorem BH{m:NM}(h:Hn)(hj:NJ m)(ho:-1073741824<=h.o/\h.o<=1073741824)(hjk:∀l,m.st=1->m.kY h=some l->NJ (m.knows (Fr.res l NM.z3) h.o)):
  (m.take h).ty.a<=m.ty.a+1/\(m.take h).ty.f<=m.ty.f+1/\m.tm-1073743824<=(m.take h).tm/\(m.take h).tm<=m.tm+1073743824:=by
 have same:∀m2:NM,NJ m2->m2.ty.a<=m.ty.a+1->m2.ty.f<=m.ty.f+1->m.tm-1073741824<=m2.tm->m2.tm<=m.tm+1073741824->m2.goOn.ty.a<=m.ty.a+1/\m2.goOn.ty.f<=m.ty.f+1/\m.tm-1073743824<=m2.goOn.tm/\m2.goOn.tm<=m.tm+1073743824:=λm2 j2 a1 a2 t1 t2=>by
  obtain⟨e,g1,g2⟩:=Dh j2;rw[e];exact⟨a1,a2,by omega,by omega⟩
 unfold NM.take;by_cases hoff:m.st=0\/m.st=5
 ·rw[au hoff];exact⟨by omega,by omega,by omega,by omega⟩
 rw[ai hoff];by_cases h1:m.st=1
 ·rw[au h1]
  rcases hl:m.kY h with _|l
  ·simp only
   split
   ·exact⟨by show m.ty.a<=_;omega,by show m.ty.f<=_;omega,by show _<=m.tm;omega,by show m.tm<=_;omega⟩
   ·exact⟨by omega,by omega,by omega,by omega⟩
  ·simp only
   have r:=TS.Di ⟨((Fr.res l NM.z3).st.m%256).toNat,0,0⟩ (Fr.res l NM.z3).st.s;have r1:(m.knows (Fr.res l NM.z3) h.o).ty.a<=0+1:=r.1;have r2:(m.knows (Fr.res l NM.z3) h.o).ty.f=0:=r.2;have r3:(m.knows (Fr.res l NM.z3) h.o).tm=m.tm+h.o:=rfl;exact same _ (hjk l h1 hl) (by omega) (by omega) (by rw[r3];omega) (by rw[r3];omega)
 rw[ai h1];by_cases hs:m.sl=m.i
 ·rw[au hs]
  refine same _ (hj.ck_ _ ?_) (by show m.ty.a<=_;omega) (by show m.ty.f<=_;omega) (by show _<=m.tm;omega) (by show m.tm<=_;omega)
  split
  ·unfold NM.meas
   split
   ·exact hj.ck.mW (by omega)
   ·exact hj.ck
  ·exact hj.ck
 rw[ai hs];rcases hl:m.lg h with _|l
 ·simp only
  split
  ·have r:=TS.Mz m.ty (m.sl:Nat)
   exact same _ (hj.took _ _ _ hj.ck) (by show(m.ty.miss _).a<=_;omega) (by show(m.ty.miss _).f<=_;omega) (by show _<=m.tm;omega) (by show m.tm<=_;omega)
  ·have r:=TS.MA m.ty (m.sl:Nat)
   exact same _ (hj.took _ _ _ hj.ck) (by show(m.ty.wrong _).a<=_;omega) (by show(m.ty.wrong _).f<=_;omega) (by show _<=m.tm;omega) (by show m.tm<=_;omega)
 ·simp only
  have r:=TS.Di m.ty (m.sl:Nat);refine same _ (hj.took _ _ _ ?_) (by show(m.ty.right _).a<=_;omega) (by show(m.ty.right _).f<=_;omega) (by show _<=m.tm;omega) (by show m.tm<=_;omega);unfold NM.meas
  split
  ·exact hj.ck.mW (by omega)
  ·exact hj.ck
theorem sZ{m:NM}{h:Hn}{l:List Int}(hj:NJ m)(hl:m.kY h=some l):NJ (m.knows (Fr.res l NM.z3) h.o):=by
 have htl:m.tells l:=by
  have:=List.find?_some hl;exact dh this
 obtain⟨he,hk1,hs1,hs2⟩:=htl;have hrm:=(St.mM _).1 (wO he);exact hj.knows (Fr.res l NM.z3) h.o hrm.1 ⟨hrm.2.1.1,hs1⟩
theorem Bd.take{m:NM}{k:Nat}(h:Bd m k)(hd:Hn)(hj:NJ m)(ho:-1073741824<=hd.o/\hd.o<=1073741824):Bd (m.take hd) (k+1):=by
 obtain⟨h1,h2,h3,h4⟩:=BH hd hj ho (λl _ hl=>sZ hj hl);have:=h.a;have:=h.f;have:=h.t;exact⟨by omega,by omega,by constructor<;>omega⟩
theorem Bd.more{m m':NM}{k:Nat}(h:Bd m k)(e1:m'.ty=m.ty)(e2:m'.tm=m.tm):Bd m' (k+1):=by
 have:=h.a;have:=h.f;have:=h.t;exact⟨by rw[e1];omega,by rw[e1];omega,by rw[e2];constructor<;>omega⟩
end
section
open Go.RowKit
open Fr (St F)
section
variable {m:NM}
theorem NJ.st_(h:NJ m)(k:Nat)(hk:k<=5):NJ {m with st:=k}:=⟨h.is,h.i,hk,h.rd,h.sl,h.da,h.wt,h.ck,h.dr⟩
theorem NJ.ty_(h:NJ m)(ty:TS):NJ {m with ty:=ty}:=⟨h.is,h.i,h.st,h.rd,h.sl,h.da,h.wt,h.ck,h.dr⟩
theorem NJ.se_(h:NJ m)(b:Bool):NJ {m with se:=b}:=⟨h.is,h.i,h.st,h.rd,h.sl,h.da,h.wt,h.ck,h.dr⟩
theorem NJ.wt_(h:NJ m)(w:Nat)(hw:(w:Int)<m.me.li):NJ {m with wt:=w}:=⟨h.is,h.i,h.st,h.rd,h.sl,h.da,hw,h.ck,h.dr⟩
theorem NJ.tm_(h:NJ m)(a:Int):NJ {m with tm:=a}:=⟨h.is,h.i,h.st,h.rd,h.sl,h.da,h.wt,h.ck,h.dr⟩
theorem NJ.ar_(h:NJ m)(a:Nat->Nat):NJ {m with ar:=a}:=⟨h.is,h.i,h.st,h.rd,h.sl,h.da,h.wt,h.ck,h.dr⟩
theorem NJ.Dg(h:NJ m):NJ m.enter:=by
 unfold NM.enter
 repeat' split
 ·exact h.anew 1 (by omega)
 ·exact h.st_ 4 (by omega)
 ·exact h.st_ 4 (by omega)
 ·exact h.ty_ _
 ·exact h.st_ 5 (by omega)
 ·exact h.anew 1 (by omega)
 ·exact h
theorem NJ.Mv(h:NJ m):NJ m.begun:=by
 have a:=h.anew 2 (by omega);exact⟨h.is,h.i,a.st,a.rd,h.i,h.da,a.wt,a.ck,h.dr⟩
theorem NJ.vm(h:NJ m):NJ m.iL:=by
 unfold NM.iL
 split
 ·split
  ·rename_i hw
   exact(h.wt_ (m.wt+1) (by omega)).se_ false
  ·exact h.Mv.se_ true
 ·split
  ·exact h.se_ false
  ·split
   ·exact h.Dg.se_ false
   ·exact(h.Dg.ty_ _).se_ true
theorem NJ.zV(h:NJ m)(x:Hn)(ho:-1099511627776<=x.o/\x.o<=1099511627776):NJ (m.take x):=by
 have Mw:∀k,small (m.meas k x.o):=λk=>by
  unfold NM.meas
  split
  ·exact h.ck.mW ho
  ·exact h.ck
 have Mx:small (m.meas m.i 0):=by
  unfold NM.meas
  split
  ·exact h.ck.mW (by omega)
  ·exact h.ck
 unfold NM.take
 split
 ·exact h
 split
 ·rcases hl:m.kY x with _|l
  ·simp only
   split
   ·exact h.wt_ 0 (by have:=h.wt;omega)
   ·exact h
  ·exact(NI.goOn (sZ h hl)).j
 split
 ·refine(NI.goOn (h.ck_ _ ?_)).j
  split
  ·exact Mx
  ·exact h.ck
 rcases m.lg x with _|l
 ·simp only
  split
  ·exact(NI.goOn (h.took _ _ _ h.ck)).j
  ·exact(NI.goOn (h.took _ _ _ h.ck)).j
 ·exact(NI.goOn (h.took _ _ _ (Mw _))).j
theorem NJ.on_(h:NJ m)(a:Int):NJ (m.on a):=by
 unfold NM.on
 split
 ·exact(h.anew 1 (by omega)).tm_ a
 ·exact h
theorem NJ.Ai(h:NJ m):NJ m.off:=h.anew 0 (by omega)
theorem NJ.Al(h:NJ m)(l:List Int)(hl:iK l):NJ (m.write l):=by
 have hb:=h.meB;unfold NM.write
 split
 ·exact h
 ·exact⟨h.is,h.i,h.st,h.rd,h.sl,⟨by show l.length<=8;omega,hl⟩,h.wt,h.ck,h.dr⟩
theorem NJ.J3(h:NJ m)(x:Hn)(C:Int)(h1:-C<=m.tm/\m.tm<=C)(h2:-C<=m.tm+x.o/\m.tm+x.o<=C):-(C+2000)<=(m.take x).tm/\(m.take x).tm<=C+2000:=by
 have same:∀m2:NM,NJ m2->-C<=m2.tm->m2.tm<=C->-(C+2000)<=m2.goOn.tm/\m2.goOn.tm<=C+2000:=λm2 j a b=>by
  obtain⟨-,g1,g2⟩:=Dh j;omega
 unfold NM.take
 split
 ·omega
 split
 ·rcases hl:m.kY x with _|l
  ·simp only
   split
   ·show -(C+2000)<=m.tm/\m.tm<=C+2000;omega
   ·omega
  ·exact same _ (sZ h hl) h2.1 h2.2
 have key:∀m2:NM,m2.tm=m.tm->m2.t=m.t->m2.dr=m.dr->-(C+2000)<=m2.goOn.tm/\m2.goOn.tm<=C+2000:=λm2 e1 e2 e3=>by
  rw[NM.qQ];have hlm:=h.may.lm;have hd:=h.dr;have ht:=qR m.t.lm m2.ck (by omega)
  split
  ·show -(C+2000)<=m2.tm/\m2.tm<=C+2000;omega
  ·unfold NM.kr
   split
   ·show -(C+2000)<=m2.tm+jb m2.t.lm m2.ck+m2.dr/\m2.tm+jb m2.t.lm m2.ck+m2.dr<=C+2000
    rw[e2];omega
   ·show -(C+2000)<=m2.tm/\m2.tm<=C+2000;omega
 split
 ·exact key _ rfl rfl rfl
 rcases m.lg x with _|l
 ·simp only
  split
  ·exact key _ rfl rfl rfl
  ·exact key _ rfl rfl rfl
 ·exact key _ rfl rfl rfl
theorem NJ.Iy(h:NJ m)(hm:m.iL.ty.m<256):iK m.sent/\m.sent.length<=16:=by
 have hj:=h.vm;unfold NM.sent;by_cases e:m.jB=0
 ·rw[au e];exact⟨λx hx=>(by cases hx),by simp⟩
 ·rw[ai e]
  have hk:1<=m.jB/\m.jB<=3:=by
   unfold NM.jB at e ⊢
   repeat' split
   all_goals simp_all
  have hn8:=hj.may.n8;have his:(m.iL.frm m.jB).is=true:=by
   rw[F.l9];exact⟨hk,qW hj.rd (by have:=hj.sl;omega) hm,hj.da.1⟩
  refine⟨F.pK his hj.da.2,?_⟩;rw[F.qJ];have h1:(m.iL.frm m.jB).hl<=6:=by unfold F.hl;split<;>omega
  have h2:(m.iL.frm m.jB).d.length<=8:=hj.da.1;omega
end
end
end Go.Proofs.YteadkhigkmijiaaGreat
