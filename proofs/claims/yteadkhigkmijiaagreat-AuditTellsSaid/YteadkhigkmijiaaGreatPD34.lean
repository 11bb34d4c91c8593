/- Texts SrJ, SrK, SrN, SrQ, SfB, QgC, RnP in one. -/
import Derived.Deep.MidRow
import Derived.Test.YteadkhigkmijiaaGreatPD1
import Derived.Test.YteadkhigkmijiaaGreatPD8
import Derived.Test.YteadkhigkmijiaaGreatPD13
import Derived.Test.YteadkhigkmijiaaGreatPD17
import Derived.Test.YteadkhigkmijiaaGreatPD18
import Derived.Test.YteadkhigkmijiaaGreatPD28
import Derived.Test.YteadkhigkmijiaaGreatPD29
import Derived.Test.YteadkhigkmijiaaGreatPD30
import Derived.Test.YteadkhigkmijiaaGreatPD32
import Derived.Test.YteadkhigkmijiaaGreatPD33
set_option linter.all false
namespace Go.Proofs.YteadkhigkmijiaaGreat
section
set_option maxRecDepth 100000
set_option maxHeartbeats 8000000
open Go.RowKit
open Tb (D T)
def gz:G:=⟨λ_=>false,0,0,0,[],0,false,0,0⟩
theorem Fy(s:G):∀v∈(grd s).toList,v.oneCell'=true:=by
 simp[grd,Value.oneCell']
theorem Fz{P:Program}{md:Region.Mode}{ops:Array Oper}{Q:Exit->Act->World->Prop}{S:World->Prop}{fuel:Nat}{listed:Array Bool}{a:Act}{w:World}{i:Nat}{o:Oper}(ho:ops[i]?=some o)(hg:o.guard=none)(h:o.wp P a w (λa' w'=>S w'/\wpAnyH P md ops Q S fuel (listed.setIfInBounds i true) a' w') Q):
  wpOp P ops Q i (λa' w'=>S w'/\wpAnyH P md ops Q S fuel (listed.setIfInBounds i true) a' w') a w:=by
 unfold wpOp;rw[ho];simp only;rw[au (by simp[Region.wanted,hg])];exact .inl h
theorem FA:(Tryz.prog.info? 115).map (λi=>i.size)=some 20:=by kernel_rfl
def qv(cs:Array Value)(o:Nat):List Value->Array Value
 |[]=>cs
 |v::r=>qv (cs.setIfInBounds o v) (o+1) r
theorem Blk.setCells{g:Nat}{t:TypeId}:∀(vs:List Value)(o:Nat){W:World}{cs:Array Value},Blk W g cs t->Blk (W.setCells g o vs) g (qv cs o vs) t
 |[],_,_,_,h=>h
 |v::r,o,_,_,h=>by
  rw[World.setCells];exact Blk.setCells r (o+1) (h.set o v)
theorem QO(x:Value)(s z y:G):qv (#[x]++grd z++grd y) 1 (grd s).toList=#[x]++grd s++grd y:=by
 simp[grd,qv]
theorem QT(x:Value)(s z y:G):qv (#[x]++grd y++grd z) 21 (grd s).toList=#[x]++grd y++grd s:=by
 simp[grd,qv]
theorem QV(t:T)(v:Value)(w:World)(hv:jh w w v t.ns)(ht:t.is=true):
  Calls Tryz.prog 23 #[jW t v] w λe w'=>∃g,e=.returned (.tuple #[.pointer (some ⟨g,0,none⟩),↑(0:Int)])/\w.heap.size<=g/\jL w' g t.ns.length (newG t) (newG t)/\Below w w w':=by
 obtain⟨A,c,rfl,v1,v2,v3,-⟩:=hv.at_;have hB0:=(ah w w).alloc lr (.cells #[.slice A t.ns.length c,↑t.dr,↑t.wi,↑t.lm] 31);have hX:=aJ w _ rfl #[.slice A t.ns.length c,↑t.dr,↑t.wi,↑t.lm] 31;have hI:=af (vT t (.slice A t.ns.length c) (w.alloc (.cells #[.slice A t.ns.length c,↑t.dr,↑t.wi,↑t.lm] 31)) w (by simp) (hv.below hB0));rw[ht]at hI;have HN:=λW(hW:Below w w W)=>af (J6 t (.slice A t.ns.length c) W ((hv.below hW).more hW.size) ht);unfold jW at hI HN ⊢;clear hv v3;have t0:=hX.cell 0 (x:=.slice A t.ns.length c) rfl;have t1:=hX.cell 1 (x:=↑t.dr) rfl;have t2:=hX.cell 2 (x:=↑t.wi) rfl;have t3:=hX.cell 3 (x:=↑t.lm) rfl;generalize newG t=q at *
 go_enter Tryz.func23,Tryz.ntmps23
 go_wp2_with fail;refine hI.o.mono ?_;rintro e w2 ⟨rfl,hb2⟩;have hz2:w.heap.size+1<=w2.heap.size:=by have:=hb2.size;simp at this;omega
 have hX2:=hX.below hb2 hX.lt;have hB2:=hB0.trans (hb2.mono hB0.size);have t0:=hX2.cell 0 (x:=.slice A t.ns.length c) rfl;have hS2:=aJ w2 w2 rfl #[↑(t.ns.length:Nat),↑false,↑false,↑false,↑false,↑false,↑false,↑false,↑false,↑(0:Int),↑(0:Int),↑(0:Int),↑(0:Int),↑(0:Int),↑(0:Int),↑(0:Int),↑(0:Int),↑(0:Int),↑false,↑(0:Int),↑(0:Int),↑false,↑false,↑false,↑false,↑false,↑false,↑false,↑false,↑(0:Int),↑(0:Int),↑(0:Int),↑(0:Int),↑(0:Int),↑(0:Int),↑(0:Int),↑(0:Int),↑(0:Int),↑false,↑(0:Int),↑(0:Int)] 118;have hX3:=hX2.alloc (.cells #[↑(t.ns.length:Nat),↑false,↑false,↑false,↑false,↑false,↑false,↑false,↑false,↑(0:Int),↑(0:Int),↑(0:Int),↑(0:Int),↑(0:Int),↑(0:Int),↑(0:Int),↑(0:Int),↑(0:Int),↑false,↑(0:Int),↑(0:Int),↑false,↑false,↑false,↑false,↑false,↑false,↑false,↑false,↑(0:Int),↑(0:Int),↑(0:Int),↑(0:Int),↑(0:Int),↑(0:Int),↑(0:Int),↑(0:Int),↑(0:Int),↑false,↑(0:Int),↑(0:Int)] 118);have hB3:=hB2.alloc hB2.size (.cells #[↑(t.ns.length:Nat),↑false,↑false,↑false,↑false,↑false,↑false,↑false,↑false,↑(0:Int),↑(0:Int),↑(0:Int),↑(0:Int),↑(0:Int),↑(0:Int),↑(0:Int),↑(0:Int),↑(0:Int),↑false,↑(0:Int),↑(0:Int),↑false,↑false,↑false,↑false,↑false,↑false,↑false,↑false,↑(0:Int),↑(0:Int),↑(0:Int),↑(0:Int),↑(0:Int),↑(0:Int),↑(0:Int),↑(0:Int),↑(0:Int),↑false,↑(0:Int),↑(0:Int)] 118);have hz3:(w2.alloc (.cells #[↑(t.ns.length:Nat),↑false,↑false,↑false,↑false,↑false,↑false,↑false,↑false,↑(0:Int),↑(0:Int),↑(0:Int),↑(0:Int),↑(0:Int),↑(0:Int),↑(0:Int),↑(0:Int),↑(0:Int),↑false,↑(0:Int),↑(0:Int),↑false,↑false,↑false,↑false,↑false,↑false,↑false,↑false,↑(0:Int),↑(0:Int),↑(0:Int),↑(0:Int),↑(0:Int),↑(0:Int),↑(0:Int),↑(0:Int),↑(0:Int),↑false,↑(0:Int),↑(0:Int)] 118)).heap.size=w2.heap.size+1:=by simp
 clear hX hI hX2 hB2 hB0 hb2 t1 t2 t3;go_wp2_with fail;generalize w2.alloc (.cells #[↑(t.ns.length:Nat),↑false,↑false,↑false,↑false,↑false,↑false,↑false,↑false,↑(0:Int),↑(0:Int),↑(0:Int),↑(0:Int),↑(0:Int),↑(0:Int),↑(0:Int),↑(0:Int),↑(0:Int),↑false,↑(0:Int),↑(0:Int),↑false,↑false,↑false,↑false,↑false,↑false,↑false,↑false,↑(0:Int),↑(0:Int),↑(0:Int),↑(0:Int),↑(0:Int),↑(0:Int),↑(0:Int),↑(0:Int),↑(0:Int),↑false,↑(0:Int),↑(0:Int)] 118)=w3 at *;generalize w2.heap.size=g at *;generalize Value.agg #[↑(t.ns.length:Nat),↑false,↑false,↑false,↑false,↑false,↑false,↑false,↑false,↑(0:Int),↑(0:Int),↑(0:Int),↑(0:Int),↑(0:Int),↑(0:Int),↑(0:Int),↑(0:Int),↑(0:Int),↑false,↑(0:Int),↑(0:Int),↑false,↑false,↑false,↑false,↑false,↑false,↑false,↑false,↑(0:Int),↑(0:Int),↑(0:Int),↑(0:Int),↑(0:Int),↑(0:Int),↑(0:Int),↑(0:Int),↑(0:Int),↑false,↑(0:Int),↑(0:Int)]=zz
 go_loopw [16] (λi wr=>∃k:Nat,k<=2/\i=↑k/\Blk wr g (#[.int .i64 (t.ns.length:Nat)]++grd (if 0<k then q else gz)++grd (if 1<k then q else gz)) 118/\Blk wr w #[.slice A t.ns.length c,↑t.dr,↑t.wi,↑t.lm] 31/\Below w w wr/\g<wr.heap.size/\q.l.length<=(if 0<k then 4 else q.l.length)) (λi _=>2-(intOf i).toNat)
 case atStart=>exact⟨0,by omega,rfl,hS2.eq (by simp[grd,gz]),hX3,hB3,by omega,by simp⟩
 case round=>
  obtain⟨k,hk,rfl,hS,hT,hB,hz,hq⟩:=hrel;clear hS2 hX3 hB3 t0;have t0:=hT.cell 0 (x:=.slice A t.ns.length c) rfl;have t1:=hT.cell 1 (x:=↑t.dr) rfl;have t2:=hT.cell 2 (x:=↑t.wi) rfl;have t3:=hT.cell 3 (x:=↑t.lm) rfl;have hN:=HN wr hB;rcases(by omega:k=0\/k=1\/k=2)with rfl|rfl|rfl
  ·simp only[fD,dB]at hS
   go_wp2_with fail;refine hN.o.mono ?_;rintro e w4 ⟨g4,rfl,hg4,hG4,hb4⟩;have hS4:=hS.below hb4 hz;have hT4:=hT.below hb4 hT.lt;have hB4:=hB.trans (hb4.mono hB.size);have hne:g≠g4:=by omega
   have S5:=af ((hS4.drew.setCells (grd q).toList 1).eq (QO _ q gz gz));have rK:g<w4.heap.size:=hS4.lt;have Z5:=af (show g<(w4.drew.setCells g 1 (grd q).toList).heap.size from aN rK (Only.setCells (grd q).toList 1 (aE g w4.drew)).size);have tt0:w4.there g 1 20:=λj hj=>⟨by rw[hS4.cell (1+j) (cm (by simp[grd];omega))];rfl,hS4.frozen _⟩;have Q5:=af hG4.2;clear hb4 hS hT hB hN HN t0 t1 t2 t3;have T5:=af (hT4.drew.only (Only.setCells (grd q).toList 1 (aE g w4.drew)) (by omega));have B5:=af (hB4.drew.trans ((Only.setCells (grd q).toList 1 (aE g w4.drew)).below (by omega) rK));have rr:w4.drew.rangeAt g4 0 (grd q).toList:=λj v hv=>by rw[bU];exact hG4.1.cell j (by rw[Array.getElem?_toList]at hv;exact hv)
   have i4:=Tryz.underlying115;obtain⟨CS,hCS⟩:∃CS,CS=(grd q).toList:=⟨_,rfl⟩;have tt:w4.drew.there g 1 CS.length:=by rw[hCS];exact tt0
   have i1:(Tryz.prog.info? 115).map (λi=>i.size)=some CS.length:=by rw[hCS];exact FA
   have i3:∀v∈CS,v.oneCell'=true:=by rw[hCS];exact Fy q
   rw[<-hCS]at S5 T5 B5 Z5 rr;clear hCS tt0 hG4 hS4 hT4 hB4;go_wp2_with fail;refine cW (S:=λW=>W.rangeAt g4 0 CS/\W.there g 1 CS.length) (by kernel_rfl) ⟨rr,tt⟩ (λhHeld=>?_);refine wT 0 24 ?_;refine wT 1 25 ?_;refine wT 2 26 ?_;refine wT 3 27 ?_;refine dm (i:=4) (oi:={dst:=some 28,op:=_,type:=_,pos:=_,after:=_,guard:=none}) rfl (by kernel_rfl) (by kernel_rfl) (by kernel_rfl) (λ_ _ _ h=>h) (yieldsIf_load_mid (by rfl) _ _ rfl _ _ rfl CS _ (λ_ h=>h.1) i4 rfl i1) (by assumption) ?_;simp only[Act.put,bN,List.set_cons_zero,fH];refine wT 5 29 ?_;refine wT 6 30 ?_;refine wT 7 31 ?_;refine wpAnyH_all (rs:=[8]) (by kernel_rfl) (by simp) ?_;intro i hi;obtain rfl:i=8:=by simpa using hi
   refine Fz (o:={dst:=none,op:=_,type:=_,pos:=_,after:=_,guard:=none}) rfl rfl ?_;refine wp_store_mid _ _ _ rfl _ _ CS.toArray rfl rfl (by simpa using tt) (by simpa using i1) (all_oneCell_toArray i3) ?_
   dsimp only
   refine⟨⟨World.rangeAt_setCells_apart rr _ _ _ (.inl (dH hne)),World.there_setCells tt _ _ _⟩,?_⟩;refine bP (by kernel_rfl) ?_ _;clear tt i1 i3 rr i4;go_wp2_with fail;refine⟨⟨1,by omega,rfl,?_,T5.o,B5.o,Z5.o,?_⟩,by simp[intOf]⟩
   ·rw[au (by omega),ai (by omega)];with_reducible exact S5.o
   ·rw[au (by omega)];exact Q5.o
  ·simp only[fD,dB,Nat.zero_lt_one,dG]at hS
   go_wp2_with fail;refine hN.o.mono ?_;rintro e w4 ⟨g4,rfl,hg4,hG4,hb4⟩;have hS4:=hS.below hb4 hz;have hT4:=hT.below hb4 hT.lt;have hB4:=hB.trans (hb4.mono hB.size);have hne:g≠g4:=by omega
   have S5:=af ((hS4.drew.setCells (grd q).toList 21).eq (QT _ q gz q));have rK:g<w4.heap.size:=hS4.lt;have Z5:=af (show g<(w4.drew.setCells g 21 (grd q).toList).heap.size from aN rK (Only.setCells (grd q).toList 21 (aE g w4.drew)).size);have tt0:w4.there g 21 20:=λj hj=>⟨by rw[hS4.cell (21+j) (cm (by simp[grd];omega))];rfl,hS4.frozen _⟩;have Q5:=af hG4.2;clear hb4 hS hT hB hN HN t0 t1 t2 t3;have T5:=af (hT4.drew.only (Only.setCells (grd q).toList 21 (aE g w4.drew)) (by omega));have B5:=af (hB4.drew.trans ((Only.setCells (grd q).toList 21 (aE g w4.drew)).below (by omega) rK));have rr:w4.drew.rangeAt g4 0 (grd q).toList:=λj v hv=>by rw[bU];exact hG4.1.cell j (by rw[Array.getElem?_toList]at hv;exact hv)
   have i4:=Tryz.underlying115;obtain⟨CS,hCS⟩:∃CS,CS=(grd q).toList:=⟨_,rfl⟩;have tt:w4.drew.there g 21 CS.length:=by rw[hCS];exact tt0
   have i1:(Tryz.prog.info? 115).map (λi=>i.size)=some CS.length:=by rw[hCS];exact FA
   have i3:∀v∈CS,v.oneCell'=true:=by rw[hCS];exact Fy q
   rw[<-hCS]at S5 T5 B5 Z5 rr;clear hCS tt0 hG4 hS4 hT4 hB4;go_wp2_with fail;refine cW (S:=λW=>W.rangeAt g4 0 CS/\W.there g 21 CS.length) (by kernel_rfl) ⟨rr,tt⟩ (λhHeld=>?_);refine wT 0 24 ?_;refine wT 1 25 ?_;refine wT 2 26 ?_;refine wT 3 27 ?_;refine dm (i:=4) (oi:={dst:=some 28,op:=_,type:=_,pos:=_,after:=_,guard:=none}) rfl (by kernel_rfl) (by kernel_rfl) (by kernel_rfl) (λ_ _ _ h=>h) (yieldsIf_load_mid (by rfl) _ _ rfl _ _ rfl CS _ (λ_ h=>h.1) i4 rfl i1) (by assumption) ?_;simp only[Act.put,bN,List.set_cons_zero,fH];refine wT 5 29 ?_;refine wT 6 30 ?_;refine wT 7 31 ?_;refine wpAnyH_all (rs:=[8]) (by kernel_rfl) (by simp) ?_;intro i hi;obtain rfl:i=8:=by simpa using hi
   refine Fz (o:={dst:=none,op:=_,type:=_,pos:=_,after:=_,guard:=none}) rfl rfl ?_;refine wp_store_mid _ _ _ rfl _ _ CS.toArray rfl rfl (by simpa using tt) (by simpa using i1) (all_oneCell_toArray i3) ?_
   dsimp only
   refine⟨⟨World.rangeAt_setCells_apart rr _ _ _ (.inl (dH hne)),World.there_setCells tt _ _ _⟩,?_⟩;refine bP (by kernel_rfl) ?_ _;clear tt i1 i3 rr i4;go_wp2_with fail;refine⟨⟨2,by omega,rfl,?_,T5.o,B5.o,Z5.o,?_⟩,by simp[intOf]⟩
   ·rw[au (by omega),au (by omega)];with_reducible exact S5.o
   ·rw[au (by omega)];exact Q5.o
  ·have hS':=af (show jL wr g t.ns.length q q from⟨by simpa using hS,by simpa using hq,by simpa using hq⟩)
   have hB':=af hB;have hg:=af (show w.heap.size<=g by omega);clear hS hT hB hq HN hN;go_wp2_with fail;go_ret2;exact⟨g,rfl,hg.o,hS'.o,hB'.o⟩
end
section
open Go.RowKit
def strikes(fl:List Ft)(m:List Sd):List Sd:=fl.foldl (λm f=>kS f m) m
theorem Qi(fl:List Ft)(m:List Sd)(k:Nat)(hk:k<fl.length):strikes (fl.take (k+1)) m=kS (fl.getD k default) (strikes (fl.take k) m):=by
 unfold strikes;rw[gM,fO,ay,aP hk]
 rfl
theorem xS(fl:List Ft)(m:List Sd):(strikes fl m).length=m.length:=by
 unfold strikes
 induction fl generalizing m with
 |nil=>rfl
 |cons f fl ih=>rw[dI,ih,Qz]
theorem any_succ(fl:List Ft)(p:Ft->Bool)(k:Nat)(hk:k<fl.length):(fl.take (k+1)).any p=((fl.take k).any p||p (fl.getD k default)):=by
 rw[gM,List.any_append,ay,aP hk];simp
theorem QW(f:Ft)(s:Sd)(ha:-1000<=f.a/\f.a<=1000):s.at_-1000<=(s.strike f).at_/\(s.strike f).at_<=s.at_+1000:=by
 unfold Sd.strike
 split<;>(try split)<;>(try split)<;>(try split)<;>(try split)<;>(try simp only)<;>omega
theorem Qj(f:Ft)(m:List Sd)(ha:-1000<=f.a/\f.a<=1000)(B:Int)(h:∀s∈m,-B<=s.at_/\s.at_<=B):∀s∈kS f m,-(B+1000)<=s.at_/\s.at_<=B+1000:=by
 intro s hs;unfold kS at hs
 split at hs
 ·have:=h s hs;omega
 ·split at hs
  ·rename_i t ht
   rcases qo hs with rfl|hs
   ·have:=h t (bO ht)
    have:=QW f t ha;omega
   ·have:=h s hs;omega
  ·have:=h s hs;omega
theorem Qk(m:List Sd)(B:Int)(hB:0<=B)(h:∀s∈m,-B<=s.at_/\s.at_<=B)(i:Nat):-B<=sA m i/\sA m i<=B:=by
 unfold sA
 cases e:m[i]? with
 |none=>simp only;omega
 |some s=>exact h s (bO e)
theorem Only.other{g r:Nat}{w w1 w2:World}(h:Only g w w1)(k:Only r w1 w2)(hr:w.heap.size<=r):Only g w w2:=⟨k.os.trans h.os,k.tape.trans h.tape,k.output.trans h.output,aW h.size k.size,λi hi hne=>(k.block i (aN hi h.size) (by intro e;cases e;omega)).trans (h.block i hi hne)⟩
end
section
open Go.RowKit
open Tb (D T)
def m0(n:Nat)(bs:Nat->List Int)(a:Nat->Int):List Sd:=(List.range n).map (sd0 bs a)
theorem QX(n:Nat)(bs:Nat->List Int)(a:Nat->Int):(m0 n bs a).length=n:=by simp[m0]
theorem QY(n:Nat)(bs:Nat->List Int)(a:Nat->Int)(i:Nat)(h:i<n):(m0 n bs a)[i]?=some (sd0 bs a i):=by simp[m0,h]
def S1(n:Nat):G:=(newG (jA n 1)).told 0 0
def HAt(W:World)(b:Nat)(f:Nat->Hd):Prop:=W.rangeAt b 0 (hdC f).toList
theorem HAt.get{W:World}{b:Nat}{f:Nat->Hd}(h:HAt W b f)(k:Nat)(hk:k<8):W.cell? (b,k*5)=some ↑(f k).A/\W.cell? (b,k*5+1)=some ↑(f k).B/\W.cell? (b,k*5+2)=some (f k).X/\W.cell? (b,k*5+3)=some (f k).Y/\W.cell? (b,k*5+4)=some ↑(f k).o:=by
 obtain⟨g0,g1,g2,g3,g4⟩:=xk f k hk;have key:∀j v,(hdC f)[j]?=some v->W.cell? ⟨b,j,none⟩=some v:=λj v hj=>by
  have:=h j v (by rw[Array.getElem?_toList];exact hj)
  rwa[bU]at this
 exact⟨key _ _ g0,key _ _ g1,key _ _ g2,key _ _ g3,key _ _ g4⟩
theorem HAt.below{W W':World}{B b:Nat}{f:Nat->Hd}(h:HAt W b f)(hb:Below B W W')(hB:b<B):HAt W' b f:=λj v hj=>(hb.cell (p:=(b,0+j)) hB).trans (h j v hj)
theorem vn(W:World)(b:Nat)(hb:b=W.heap.size)(t:TypeId):(W.alloc (.cells (hdC λ_=>hdz) t)).there b 0 40:=λj hj=>by
 have X:=aJ W b hb (hdC λ_=>hdz) t;refine⟨?_,X.frozen _⟩;rw[bU,X.cell j (cm (by show j<40;omega))]
 rfl
theorem Ah:hdC (λ_=>hdz)=#[↑(0:Int),↑(0:Int),.slice none 0 0,.slice none 0 0,↑(0:Int),↑(0:Int),↑(0:Int),.slice none 0 0,.slice none 0 0,↑(0:Int),↑(0:Int),↑(0:Int),.slice none 0 0,.slice none 0 0,↑(0:Int),↑(0:Int),↑(0:Int),.slice none 0 0,.slice none 0 0,↑(0:Int),↑(0:Int),↑(0:Int),.slice none 0 0,.slice none 0 0,↑(0:Int),↑(0:Int),↑(0:Int),.slice none 0 0,.slice none 0 0,↑(0:Int),↑(0:Int),↑(0:Int),.slice none 0 0,.slice none 0 0,↑(0:Int),↑(0:Int),↑(0:Int),.slice none 0 0,.slice none 0 0,↑(0:Int)]:=rfl
theorem r9(W:World)(b:Nat)(hb:b=W.heap.size)(f:Nat->Hd)(t:TypeId):HAt ((W.alloc (.cells (hdC λ_=>hdz) t)).setCells b 0 (hdC f).toList) b f/\Below W W ((W.alloc (.cells (hdC λ_=>hdz) t)).setCells b 0 (hdC f).toList):=by
 subst hb;refine⟨cO _ _ _ _ (vn W _ rfl t),?_⟩;have h1:Below W W (W.alloc (.cells (hdC λ_=>hdz) t)):=(ah _ _).alloc lr _;exact h1.trans ((Only.setCells (hdC f).toList 0 (aE W _)).below lr (by simp))
theorem jH.is{W:World}{Bs:Nat}{n:Nat}{bs:Nat->List Int}{c:Nat->Int}{r:Nat}{qa qb:Nat->Int}{p:Int}{a:Nat->Int}{i:Nat}{h:Hd}(H:jH W Bs (m0 n bs c) r qa qb p a i h)(hi:i<n):h.A=tk r qa/\h.B=tk r qb/\iJ W Bs h.X (tl r qa)/\iJ W Bs h.Y (tl r qb):=by
 have e:i<(m0 n bs c).length/\((m0 n bs c)[i]?.map Sd.df)≠some true:=⟨by rw[QX];exact hi,by rw[QY n bs c i hi];simp[sd0]⟩;obtain⟨h1,h2,h3,h4,-⟩:=H;rw[au e]at h1 h2 h3 h4;exact⟨h1,h2,h3,h4⟩
theorem b12:iK [1,2]:=λx hx=>by simp at hx;omega
end
section
open Go.RowKit
structure jy where
 c:ChR
 d:ChR
def Air.said(x:Air)(N:Nat)(first p0 p1:Int):jy:=⟨chan N (λi=>rn (x.s i).b) (λi=>(x.s i).row) first p0 (x.bl 0) (x.lk 0),chan N (λi=>rn (x.s i).b) (λi=>(x.s i).row) first p1 (x.bl 1) (x.lk 1)⟩
def l6(m:List Sd)(first p0 p1:Int)(b0 b1 l0 l1:Bool):jy:=⟨chan m.length (mN m) (mR m) first p0 b0 l0,chan m.length (mN m) (mR m) first p1 b1 l1⟩
theorem jU.Po{m:List Sd}{x:Air}(h:jU m x)(first p0 p1:Int)(h0:p0<0\/p0.toNat<m.length)(h1:p1<0\/p1.toNat<m.length):l6 m first p0 p1 (x.bl 0) (x.bl 1) (x.lk 0) (x.lk 1)=x.said m.length first p0 p1:=by
 unfold l6 Air.said;rw[h.EL first p0 _ _ h0,h.EL first p1 _ _ h1]
def jy.n(z:jy):Nat:=max z.c.n z.d.n
def jy.who(z:jy):Int:=if z.c.p<0 then z.d.p else z.c.p
def Air.jq(x:Air)(p:Int):Int:=if p<0 then 0 else(x.s p.toNat).at_
theorem jU.jq{m:List Sd}{x:Air}(h:jU m x)(p:Int)(hp:p<0\/p.toNat<m.length):jG m p=x.jq p:=by
 unfold jG Air.jq;by_cases hn:p<0
 ·rw[au hn,au hn]
 ·rw[ai hn,ai hn]
  exact h.sA_ _ (hp.resolve_left hn)
def jy.hear(z:jy)(x:Air)(a:Int)(i:Nat):Hn:=⟨if(x.s i).df then 0 else tk z.n z.c.q,if(x.s i).df then 0 else tk z.n z.d.q,if(x.s i).df then []else tl z.n z.c.q,if(x.s i).df then []else tl z.n z.d.q,if z.who<0 then 0 else x.jq z.who-a⟩
theorem jy.zT(z:jy)(x:Air)(a:Int)(i:Nat):iK (z.hear x a i).x/\iK (z.hear x a i).y:=by
 unfold jy.hear;simp only;constructor
 ·split
  ·exactλ_ h=>by cases h
  ·exact qg _ _
 ·split
  ·exactλ_ h=>by cases h
  ·exact qg _ _
theorem Air.nI(x:Air)(p B:Int)(hB:0<=B)(h:∀i,-B<=(x.s i).at_/\(x.s i).at_<=B):-B<=x.jq p/\x.jq p<=B:=by
 unfold Air.jq
 split
 ·omega
 ·exact h _
theorem jy.zU(z:jy)(x:Air)(a:Int)(i:Nat)(B:Int)(hB:0<=B)(h:∀i,-B<=(x.s i).at_/\(x.s i).at_<=B)(ha:-B<=a/\a<=B):-(2*B)<=(z.hear x a i).o/\(z.hear x a i).o<=2*B:=by
 have hw:=x.nI z.who B hB h;unfold jy.hear;simp only
 split<;>omega
theorem Pp{N:Nat}{n:Nat->Nat}{r:Nat->Nat->Int}{first pass:Int}{bl lk:Bool}(hf:first=-1\/∃j:Nat,first=j/\j<N)(hp:pass=-1\/∃j:Nat,pass=j/\j<N):(chan N n r first pass bl lk).p=-1\/∃j:Nat,(chan N n r first pass bl lk).p=j/\j<N:=by
 unfold chan
 split
 ·exact .inl rfl
 split
 ·exact hf
 split
 ·exact .inl rfl
 ·exact hp
theorem jy.xP{z:jy}{N:Nat}(h0:z.c.p=-1\/∃j:Nat,z.c.p=j/\j<N)(h1:z.d.p=-1\/∃j:Nat,z.d.p=j/\j<N):z.who=-1\/∃j:Nat,z.who=j/\j<N:=by
 unfold jy.who
 split
 ·exact h1
 ·exact h0
theorem Air.Pq(x:Air)(N:Nat)(first p:Int)(bl lk:Bool)(j:Nat)(hj:(chan N (λi=>rn (x.s i).b) (λi=>(x.s i).row) first p bl lk).n<=j):(chan N (λi=>rn (x.s i).b) (λi=>(x.s i).row) first p bl lk).q j=0:=by
 have hr:∀(y:Db)(j:Nat),rn y.b<=j->y.row j=0:=λy j h=>by unfold Db.row;rw[ai (by omega)]
 unfold chan at hj ⊢
 split
 ·rfl
 split
 ·rename_i h1 h2
  rw[ai h1,au h2]at hj;exact wZ (n:=λi=>rn (x.s i).b) (λi h=>hr _ _ h) hj
 split
 ·rfl
 ·rename_i h1 h2 h3
  rw[ai h1,ai h2,ai h3]at hj;exact hr _ _ hj
end
section
set_option maxRecDepth 100000
set_option maxHeartbeats 4000000
open Go.RowKit
structure GT(t:Tb.T)(s:G):Prop where
 n:s.n=t.ns.length
 wi:s.wi=t.wi
 lm:s.lm=t.lm
 sy:∀j,j<t.ns.length->s.sy j=(t.ns.getD j default).sy
 l4:s.l.length<=4
def RG(Q:GS)(W:World)(g:Nat)(t:Tb.T)(s:G):Prop:=(∃sl si L,RC Q W g t s.kn sl s.now si L s.l/\(s.kn=true->sl=(s.slot:Nat)/\si=(s.si:Nat)))/\GT t s
theorem RG.below{Q:GS}{W W':World}{g:Nat}{t:Tb.T}{s:G}(h:RG Q W g t s)(b:Below W W W'):RG Q W' g t s:=by
 obtain⟨⟨sl,si,L,h,hk⟩,hg⟩:=h;exact⟨⟨sl,si,L,h.below b,hk⟩,hg⟩
theorem RG.of{Q:GS}{W:World}{g:Nat}{t:Tb.T}{s s':G}(e:s=s')(h:RG Q W g t s):RG Q W g t s':=e▸h
theorem RG.lt{Q:GS}{W:World}{g:Nat}{t:Tb.T}{s:G}(h:RG Q W g t s):g<W.heap.size:=by
 obtain⟨⟨sl,si,L,h,-⟩,-⟩:=h;exact h.lt
theorem Dj(Q:GS)(g:Nat)(t:Tb.T)(s:G)(f:Nat->Bool)(a:Nat->Int)(w:World)(h:RG Q w g t s)(h8:t.ns.length<=8)(hs:s.slot<t.ns.length)(jz:time s.now)(hat:time (a s.slot))(hwi:0<=s.wi/\s.wi<=2305843009213693952):
  Calls Tryz.prog 175 #[↑(g,0),kZ f,jK a] w λe w'=>e=.returned ↑(s.pass f a)/\Below w w w':=by
 have hB:=((ah w w).alloc lr (.cells #[↑(f 0),↑(f 1),↑(f 2),↑(f 3),↑(f 4),↑(f 5),↑(f 6),↑(f 7)] 110)).alloc (by simp) (.cells (aI a) 22);have hX:=(aJ w _ rfl #[↑(f 0),↑(f 1),↑(f 2),↑(f 3),↑(f 4),↑(f 5),↑(f 6),↑(f 7)] 110).alloc (.cells (aI a) 22);have hY:=aJ (w.alloc (.cells #[↑(f 0),↑(f 1),↑(f 2),↑(f 3),↑(f 4),↑(f 5),↑(f 6),↑(f 7)] 110)) (w.heap.size+1) (by simp) (aI a) 22;obtain⟨⟨sl,si,L,hc,hk⟩,hg⟩:=h;have hG:=hc.below (hB.mono lr);have en:=hg.n;have ewi:=hg.wi;rw[ewi]at hwi;clear hc hg;unfold kZ jK
 go_enter Tryz.func175,Tryz.ntmps175
 generalize hw0:(w.alloc (.cells #[↑(f 0),↑(f 1),↑(f 2),↑(f 3),↑(f 4),↑(f 5),↑(f 6),↑(f 7)] 110)).alloc (.cells (aI a) 22)=w0 at *;have c4:=hG.c4;unfold G.pass
 cases hkn:s.kn
 ·rw[hkn]at c4
  obtain⟨A,c,c0,-⟩:=hG.c0;rw[en];simp only[bA,dB];generalize t.ns.length=N at *;have hF:Hid (∀k,k<N->w0.cell? ⟨w.heap.size,k,none⟩=some ↑(f k)):=af λk hk=>hX.cell k (lZ f k (by omega));have h1:Hid (∀k,k<N->f k=true->(∀j,j<k->f j=false)->fst f N=(k:Nat)):=af λk hk hf hj=>tA hk hf hj;have h2:Hid ((∀k,k<N->f k=false)->fst f N=-1):=af λh=>tu h;generalize fst f N=r at *;clear hX hY hG hk;go_wp2_with fail
  go_loopw [8] (λi wr=>∃k:Nat,k<=N/\i=↑k/\Hid (∀j,j<k->f j=false)/\wr=w0) (λi _=>N-(intOf i).toNat)
  case atStart=>exact⟨0,by omega,rfl,af (λj hj=>absurd hj (Nat.not_lt_zero _)),rfl⟩
  case round=>
   obtain⟨k,hk,rfl,hn,rfl⟩:=hrel;by_cases hlt:k<N
   ·have r1:decide ((k:Int)<((N:Nat):Int))=true:=av (by omega)
    have k8:(k:Int)<8:=by omega
    have cf:=hF.o k hlt
    cases hf:f k
    ·rw[hf]at cf
     go_wp2_with fail;go_roundw
     case rel=>exact⟨k+1,by omega,by go_num,af (λj hj=>by
      rcases(by omega:j<k\/j=k)with h|rfl
      ·exact hn.o j h
      ·exact hf),trivial⟩
     case measure=>simp[intOf];omega
    ·rw[hf]at cf
     have er:=af (h1.o k hlt hf hn.o);go_wp2_with fail;go_ret;exact⟨by rw[er.o];rfl,hB⟩
   ·obtain rfl:k=N:=by omega
    have r1:decide ((k:Int)<((k:Nat):Int))=false:=aj (by omega);have er:=af (h2.o hn.o);go_wp2_with fail;go_ret;exact⟨by rw[er.o];rfl,hB⟩
 ·rw[hkn]at c4
  obtain⟨rfl,-⟩:=hk hkn;have c2:=hG.c2;have c5:=hG.c5;have c6:=hG.c6;rw[ewi];clear ewi;have cx:=hX.cell s.slot (lZ f s.slot (by omega));have cy:=hY.cell s.slot (l7 a s.slot (by omega));have i1:(0:Int)<=(s.slot:Int):=by omega
  have i2:(s.slot:Int)<8:=by omega
  have wd:IntKind.i64.wrap (a s.slot-s.now)=a s.slot-s.now:=aO _ (by unfold time at jz hat;omega);have wm:IntKind.i64.wrap (-t.wi)=-t.wi:=aO _ (by omega);have HB:Hid (∀n,Below w w (w0.drewN n)):=af λn=>aC hB n;have HG:Hid (∀n,RC Q (w0.drewN n) g t s.kn (s.slot:Nat) s.now si L s.l/\Blk (w0.drewN n) w #[↑(f 0),↑(f 1),↑(f 2),↑(f 3),↑(f 4),↑(f 5),↑(f 6),↑(f 7)] 110):=af λn=>⟨hG.drewN n,hX.drewN n⟩;have hnb:lM (a s.slot) s.now t.wi=(decide (-t.wi<=a s.slot-s.now)&&decide (a s.slot-s.now<=t.wi)):=by unfold lM;rw[Bool.decide_and]
  have hfs:=af (lZ f s.slot (by omega));rw[hnb];clear hnb;generalize hq:f s.slot=q at *;generalize a s.slot=x at *;have hC:(q=false)\/(q=true/\decide (-t.wi<=x-s.now)=false)\/(q=true/\decide (-t.wi<=x-s.now)=true/\decide (x-s.now<=t.wi)=false)\/(q=true/\decide (-t.wi<=x-s.now)=true/\decide (x-s.now<=t.wi)=true):=by
   cases q<;>cases decide (-t.wi<=x-s.now)<;>cases decide (x-s.now<=t.wi)<;>simp
  clear hX hY hG;rcases hC with rfl|⟨rfl,e1⟩|⟨rfl,e1,e2⟩|⟨rfl,e1,e2⟩
  all_goals
   first
    |simp only[e1,e2,cK,dD,eG,Bool.and_true,Bool.and_self,bA,dB,dG]
    |simp only[e1,cK,dD,eG,Bool.and_self,bA,dB,dG]
    |simp only[dD,eG,Bool.and_self,bA,dB,dG]
   go_wp2_with fail
   go_quiet (fail)
   obtain⟨hG,hX⟩:=HG.o nq;have hB':=HB.o nq;clear c2 c4 c5 c6 cx cy HG HB;generalize w0.drewN nq=w3 at *;have c2:=hG.c2;have c5:=hG.c5;have cx:=hX.cell s.slot hfs.o;clear hG hX;go_wp2
   all_goals
    go_ret;exact⟨rfl,hB'⟩
end
section
open Go.RowKit
section
variable {b:Bool}{G G':GS}{w W W':World}{g:Nat}{m:NM}{x:RX}
def Gp(G:GS)(w W:World):GS:=⟨λk=>G k/\¬(w.heap.size<=k/\k<W.heap.size),G.ro⟩
theorem qz{v:Value}{l:List Tb.D}(h:jh W W v l)(h0:l≠[]){k:Nat}(e:v.ownBlock=some k):k<W.heap.size:=by
 by_cases hk:k<W.heap.size
 ·exact hk
 ·exact absurd e (EG h (by omega) h0)
theorem xB{v:Value}{l:List R4}(h:jl W W v l)(h0:l≠[]){k:Nat}(e:v.ownBlock=some k):k<W.heap.size:=by
 by_cases hk:k<W.heap.size
 ·exact hk
 ·exact absurd e (EH h (by omega) h0)
theorem Em{v:Value}{l:List Int}(h:iI W W v l)(h0:l≠[]){k:Nat}(e:v.ownBlock=some k):k<W.heap.size:=by
 by_cases hk:k<W.heap.size
 ·exact hk
 ·exact absurd e (EI h (by omega) h0)
theorem jr.past{P:List Nat}{v:Value}{l:List Int}(h:jr G P w v l)(V:World):jr (Gp G w V) P w v l:=
 ⟨h.1,λh0 k e=>⟨h.2 h0 k e,λq=>by have:=Em h.1.1 h0 e;omega⟩⟩
theorem RA.OZ(h:RA b G w g m x)(V:World):RA b (Gp G w V) w g m x:=by
 obtain⟨Vn,L,D,R,hB,hA,hV⟩:=h.ex;obtain⟨⟨sv,hS,hd⟩,hk⟩:=h.so;exact⟨⟨Vn,L,D,R,hB,hA,⟨hV.t,hV.tf,λh0 k e=>(hV.tn h0 k e).imp (λh=>⟨h,λq=>by have:=qz hV.t h0 e;omega⟩) id,hV.l,hV.lf,λh0 k e=>⟨hV.ln h0 k e,λq=>by have:=hV.ll k e;omega⟩,hV.ll,hV.d.past V,hV.r,hV.rf,λh0 k e=>(hV.rn h0 k e).imp (λh=>⟨h,λq=>by have:=xB hV.r h0 e;omega⟩) id⟩⟩,h.ty,⟨⟨sv,hS,λi hi=>(hd i hi).past V⟩,hk⟩,h.nb,h.rb,h.nd,λk hk=>⟨h.gs k hk,λq=>by have:=h.lts k hk;omega⟩,h.al2,h.cko,h.n16⟩
theorem RA.past(h:RA b G w g m x)(bw:Below w w W):RA b (Gp G w W) W g m x:=(h.OZ W).below bw
theorem Gp.gn(h:GN G w)(k:w.heap.size<=W.heap.size):GN (Gp G w W) W:=λi hi=>⟨h i (aW k hi),λq=>by omega⟩
theorem KG.mono(h:KG G W W')(hg:∀k,G k->G' k):KG G' W W':=⟨h.os,h.tape,h.output,h.size,λk hk hn=>h.block k hk λhg'=>hn (hg k hg')⟩
theorem KG.up(h:KG (Gp G w W) W W'):KG G W W':=h.mono λ_ h=>h.1
theorem RS.up(h:RS b (Gp G w W) W' g m):RS b G W' g m:=by
 obtain⟨x,h⟩:=h;exact⟨x,h.mono (λ_ h=>h.1) λ_ h=>h⟩
theorem KG.kept(h:KG (Gp G w W) W W'){k:Nat}(h1:w.heap.size<=k)(h2:k<W.heap.size):W'.heap[k]?=W.heap[k]?:=h.block k h2 λq=>q.2 ⟨h1,h2⟩
theorem KG.blk{k:Nat}{cs:Array Value}{t:TypeId}(h:KG (Gp G w W) W W')(h1:w.heap.size<=k)(hB:Blk W k cs t):Blk W' k cs t:=(h.kept h1 hB.lt).trans hB
theorem KG.xI{v:Value}{l:List Int}(h:KG (Gp G w W) W W')(hs:iI W W v l)(h1:∀k,l≠[]->v.ownBlock=some k->w.heap.size<=k):iI W' W' v l:=⟨by
 obtain⟨A,c,rfl,v1,v2,v3,v4⟩:=hs.at_;refine⟨A,c,rfl,v1,v2,λh0=>?_,v4⟩;obtain⟨bl,off,rfl,hb,hc⟩:=v3 h0;refine⟨bl,off,rfl,aN hb h.size,λj hj=>?_⟩;rw[<-hc j hj];simp only[World.cell?,h.kept (h1 bl (aX.1 h0) rfl) hb]⟩
end
end
end Go.Proofs.YteadkhigkmijiaaGreat
