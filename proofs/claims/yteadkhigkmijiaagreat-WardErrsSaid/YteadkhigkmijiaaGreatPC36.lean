/- Texts SqK, RaS, RaN in one. -/
import Derived.Deep.RegionHeld3
import Derived.Test.YteadkhigkmijiaaGreatPC1
import Derived.Test.YteadkhigkmijiaaGreatPC8
import Derived.Test.YteadkhigkmijiaaGreatPC20
import Derived.Test.YteadkhigkmijiaaGreatPC28
import Derived.Test.YteadkhigkmijiaaGreatPC29
import Derived.Test.YteadkhigkmijiaaGreatPC30
import Derived.Test.YteadkhigkmijiaaGreatPC31
import Derived.Test.YteadkhigkmijiaaGreatPC33
import Derived.Test.YteadkhigkmijiaaGreatPC34
import Derived.Test.YteadkhigkmijiaaGreatPC35
set_option linter.all false
namespace Go.Proofs.YteadkhigkmijiaaGreat
section
set_option maxRecDepth 100000
set_option maxHeartbeats 8000000
open Go.RowKit
theorem Sd.Qc(f:Ft)(s:Sd)(h:∀k,(s.q k).natAbs<=1)(k:Nat):((s.strike f).q k).natAbs<=1:=by
 unfold Sd.strike
 repeat' split
 ·exact h k
 ·show(turned _ s.q k).natAbs<=1
  have:=h k;unfold turned
  split<;>omega
 ·exact h k
 ·show(rq f.d k).natAbs<=1
  rcases vZ (λk=>f.d.getD k 0) k with h|h<;>unfold rq<;>omega
 ·exact h k
 ·exact h k
theorem Qd(bs:Nat->List Int)(a:Nat->Int)(i k:Nat):((sd0 bs a i).q k).natAbs<=1:=by
 show(rq (bs i) k).natAbs<=1;rcases vZ (λk=>(bs i).getD k 0) k with h|h<;>unfold rq<;>omega
theorem Qe(f:Ft)(m:List Sd)(h:∀s∈m,∀k,(s.q k).natAbs<=1):∀s∈kS f m,∀k,(s.q k).natAbs<=1:=by
 intro s hs;unfold kS at hs
 split at hs
 ·exact h s hs
 ·split at hs
  ·rename_i t ht
   rcases qo hs with rfl|hs
   ·exactλk=>t.Qc f (h t (bO ht)) k
   ·exact h s hs
  ·exact h s hs
theorem Qf(fl:List Ft)(m:List Sd)(h:∀s∈m,∀k,(s.q k).natAbs<=1):∀s∈strikes fl m,∀k,(s.q k).natAbs<=1:=by
 unfold strikes
 induction fl generalizing m with
 |nil=>exact h
 |cons f fl ih=>rw[dI];exact ih _ (Qe f m h)
theorem Qg(g N:Nat)(s s2:G)(A:Nat->Option Addr)(c:Nat->Nat)(bs:Nat->List Int)(a:Nat->Int)(v:Value)(fl:List Ft)(bl0 bl1 lk0 lk1:Bool)(m:List Sd)(Z:jy)(w:World)(hg:jL w g N s s2)(hN:N<=8)
  (hv:∀i,i<8->iI w w (.slice (A i) (bs i).length (c i)) (bs i)/\iK (bs i)) (ha:∀i,-100000000<=a i/\a i<=100000000) (hf:ju w w v fl) (his:jc fl=true)
  (hb0:fl.any (blocks · 0)=bl0) (hb1:fl.any (blocks · 1)=bl1) (hk0:fl.any (leaks · 0)=lk0) (hk1:fl.any (leaks · 1)=lk1) (hm:strikes fl ((List.range N).map (sd0 bs a))=m)
  (hZ:l6 m (fst (sF m) 8) (s.pass (sF m) (sA m)) (s2.pass (sF m) (sA m)) bl0 bl1 lk0 lk1=Z) (hp0:Z.c.p=-1\/∃j:Nat,Z.c.p=j/\j<N) (hp1:Z.d.p=-1\/∃j:Nat,Z.d.p=j/\j<N)
  (hzc:∀k,Z.c.n<=k->Z.c.q k=0) (hzd:∀k,Z.d.n<=k->Z.d.q k=0)
  (sn:s.n=N) (ss:s.slot<s.n) (sw:time s.now) (swi:0<=s.wi/\s.wi<=2305843009213693952) (tn:s2.n=N) (ts:s2.slot<s2.n) (tw:time s2.now) (twi:0<=s2.wi/\s2.wi<=2305843009213693952) (ok:s.Ok (jG m Z.c.p)) (ok2:s2.Ok (jG m Z.d.p)):
  Calls Tryz.prog 69 #[↑(g,0),s8 λi=>.slice (A i) (bs i).length (c i),jK a,v] w λe w'=>∃f,e=.returned (.tuple #[.agg (hdC f),↑(0:Int)])/\
   (∀i,i<8->jH w' w m Z.n Z.c.q Z.d.q Z.who a i (f i))/\jL w' g N (s.ended (tl Z.n Z.c.q) (jG m Z.c.p)) (s2.ended (tl Z.n Z.d.q) (jG m Z.d.p))/\Only g w w':=by
 have X2:=aJ ((w.alloc (.cells (aS A bs c) 150)).alloc (.cells (aI a) 22)) (w.heap.size+1+1) (by simp) (zH) 154;have X0:=((aJ w w rfl (aS A bs c) 150).alloc (.cells (aI a) 22)).alloc (.cells zH 154);have X1:=(aJ (w.alloc (.cells (aS A bs c) 150)) (w.heap.size+1) (by simp) (aI a) 22).alloc (.cells zH 154);have hb3:=(((ah w w).alloc lr (.cells (aS A bs c) 150)).alloc (by simp) (.cells (aI a) 22)).alloc (by simp;omega) (.cells zH 154);have hz3:(((w.alloc (.cells (aS A bs c) 150)).alloc (.cells (aI a) 22)).alloc (.cells zH 154)).heap.size=w.heap.size+1+1+1:=by simp
 have hG3:=hg.below hb3 hg.lt;have hgl:=hg.lt;have hF3:=hf.below hb3;have hv3:∀i,i<8->iI (((w.alloc (.cells (aS A bs c) 150)).alloc (.cells (aI a) 22)).alloc (.cells zH 154)) w (.slice (A i) (bs i).length (c i)) (bs i)/\iK (bs i):=λi hi=>⟨(hv i hi).1.below hb3,(hv i hi).2⟩;obtain⟨Af,cf,rfl,n1,n2,-⟩:=hf.at_;have hlen:fl.length<=4:=by unfold jc at his;simp at his;exact his.1
 have hmay:∀f∈fl,f.may=true:=by unfold jc at his;simp at his;exact his.2
 clear hf hv hg;unfold s8 jK
 go_enter Tryz.func69,Tryz.ntmps69
 go_wp2_with fail;generalize(((w.alloc (.cells (aS A bs c) 150)).alloc (.cells (aI a) 22)).alloc (.cells zH 154))=w3 at *;refine(EY _ fl w3 (hF3.more (by omega))).mono ?_;rintro e w4 ⟨rfl,hb4⟩;rw[his];have hG4:=hG3.below hb4 hG3.lt;have hF4:=hF3.below (hb4.mono (by omega));have hv4:∀i,i<8->iI w4 w (.slice (A i) (bs i).length (c i)) (bs i)/\iK (bs i):=λi hi=>⟨(hv3 i hi).1.below (hb4.mono (by omega)),(hv3 i hi).2⟩;have Y0:=X0.below hb4 (by omega);have Y1:=X1.below hb4 (by omega);have Y2:=X2.below hb4 (by omega);have hB4:=hb3.trans (hb4.mono (by omega));have hz4:w.heap.size+1+1+1<=w4.heap.size:=by have:=hb4.size;omega
 have c0:=Y0.cell 0 (x:=.slice (A 0) (bs 0).length (c 0)) rfl;have c1:=Y0.cell 1 (x:=.slice (A 1) (bs 1).length (c 1)) rfl;have c2:=Y0.cell 2 (x:=.slice (A 2) (bs 2).length (c 2)) rfl;have c3:=Y0.cell 3 (x:=.slice (A 3) (bs 3).length (c 3)) rfl;have c4:=Y0.cell 4 (x:=.slice (A 4) (bs 4).length (c 4)) rfl;have c5:=Y0.cell 5 (x:=.slice (A 5) (bs 5).length (c 5)) rfl;have c6:=Y0.cell 6 (x:=.slice (A 6) (bs 6).length (c 6)) rfl;have c7:=Y0.cell 7 (x:=.slice (A 7) (bs 7).length (c 7)) rfl;have d0:=Y1.cell 0 (x:=↑(a 0)) rfl;have d1:=Y1.cell 1 (x:=↑(a 1)) rfl;have d2:=Y1.cell 2 (x:=↑(a 2)) rfl;have d3:=Y1.cell 3 (x:=↑(a 3)) rfl;have d4:=Y1.cell 4 (x:=↑(a 4)) rfl;have d5:=Y1.cell 5 (x:=↑(a 5)) rfl;have d6:=Y1.cell 6 (x:=↑(a 6)) rfl;have d7:=Y1.cell 7 (x:=↑(a 7)) rfl;have hBg:=Qh g N A c bs a w4 hG4.n_ hN (λi hi=>⟨(hv4 i hi).1.more (by omega),(hv4 i hi).2⟩);unfold s8 jK at hBg;have hBg:=af hBg;clear X0 X1 X2 hG3 hF3 hv3 hb4 hb3 hz3;go_wp2_with fail;refine hBg.o.mono ?_;rintro e w5 ⟨b,l,rfl,hml,hS5,hbw,hb5⟩;have EZ:=Y1.below hb5 (by omega);have E0:=Y2.below hb5 (by omega);have hG5:=hG4.below hb5 hG4.lt;have hF5:=hF4.below (hb5.mono (by omega));have hB5:=hB4.trans (hb5.mono (by omega));have hz5:b<w5.heap.size:=hS5.lt;have hll:l.length=N:=by have:=dn List.length hml;simpa using this
 have hX6:XAt (w5.alloc (.cells #[.slice (some (b,0)) N N,↑false,↑false,.slice none 0 0,↑(0:Int),↑false,↑false,.slice none 0 0,↑(0:Int)] 189)) [w5.heap.size,b,g] w5 b l ⟨false,false,.slice none 0 0,0⟩ ⟨false,false,.slice none 0 0,0⟩:=⟨by unfold xcs;rw[hll];exact aJ w5 _ rfl _ _,(hS5.sub (P':=[w5.heap.size,b,g]) (λi hi=>by simp at hi ⊢;omega) (by simp)).below ((ah _ _).alloc lr _),by simp,by omega⟩;have hb6:Below w5 w5 (w5.alloc (.cells #[.slice (some (b,0)) N N,↑false,↑false,.slice none 0 0,↑(0:Int),↑false,↑false,.slice none 0 0,↑(0:Int)] 189)):=(ah _ _).alloc lr _;have hz6:(w5.alloc (.cells #[.slice (some (b,0)) N N,↑false,↑false,.slice none 0 0,↑(0:Int),↑false,↑false,.slice none 0 0,↑(0:Int)] 189)).heap.size=w5.heap.size+1:=by simp
 have hB6:=hB5.trans (hb6.mono (by omega));have E4:=EZ.below hb6 (by omega);have E5:=E0.below hb6 (by omega);have hG6:=hG5.below hb6 hG5.lt;have hF6:=hF5.below (hb6.mono (by omega));have hwx:w.heap.size+1+1+1<=w5.heap.size:=by have:=hb5.size;omega
 have TK:w4.heap.size<=b:=hbw;clear Y0 Y1 Y2 hG4 hF4 hv4 hB4 hBg hS5 hb5 EZ E0 hG5 hF5 hB5 hb6 c0 c1 c2 c3 c4 c5 c6 c7 d0 d1 d2 d3 d4 d5 d6 d7;go_wp2_with fail;generalize w5.alloc (.cells #[.slice (some (b,0)) N N,↑false,↑false,.slice none 0 0,↑(0:Int),↑false,↑false,.slice none 0 0,↑(0:Int)] 189)=w6 at *;generalize w5.heap.size=x at *;have hbb:w.heap.size+1+1+1<=b:=by omega
 have HM0:Hid (∀s∈(List.range N).map (sd0 bs a),-(100000000:Int)<=s.at_/\s.at_<=100000000):=af λs hs=>by
  obtain⟨i,-,rfl⟩:=fC.1 hs;exact ha i
 generalize hm0:(List.range N).map (sd0 bs a)=m0 at *;have hF6:=af hF6;have HT:=λk hk=>af (Qi fl m0 k hk);have HA:=λ(p:Ft->Bool)k hk=>af (any_succ fl p k hk)
 go_loopw [28] (λi wr=>∃k:Nat,∃l':List (Value×Sd),k<=fl.length/\i=↑k/\XAt wr [x,b,g] x b l' ⟨(fl.take k).any (blocks · 0),(fl.take k).any (leaks · 0),.slice none 0 0,0⟩ ⟨(fl.take k).any (blocks · 1),(fl.take k).any (leaks · 1),.slice none 0 0,0⟩/\Hid (l'.map Prod.snd=strikes (fl.take k) m0)/\Hid (∀s∈strikes (fl.take k) m0,-(100000000+1000*(k:Int))<=s.at_/\s.at_<=100000000+1000*(k:Int))/\Kw [x,b] w6 wr) (λi _=>fl.length-(intOf i).toNat)
 case atStart=>exact⟨0,l,by omega,rfl,by simpa using hX6,af (by simpa[strikes]using hml),af (by simpa[strikes]using HM0.o),fU _ _⟩
 case round=>
  obtain⟨k,l',hk,rfl,hX,hM,hA,hK⟩:=hrel;clear hX6;by_cases hlt:k<fl.length
  ·have r1:decide ((k:Int)<(fl.length:Nat))=true:=by simp;omega
   have hBl:Below w w6 wr:=hK.toBelow (by omega) (λi hi=>by simp at hi;omega);have hFr:=hF6.o.below hBl;obtain⟨Af2,cf2,hfe,-,-,hfc⟩:=hFr.at_;obtain⟨bf,off,rfl,hbf,hd⟩:=hfc (by omega);simp only[fq]at hfe;obtain⟨rfl,-,rfl⟩:=hfe;obtain⟨c0,c1,c2,u,c3,hu⟩:=hd k hlt;have hy:=hFr.by_ _ (tY fl k hlt);have hfm:=hmay _ (tY fl k hlt);have HTk:=HT k hlt;have HA0:=HA (blocks · 0) k hlt;have HA1:=HA (blocks · 1) k hlt;have HA2:=HA (leaks · 0) k hlt;have HA3:=HA (leaks · 1) k hlt;generalize fl.getD k default=f at *;have hfa:-1000<=f.a/\f.a<=1000:=by unfold Ft.may at hfm;rw[nu]at hfm;omega
   obtain⟨Au,cu,rfl,-⟩:=hu.at_;have hzr:=hK.size;have hbx:Below wr wr (wr.alloc (.cells #[↑f.k,↑f.n,↑f.a,.slice Au f.d.length cu] 56)):=(ah _ _).alloc lr _;have hN4:=aJ wr wr rfl #[↑f.k,↑f.n,↑f.a,.slice Au f.d.length cu] 56;have y0:=hN4.cell 0 (x:=↑f.k) rfl;have y1:=hN4.cell 1 (x:=↑f.n) rfl;have y2:=hN4.cell 2 (x:=↑f.a) rfl;have y3:=hN4.cell 3 (x:=.slice Au f.d.length cu) rfl;have hz7:(wr.alloc (.cells #[↑f.k,↑f.n,↑f.a,.slice Au f.d.length cu] 56)).heap.size=wr.heap.size+1:=by simp
   have hX7:=hX.below hbx;have hK7:=hK.below hbx;have hl8:l'.length=N:=by have e:=dn List.length hM.o;rw[dQ,xS,<-hm0]at e;simpa using e
   have hS7:=af (PZ x b l' _ _ (.slice Au f.d.length cu) f [x,b,g] _ hX7 hfm (λs hs=>by have:=hA.o s.2 (by rw[<-hM.o];exact List.mem_map_of_mem hs);unfold wide;omega) (λi hi=>by have:=hG6.lt;simp at hi;omega) ((hu.below (hbx.mono (by omega))).more (by omega)) hy (by omega));have HA':Hid (∀s∈strikes (fl.take (k+1)) m0,-(100000000+1000*((k+1:Nat):Int))<=s.at_/\s.at_<=100000000+1000*((k+1:Nat):Int)):=af λs hs=>by
    rw[HTk.o]at hs;have:=Qj f _ hfa _ hA.o s hs;omega
   unfold ftV at hS7;clear hX hK hX7 hN4 hd hfc hu hFr hBl hbx HT HA HM0;go_wp2_with fail;refine hS7.o.mono ?_;rintro e w8 ⟨rfl,l2,hm2,hX8,hK8⟩;have hX9:=af hX8;have hK9:=af (hK7.trans hK8);clear hX8 hK8 hK7 hS7;go_wp2_with fail;go_roundw
   case rel=>exact⟨k+1,l2,by omega,by go_num,by rw[HA0.o,HA1.o,HA2.o,HA3.o];exact hX9.o,af (by rw[hm2,hM.o,HTk.o]),HA',hK9.o⟩
   case measure=>simp[intOf];omega
  ·obtain rfl:k=fl.length:=by omega
   have r1:decide ((fl.length:Int)<(fl.length:Nat))=false:=by simp
   rw[dz,hb0,hb1,hk0,hk1]at hX;rw[dz,hm]at hM hA;have hl8:l'.length=N:=by have e:=dn List.length hM.o;rw[dQ,<-hm,xS,<-hm0]at e;simpa using e
   have hgx:g≠x:=by omega
   have hGr:=hG6.kp hK (by simp;omega);have E6:=E4.kp hK (by simp;omega);have E7:=E5.kp hK (by simp;omega);have hBr:=hB6.trans (hK.toBelow (B:=w.heap.size) (by omega) (λi hi=>by simp at hi;omega));have hzr:=hK.size;have hPr:∀i∈[x,b,g],i<wr.heap.size:=λi hi=>by simp at hi;omega
   have hM:=hM.o;have hsA:=Qk m 100004000 (by omega) (λs hs=>by have:=hA.o s hs;omega);have h1m:∀sd∈l'.map Prod.snd,∀k,(sd.q k).natAbs<=1:=by
    rw[hM,<-hm];exact Qf fl _ λsd hs=>by rw[<-hm0]at hs;obtain⟨i,-,rfl⟩:=fC.1 hs;exactλk=>Qd bs a i k
   have hPs:=P8 g N x b s s2 l' bl0 bl1 lk0 lk1 [x,b,g] wr hGr hX (by omega) hgx hPr h1m (by omega) ss sw swi (by omega) ts tw twi (λi _=>by rw[hM];have:=hsA i;unfold time;omega);rw[hM,hZ]at hPs;have hPs:=af hPs;have E8:=hGr;clear hX hGr hK hG6 hF6 HT HA HM0 hA hB6 E4 E5 h1m;go_wp2_with fail;refine hPs.o.mono ?_;rintro e w7 ⟨rfl,u0,u1,hX7,R0,R1,hK7⟩;have hG7:=E8.kp hK7 (by simp;omega);have xT:=E6.kp hK7 (by simp;omega);have xU:=E7.kp hK7 (by simp;omega);have hB7:=hBr.trans (hK7.toBelow (B:=w.heap.size) (by omega) (λi hi=>by simp at hi;omega));have TL:=hK7.size;have hP7:∀i∈[x,b,g],i<w7.heap.size:=λi hi=>by have:=hPr i hi;omega
   have n4:=R0.n4;have n5:=R1.n4;have o0:=R0.one;have o1:=R1.one;obtain⟨A0,e0,rfl,-,-,S0⟩:=R0.sees;obtain⟨A1,e1,rfl,-,-,S1⟩:=R1.sees;have hMx:=λe=>af (KW A0 A1 _ _ e0 e1 _ _ _ _ w7 e S0 S1 (by omega) (by omega) (λk=>by have:=o0 k;omega) (λk=>by have:=o1 k;omega));have x3:=hX7.blk.cell 3 (x:=.slice A0 Z.c.n e0) rfl;have x7:=hX7.blk.cell 7 (x:=.slice A1 Z.d.n e1) rfl;have HO:=af (aL o0 (aL o1 (aL hzc hzd)));clear E8 E6 E7 hBr hK7 hPr hPs R0 R1 S0 S1 o0 o1 hzc hzd;go_wp2_with fail;refine(hMx _).o.mono ?_;rintro e w8 ⟨v,rfl,ho,hb8⟩;have hr8:Row w8 [x,b,g] v Z.n Z.c.q Z.d.q:=iC (B:=w7.heap.size) (by
    refine iP.alike (n:=max Z.c.n Z.d.n) ho λk hk=>?_;obtain⟨-,-,zc,zd⟩:=HO.o;have e1:(if k<Z.c.n then Z.c.q k else 0)=Z.c.q k:=by
     split
     ·rfl
     ·exact(zc k (by omega)).symm
    have e2:(if k<Z.d.n then Z.d.q k else 0)=Z.d.q k:=by
     split
     ·rfl
     ·exact(zd k (by omega)).symm
    have e3:∀(q:Prop)[Decidable q],(if q then(0:Int)else 0)=0:=λq _=>by split<;>rfl
    rw[e1,e2,e3,e3,Int.add_zero,Int.zero_add]) hP7 (by unfold jy.n;omega) (λk=>⟨(HO.o.1 k).1,(HO.o.2.1 k).2⟩)
   have hX8:=hX7.below hb8;have hG8:=hG7.below hb8 hG7.lt;have E9:=xT.below hb8 xT.lt;have Fa:=xU.below hb8 xU.lt;have hB8:=hB7.trans (hb8.mono hB7.size);have hz8:=hb8.size;obtain⟨Av,ev,rfl,-⟩:=hr8.sees;have xV:Z.c.p=-1\/∃j:Nat,Z.c.p=j/\j<l'.length:=by rw[hl8];exact hp0
   have xW:Z.d.p=-1\/∃j:Nat,Z.d.p=j/\j<l'.length:=by rw[hl8];exact hp1
   have Fb:Z.who=-1\/∃j:Nat,Z.who=j/\j<l'.length:=jy.xP xV xW;have hEn:=Qa g N b s s2 l' ⟨bl0,lk0,.slice A0 Z.c.n e0,Z.c.p⟩ ⟨bl1,lk1,.slice A1 Z.d.n e1,Z.d.p⟩ Z.c.p Z.d.p [x,b,g] _ _ _ _ w8 hG8 hX8.sd (by simp) (by omega) hr8 rfl rfl xV xW (by rw[hM];exact ok) (by rw[hM];exact ok2);rw[hM]at hEn;unfold xcs at hEn;simp only at hEn;rw[hl8]at hEn;have Fc:=af hEn;clear hEn;have x0:=hX8.blk.cell 0 (x:=.slice (some (b,0)) l'.length l'.length) rfl;have x1:=hX8.blk.cell 1 (x:=↑bl0) rfl;have x2:=hX8.blk.cell 2 (x:=↑lk0) rfl;have x3:=hX8.blk.cell 3 (x:=.slice A0 Z.c.n e0) rfl;have x4:=hX8.blk.cell 4 (x:=↑Z.c.p) rfl;have x5:=hX8.blk.cell 5 (x:=↑bl1) rfl;have x6:=hX8.blk.cell 6 (x:=↑lk1) rfl;have x7:=hX8.blk.cell 7 (x:=.slice A1 Z.d.n e1) rfl;have x8:=hX8.blk.cell 8 (x:=↑Z.d.p) rfl;clear hX7 hG7 xT xU hB7 hb8 ho hMx;go_wp2_with fail;refine Fc.o.mono ?_;rintro e w9 ⟨rfl,hG9,hO9⟩;have hX9:XAt w9 [x,b,g] x b l' ⟨bl0,lk0,.slice A0 Z.c.n e0,Z.c.p⟩ ⟨bl1,lk1,.slice A1 Z.d.n e1,Z.d.p⟩:=⟨hX8.blk.only hO9 (by omega),hX8.sd.kp (Kw.only hO9 (by simp)) (hO9.block b hX8.sd.lt (by intro e;cases e;omega)),hX8.mem,hX8.ne⟩;have hr9:=hr8.kp (Kw.only hO9 (by simp));have nT:=E9.only hO9 (by omega);have Fe:=Fa.only hO9 (by omega);have Ql:=af ((iQ g hB8).trans hO9);have hz9:=hO9.size;have hwh:Z.who=if Z.c.p=-1 then Z.d.p else Z.c.p:=by
    unfold jy.who;rcases hp0 with e|⟨j,e,-⟩
    ·rw[e];rfl
    ·rw[e,ai (by omega),ai (by omega)]
   have hHe:=Qb x b l' ⟨bl0,lk0,.slice A0 Z.c.n e0,Z.c.p⟩ ⟨bl1,lk1,.slice A1 Z.d.n e1,Z.d.p⟩ Z.c.p Z.d.p Z.who [x,b,g] _ _ _ _ a w9 hX9 (by omega) hr9 rfl rfl hwh Fb (λi=>by have:=ha i;unfold wide;omega) (by rw[hM];unfold jG;split;(unfold wide;omega);(have:=hsA Z.who.toNat;unfold wide;omega));rw[hM]at hHe;unfold jK at hHe;have hHe:=af hHe;have d0:=nT.cell 0 (x:=↑(a 0)) rfl;have d1:=nT.cell 1 (x:=↑(a 1)) rfl;have d2:=nT.cell 2 (x:=↑(a 2)) rfl;have d3:=nT.cell 3 (x:=↑(a 3)) rfl;have d4:=nT.cell 4 (x:=↑(a 4)) rfl;have d5:=nT.cell 5 (x:=↑(a 5)) rfl;have d6:=nT.cell 6 (x:=↑(a 6)) rfl;have d7:=nT.cell 7 (x:=↑(a 7)) rfl;clear hX8 hG8 E9 Fa hB8 hr8 hX9 hr9 Fc hO9 hwh Fb xV xW;go_wp2_with fail;refine hHe.o.mono ?_;rintro e w10 ⟨f,rfl,hH,uJ⟩;have xX:=hG9.below uJ hG9.lt;have hOx:=af (Ql.o.trans (iQ g uJ));have Fg:=af (Fe.below uJ Fe.lt);have hth:w10.there (w.heap.size+1+1) 0 (hdC f).size:=λi hi=>⟨by rw[bU,Fg.o.cell i (cm (by simpa[hdC]using hi))];rfl,Fg.o.frozen _⟩;have hin:=rm;have hun:=Tryz.underlying154;have hone:=af (lH f (λi hi=>by obtain⟨A,c,h,-⟩:=(hH i hi).X.sees.at_;exact⟨A,_,c,h⟩) (λi hi=>by obtain⟨A,c,h,-⟩:=(hH i hi).Y.sees.at_;exact⟨A,_,c,h⟩));have HF:Hid (∀i,i<8->jH (w10.setCells (w.heap.size+1+1) 0 (hdC f).toList) w m Z.n Z.c.q Z.d.q Z.who a i (f i)):=af λi hi=>((hH i hi).only (g:=w.heap.size+1+1) (Only.setCells _ _ (aE _ _)) (by omega)).base (by omega);have GG:Hid (jL (w10.setCells (w.heap.size+1+1) 0 (hdC f).toList) g N _ _):=af ⟨xX.1.only (g:=w.heap.size+1+1) (Only.setCells _ _ (aE _ _)) (by omega),xX.2⟩;have OO:=af (hOx.o.other (Only.setCells (hdC f).toList 0 (aE (w.heap.size+1+1) w10)) (by omega));clear xX hH hG9 uJ hHe;go_wp2_with (first
    |(refine gU rfl _ _ _ rfl _ _ (hdC f) rfl rfl hth hin hone.o ?_))
   refine aK (v:=.tuple #[.agg (hdC f),↑(0:Int)]) ?_ rfl ⟨f,rfl,HF.o,GG.o,OO.o⟩;rw[aV rfl];have hld:=ig (P:=Tryz.prog) (w10.setCells (w.heap.size+1+1) 0 (hdC f).toList) (w.heap.size+1+1) 0 154 (hdC f).toList _ (cO _ _ _ _ (by simpa using hth)) hun rfl hin;simp only[fT]at hld;show((asAddr (.pointer (some ⟨w.heap.size+1+1,0,none⟩))).run Tryz.prog _).andThen _=_;simp only[asAddr,iA,fR,hld]
   rfl
end
section
set_option maxRecDepth 100000
set_option maxHeartbeats 2000000
open Go.RowKit
open Fr (St F)
theorem Ea(b:Bool)(G:GS)(g:Nat)(m:NM)(x:RX)(k:Int)(w:World)(h:RA b G w g m x)(hd:iK m.da):
  Calls Tryz.prog 117 #[↑(g,0),↑k] w λe w'=>∃v,e=.returned v/\iJ w' w v (kJ (m.frm k))/\RA true G w' g m x/\KG G w w':=by
 have c17:=h.c17;have f17:=h.frozen 17;have hg:=h.G_;have h1:=h.sSe true;have hk1:Hid (KG G w (w.setCell (g,17) ↑true)):=af (((aE g w).set 17 _).kg hg);have hz:(w.setCell (g,17) ↑true).heap.size=w.heap.size:=by simp[World.setCell]
 clear h
 go_enter Tryz.func117,Tryz.ntmps117
 go_wp2_with fail;clear c17 f17;generalize w.setCell (g,17) _=w1 at *;obtain⟨A,c,c15,hD⟩:=h1.c15;have HV:=λW(hW:Below w1 w1 W)=>af (show Calls Tryz.prog 43 #[↑(g,0)] W λe w'=>e=.returned (.agg #[↑m.rd,↑(m.sl:Nat),↑(m.ty.m:Nat)])/\Below W W w' from ug true G g m x W (h1.below hW));have HE:=λW(hW:Below w1 w1 W)=>af (JZ (m.frm k) (.slice A m.da.length c) W ((hD.1.1.below hW).more hW.size) hd);unfold Enc at HE;have HS:∀W,Below w1 w1 W->W.cell? (g,15)=some (.slice A m.da.length c):=λW hW=>(hW.cell (p:=(g,15)) h1.lt).trans c15;have h1:=af h1;have b0:=(ah w1 w1).drew;have S0:=af (HS _ b0);have HH:=af HS;clear HS hD;go_wp2_with fail;clear c15
 go_region_held3 (λW=>W.cell? (g,15)=some (.slice A m.da.length c)) ((first|exact S0.o|exact S1.o|exact S2.o))
  (first
   |(go_at_call 43;refine(HV _ b0).o.mono ?_;rintro _ w2 ⟨rfl,b2⟩;(have b3:=b0.trans (b2.mono (by simp)));(have S1:=af (HH.o _ b3)))
   |(go_at_call 173;refine(HE _ b3).o.mono ?_;rintro _ w4 ⟨v,rfl,ho,b4⟩;(have b5:=b3.trans (b4.mono b3.size));(have S2:=af (HH.o _ b5)))
   |fail)
 have h5:=af (h1.o.below b5);have hk5:=af (hk1.o.trans (iZ b5));have hz2:w.heap.size<=w2.heap.size:=by have:=b3.size;omega
 have hf:=af (ho.base hz2);clear S0 S1 S2 HH HV HE h1 ho;go_wp2;go_ret;exact⟨v,rfl,hf.o,h5.o,hk5.o⟩
theorem Oq(b:Bool)(G:GS)(g:Nat)(m:NM)(x:RX)(w:World)(h:RA b G w g m x)(hG:GN G w)(hi:m.i<m.t.ns.length)(hi8:m.i<8)(hd:iK m.da)(hw:(m.wt:Int)+1<m.me.li)(hw0:(m.wt:Int)<m.me.li)(hl:m.me.li<=1000):
  Calls Tryz.prog 113 #[↑(g,0)] w λe w'=>e=.returned (.slice none 0 0)/\RA b G w' g {m with wt:=m.wt+1} x/\KG G w w':=by
 have c16:=h.c16;have f16:=h.frozen 16;have hg:=h.G_;have hwr:IntKind.i64.wrap (((m.wt:Nat):Int)+1)=((m.wt:Nat):Int)+1:=aO _ (by omega);have h1:=h.sWt (m.wt+1);have q1:decide (((m.wt:Nat):Int)+1<m.me.li)=true:=av (by omega);rw[show(((m.wt+1:Nat)):Int)=((m.wt:Nat):Int)+1 by push_cast;rfl]at h1;have hk1:Hid (KG G w (w.setCell (g,16) ↑(((m.wt:Nat):Int)+1:Int))):=af (((aE g w).set 16 _).kg hg);obtain⟨N,hN⟩:∃N,m.t.ns.length=N:=⟨_,rfl⟩;obtain⟨i,hii⟩:∃i,m.i=i:=⟨_,rfl⟩;obtain⟨li,hli⟩:∃li,m.me.li=li:=⟨_,rfl⟩;obtain⟨bl,off,cn,e0,hbl,⟨-,-,e2,-⟩,hcn⟩:=h1.lV hi;have c0:_=some (Value.slice (some (bl,off)) m.t.ns.length cn):=e0;have d2:(w.setCell (g,16) ↑(((m.wt:Nat):Int)+1:Int)).cell? (bl,off+m.i*4+2)=some (Value.int .i64 m.me.li):=e2;have c4:_=some (Value.int .i64 (m.i:Nat)):=h1.c4;have um:=h1.c16;rw[show(((m.wt+1:Nat)):Int)=((m.wt:Nat):Int)+1 by push_cast;rfl]at um;clear e0 e2;rw[hN]at c0;rw[hii]at c4;rw[hli,hii]at d2;rw[hli]at q1;have hiN:i<N:=by rw[<-hii,<-hN];exact hi
 have hcN:N<=cn:=by rw[<-hN];exact hcn
 clear hii hli hi hcn hw hw0 hl;have h1:=af h1;have hGw:=hG.up hk1.o.size;clear hN;clear h
 go_enter Tryz.func113,Tryz.ntmps113
 go_wp2_with fail;clear c16 f16;generalize w.setCell (g,16) _=w1 at *
 go_quiet (fail)
 go_wp2;go_ret;exact⟨rfl,h1.o.drewN _,hk1.o.trans (iZ (aC (ah _ _) _))⟩
theorem Ou(b:Bool)(G:GS)(g:Nat)(m:NM)(x:RX)(w:World)(h:RA b G w g m x)(hG:GN G w)(hi:m.i<m.t.ns.length)(hi8:m.i<8)(hd:iK m.da)(hw:¬(m.wt:Int)+1<m.me.li)(hw0:(m.wt:Int)<m.me.li)(hl:m.me.li<=1000):
  Calls Tryz.prog 113 #[↑(g,0)] w λe w'=>∃v,e=.returned v/\iJ w' w v (kJ (({m.begun with se:=true}:NM).frm 3))/\RS true G w' g {m.begun with se:=true}/\KG G w w':=by
 have c16:=h.c16;have f16:=h.frozen 16;have hg:=h.G_;have hwr:IntKind.i64.wrap (((m.wt:Nat):Int)+1)=((m.wt:Nat):Int)+1:=aO _ (by omega);have h1:=h.sWt (m.wt+1);have q1:decide (((m.wt:Nat):Int)+1<m.me.li)=false:=aj (by omega);rw[show(((m.wt+1:Nat)):Int)=((m.wt:Nat):Int)+1 by push_cast;rfl]at h1;have hk1:Hid (KG G w (w.setCell (g,16) ↑(((m.wt:Nat):Int)+1:Int))):=af (((aE g w).set 16 _).kg hg);obtain⟨N,hN⟩:∃N,m.t.ns.length=N:=⟨_,rfl⟩;obtain⟨i,hii⟩:∃i,m.i=i:=⟨_,rfl⟩;obtain⟨li,hli⟩:∃li,m.me.li=li:=⟨_,rfl⟩;obtain⟨bl,off,cn,e0,hbl,⟨-,-,e2,-⟩,hcn⟩:=h1.lV hi;have c0:_=some (Value.slice (some (bl,off)) m.t.ns.length cn):=e0;have d2:(w.setCell (g,16) ↑(((m.wt:Nat):Int)+1:Int)).cell? (bl,off+m.i*4+2)=some (Value.int .i64 m.me.li):=e2;have c4:_=some (Value.int .i64 (m.i:Nat)):=h1.c4;have um:=h1.c16;rw[show(((m.wt+1:Nat)):Int)=((m.wt:Nat):Int)+1 by push_cast;rfl]at um;clear e0 e2;rw[hN]at c0;rw[hii]at c4;rw[hli,hii]at d2;rw[hli]at q1;have hiN:i<N:=by rw[<-hii,<-hN];exact hi
 have hcN:N<=cn:=by rw[<-hN];exact hcn
 clear hii hli hi hcn hw hw0 hl;have h1:=af h1;have hGw:=hG.up hk1.o.size;clear hN;clear h
 go_enter Tryz.func113,Tryz.ntmps113
 go_wp2_with fail;clear c16 f16;generalize w.setCell (g,16) _=w1 at *
 go_quiet (fail)
 clear c0 c4 um d2;have hA:=af (λn=>qi b G g {m with wt:=m.wt+1} x 2 (w1.drewN n) (h1.o.drewN n) (hGw.up (by simp)));clear h1;go_wp2_with fail;refine(hA.o _).mono ?_;rintro _ w2 ⟨rfl,⟨x2,h2⟩,k2⟩;have h2:RA false G w2 g (m.anew 2) x2:=h2;have c4:_=some (Value.int .i64 (m.i:Nat)):=h2.c4;have c8:=h2.c8;have f8:=h2.frozen 8;have h3:RA false G _ g ({m.anew 2 with sl:=m.i}:NM) x2:=h2.sSl m.i;have k3:Hid (KG G w (w2.setCell (g,8) ↑(m.i:Nat))):=af (((hk1.o.trans (iZ (aC (ah _ _) _))).trans k2).trans (((aE g w2).set 8 _).kg hg));clear h2 k2 hA;go_wp2_with fail;clear c4 c8 f8;generalize w2.setCell (g,8) _=w3 at *;have HS:∀W,RA false G W g ({m.anew 2 with sl:=m.i}:NM) x2->W.cell? (g,9)=some ↑(x2.m,0)/\W.cell? (g,4)=some ↑(m.i:Nat):=λW h=>⟨h.c9,h.c4⟩;have hd3:=h3.drew;have S0:=af (HS _ hd3);have hJ:=af (xE x2.m ⟨0,0,0⟩ (m.i:Nat) w3.drew hd3.ty);have hgm:=h3.gs x2.m (by simp[RX.own]);have hUp:=af (λw4(hT:TAt 164 w4 x2.m ((⟨0,0,0⟩:TS).join (m.i:Nat)))(o:Only x2.m w3.drew w4)=>(show RA false G w4 g m.begun x2 from hd3.upM hT o));have hne:=h3.ne.2.2.2.2.2.1;have HT:=af (λw4(o:Only x2.m w3.drew w4)=>(show w4.cell? (g,9)=some ↑(x2.m,0)/\w4.cell? (g,4)=some ↑(m.i:Nat)from by
  obtain⟨p0,p1⟩:=HS _ hd3;have e1:w4.heap[g]?=w3.drew.heap[g]?:=o.block g hd3.lt (by simpa using hne);exact⟨gQ (by simp only[World.cell?,e1]) p0,gQ (by simp only[World.cell?,e1]) p1⟩))
 clear h3 hd3 HS
 go_region_held3 (λW=>W.cell? (g,9)=some ↑(x2.m,0)/\W.cell? (g,4)=some ↑(m.i:Nat)) ((first|exact S0.o|exact S1.o))
  (first
   |(go_at_call 115;refine hJ.o.mono ?_;rintro _ w4 ⟨rfl,hT,o4⟩;(have S1:=af (HT.o w4 o4));(have h5:=af (hUp.o w4 hT o4));(have k5:=af ((k3.o.trans (iZ (ah _ w3).drew)).trans (o4.kg hgm))))
   |fail)
 clear S0 S1 hJ hUp HT hT o4 k3;have hM:=af (Ea false G g m.begun x2 3 w4 h5.o hd);go_wp2_with fail;refine hM.o.mono ?_;rintro _ w6 ⟨v,rfl,hv,h6,k6⟩;have hf:=af (hv.base k5.o.size);have h7:=af (h6.se_ true);have k7:=af (k5.o.trans k6);clear hM h5 k5 h6 k6 hv;go_wp2;go_ret;exact⟨v,rfl,hf.o,⟨x2,h7.o⟩,k7.o⟩
end
section
set_option maxRecDepth 100000
set_option maxHeartbeats 4000000
open Go.RowKit
def Snd(G:GS)(g:Nat)(m m':NM)(k:Int)(w:World):Prop:=Calls Tryz.prog 74 #[↑(g,0)] w λe w'=>∃v,e=.returned v/\iJ w' w v (if k=0 then []else kJ (m'.frm k))/\RS m'.se G w' g m'/\KG G w w'
theorem rB{b:Bool}{G:GS}{g:Nat}{m:NM}{x:RX}{w:World}(h:RA b G w g m x):RA false G (w.setCell (g,17) ↑false) g m x/\KG G w (w.setCell (g,17) ↑false):=⟨h.sSe false,((aE g w).set 17 _).kg h.G_⟩
theorem Oo(b:Bool)(G:GS)(g:Nat)(m:NM)(x:RX)(w:World)(h:RA b G w g m x)(hG:GN G w)(hj:NJ m)(hst:m.st=1)(hw:(m.wt:Int)+1<m.me.li):Snd G g m {m with wt:=m.wt+1,se:=false} 0 w:=by
 unfold Snd;have c17:=h.c17;have f17:=h.frozen 17;obtain⟨h1,k1⟩:=rB h;have c6:_=some (Value.int .i64 ((m.st:Nat):Int)):=h1.c6;rw[hst]at c6;have c6:(w.setCell (g,17) ↑false).cell? (g,6)=some ↑(1:Int):=c6;have hL:=af (Oq false G g m x _ h1 (hG.up k1.size) hj.i (by have:=hj.may.n8;have:=hj.i;omega) hj.da.2 hw hj.wt (by have:=hj.meB;omega));have k1:=af k1;clear h h1 hw hj hst
 go_enter Tryz.func74,Tryz.ntmps74
 go_wp2_with fail;refine hL.o.mono ?_;rintro _ w2 ⟨rfl,h2,k2⟩;have h2:=af (h2.se_ false);have k2:=af (k1.o.trans k2);clear c17 f17 c6 hL k1;go_wp2;go_ret;exact⟨.slice none 0 0,rfl,bR,⟨x,h2.o⟩,k2.o⟩
theorem Ot(b:Bool)(G:GS)(g:Nat)(m:NM)(x:RX)(w:World)(h:RA b G w g m x)(hG:GN G w)(hj:NJ m)(hst:m.st=1)(hw:¬(m.wt:Int)+1<m.me.li):Snd G g m {m.begun with se:=true} 3 w:=by
 unfold Snd;have c17:=h.c17;have f17:=h.frozen 17;obtain⟨h1,k1⟩:=rB h;have c6:_=some (Value.int .i64 ((m.st:Nat):Int)):=h1.c6;rw[hst]at c6;have c6:(w.setCell (g,17) ↑false).cell? (g,6)=some ↑(1:Int):=c6;have hL:=af (Ou false G g m x _ h1 (hG.up k1.size) hj.i (by have:=hj.may.n8;have:=hj.i;omega) hj.da.2 hw hj.wt (by have:=hj.meB;omega));have hz:=k1.size;have k1:=af k1;clear h h1 hw hj hst
 go_enter Tryz.func74,Tryz.ntmps74
 go_wp2_with fail;refine hL.o.mono ?_;rintro _ w2 ⟨v,rfl,hv,⟨x2,h2⟩,k2⟩;have h2:=af h2;have k2:=af (k1.o.trans k2);have hf:=af (hv.base hz);clear c17 f17 c6 hL k1 hv;go_wp2;go_ret;exact⟨v,rfl,hf.o,⟨x2,h2.o⟩,k2.o⟩
theorem Ov(b:Bool)(G:GS)(g:Nat)(m:NM)(x:RX)(w:World)(h:RA b G w g m x)(h5:m.st<=5)(h1':m.st≠1)(hst:m.st=0\/m.st=5\/m.sl≠m.i):Snd G g m {m with se:=false} 0 w:=by
 unfold Snd;have c17:=h.c17;have f17:=h.frozen 17;obtain⟨h1,k1⟩:=rB h;have c6:_=some (Value.int .i64 ((m.st:Nat):Int)):=h1.c6;have c8:=h1.c8;have c4:=h1.c4;have hF:Hid (∀n,RA false G ((w.setCell (g,17) ↑false).drewN n) g {m with se:=false} x/\KG G w ((w.setCell (g,17) ↑false).drewN n)):=af λn=>⟨(h1.drewN n).se_ false,k1.trans (iZ (aC (ah _ _) n))⟩;clear h h1 k1;have hcase:m.st=0\/m.st=5\/(m.sl≠m.i/\(m.st=2\/m.st=3\/m.st=4)):=by omega
 clear hst h5 h1';rcases hcase with e|e|⟨e',e|e|e⟩
 all_goals
  rw[e]at c6;clear e
  try have q:((((m.sl:Nat):Int)) != (((m.i:Nat):Int)))=true:=by rw[bV];omega
  try clear e'
  generalize((m.sl:Nat):Int)=y at *;generalize((m.i:Nat):Int)=z at *
  go_enter Tryz.func74,Tryz.ntmps74
  go_wp2_with fail
  go_quiet (fail)
  go_wp2;go_ret;exact⟨.slice none 0 0,rfl,bR,⟨x,(hF.o _).1⟩,(hF.o _).2⟩
theorem Ow(b:Bool)(G:GS)(g:Nat)(m:NM)(x:RX)(w:World)(h:RA b G w g m x)(hG:GN G w)(hst:m.st=2\/m.st=3\/m.st=4)(hs:m.sl=m.i)(ha:m.ty.a<1000)(he:m.enter.st≠4):Snd G g m {m.enter with se:=false} 0 w:=by
 unfold Snd;have c17:=h.c17;have f17:=h.frozen 17;obtain⟨h1,k1⟩:=rB h;have c6:_=some (Value.int .i64 ((m.st:Nat):Int)):=h1.c6;have c8:=h1.c8;have c4:=h1.c4;rw[hs]at c8;have hE:=af (λn=>DW G g m x ((w.setCell (g,17) ↑false).drewN n) (h1.drewN n) (hG.up (by have:=k1.size;simp)) hst ha);unfold Ent at hE;rw[aj he]at hE;have D:=af (λn=>aL ((h1.drewN n).c6) (k1.trans (iZ (G:=G) (aC (ah _ _) n))));clear h h1 k1 hs ha he;rcases hst with e|e|e
 all_goals
  rw[e]at c6 D;clear e;generalize((m.i:Nat):Int)=z at *
  go_enter Tryz.func74,Tryz.ntmps74
  go_wp2_with fail
  go_quiet (fail)
  obtain⟨d6,k2⟩:=D.o _;have k2:=af k2;go_wp2_with fail;refine(hE.o _).mono ?_;rintro _ w3 ⟨rfl,⟨x3,h3⟩,k3⟩;have h3:=af (h3.se_ false);have k3:=af (k2.o.trans k3);clear c17 f17 c6 c8 c4 d6 D hE k2;go_wp2;go_ret;exact⟨.slice none 0 0,rfl,bR,⟨x3,h3.o⟩,k3.o⟩
theorem Ox{m:NM}(h:m.enter.st=4):m.enter={m with st:=4}:=by
 have key:m.enter={m with st:=4}\/m.enter.st≠4:=by
  unfold NM.enter
  split
  ·split
   ·exact .inr (by show(1:Nat)≠4;omega)
   ·exact .inl rfl
  ·split
   ·split
    ·exact .inl rfl
    ·rename_i h3 _;exact .inr (by show m.st≠4;omega)
   ·split
    ·exact .inr (by show(5:Nat)≠4;omega)
    ·split
     ·exact .inr (by show(1:Nat)≠4;omega)
     ·by_cases e:m.st=4
      ·exact .inl (by rw[<-e])
      ·exact .inr e
 rcases key with k|k
 ·exact k
 ·exact absurd h k
def NM.kd(m:NM):Int:=if m.me.inf=true\/m.st≠4\/m.rd%2=0 then 2 else 1
theorem Oy(b:Bool)(G:GS)(g:Nat)(m:NM)(x:RX)(w:World)(h:RA b G w g m x)(hG:GN G w)(hj:NJ m)(hst:m.st=2\/m.st=3\/m.st=4)(hs:m.sl=m.i)(ha:m.ty.a<1000)(he:m.enter.st=4):Snd G g m {m.enter.joined with se:=true} m.kd w:=by
 unfold Snd;rw[ai (by unfold NM.kd;split<;>decide)];have c17:=h.c17;have f17:=h.frozen 17;obtain⟨h1,k1⟩:=rB h;have c6:_=some (Value.int .i64 ((m.st:Nat):Int)):=h1.c6;have c8:=h1.c8;have c4:=h1.c4;rw[hs]at c8;have hE:=af (λn=>DW G g m x ((w.setCell (g,17) ↑false).drewN n) (h1.drewN n) (hG.up (by have:=k1.size;simp)) hst ha);unfold Ent at hE;rw[av he]at hE;have D:=af (λn=>aL ((h1.drewN n).c6) (k1.trans (iZ (G:=G) (aC (ah _ _) n))));have hes:=Ox he;have hme:m.enter.i=m.i:=by rw[hes]
 have ekd:m.kd=if m.me.inf=true\/m.st≠4\/m.rd%2=0 then 2 else 1:=rfl;have hin:m.enter.joined.i<m.enter.joined.t.ns.length:=by show m.enter.i<m.enter.t.ns.length;rw[hes];exact hj.i
 have hdef:m.enter.joined.t.ns.getD m.enter.joined.i default=m.me:=by show m.enter.t.ns.getD m.enter.i default=m.me;rw[hes];rfl
 have hda:iK m.enter.joined.da:=by show iK m.enter.da;rw[hes];exact hj.da.2
 have hrd:m.enter.joined.rd=m.rd:=by show m.enter.rd=m.rd;rw[hes]
 have hrb:=hj.rd;clear h h1 k1 hs ha he hj hes;generalize hm1:m.enter=m1 at *;generalize hm2:m1.joined=m2 at *;generalize hk:m.kd=kd at *;rcases hst with e|e|e
 all_goals
  rw[e]at c6 D
  go_enter Tryz.func74,Tryz.ntmps74
  go_wp2_with fail
  go_quiet (fail)
  obtain⟨d6,k2⟩:=D.o _;have k2:=af k2;go_wp2_with fail;refine(hE.o _).mono ?_;rintro _ w3 ⟨rfl,⟨x3,h3⟩,k3⟩;have k3:=af (k2.o.trans k3);clear c17 f17 c6 c8 c4 d6 D hE k2;go_wp2_with fail;have HS:∀W,RA false G W g m1 x3->W.cell? (g,9)=some ↑(x3.m,0)/\W.cell? (g,4)=some ↑(m1.i:Nat):=λW h=>⟨h.c9,h.c4⟩;have hd3:=h3.drew;have S0:=af (HS _ hd3);have hJ:=af (xE x3.m m1.ty (m1.i:Nat) w3.drew hd3.ty);have hgm:=h3.gs x3.m (by simp[RX.own]);have hUp:=af (λw4(hT:TAt 164 w4 x3.m (m1.ty.join (m1.i:Nat)))(o:Only x3.m w3.drew w4)=>hd3.upM hT o);have hne:=h3.ne.2.2.2.2.2.1;have HT:=af (λw4(o:Only x3.m w3.drew w4)=>(show w4.cell? (g,9)=some ↑(x3.m,0)/\w4.cell? (g,4)=some ↑(m1.i:Nat)from by
   obtain⟨p0,p1⟩:=HS _ hd3;have e1:w4.heap[g]?=w3.drew.heap[g]?:=o.block g hd3.lt (by simpa using hne);exact⟨gQ (by simp only[World.cell?,e1]) p0,gQ (by simp only[World.cell?,e1]) p1⟩))
  clear h3 hd3 HS hme
  go_region_held3 (λW=>W.cell? (g,9)=some ↑(x3.m,0)/\W.cell? (g,4)=some ↑(m1.i:Nat)) ((first|exact S0.o|exact S1.o))
   (first
    |(go_at_call 115;refine hJ.o.mono ?_;rintro _ w4 ⟨rfl,hT,o4⟩;(have S1:=af (HT.o w4 o4));(have h5:=hUp.o w4 hT o4);(have k5:=af ((k3.o.trans (iZ (ah _ w3).drew)).trans (o4.kg hgm))))
    |fail)
  clear S0 S1 hJ hUp HT hT o4 k3;have c9:w4.cell? (g,9)=some ↑(x3.m,0):=h5.c9;have hC:=af (xw x3.m _ w4 h5.ty);have h5:=af h5;go_wp2_with fail;refine hC.o.mono ?_;rintro _ w5 ⟨rfl,hT,o5⟩;have h6:RA false G w5 g m1.joined x3:=h5.o.upM hT o5;rw[hm2]at h6;have k6:=af (k5.o.trans (o5.kg hgm));clear h5 hC k5 hT o5 c9;obtain⟨bl,off,cn,c0,hbl,⟨-,d1,-,-⟩,hcn⟩:=h6.lV hin;rw[hdef]at d1;have c4:=h6.c4;have c7:=h6.c7;rw[hrd]at c7;have hm':Int.tmod m.rd 2=m.rd%2:=dA hrb.1;have hM:=af (λn k=>Ea false G g m2 x3 k (w5.drewN n) (h6.drewN n) hda);have hiN:m2.i<m2.t.ns.length:=hin;clear h6 hin hdef hda hm1 hm2 hrd hk;generalize m2.t.ns.length=N at *;generalize m2.i=i at *;generalize m.me.inf=q at *;generalize m.rd=r at *;rw[e]at ekd;clear e;rcases(by omega:r%2=0\/r%2=1)with hp|hp
  all_goals
   cases q
   all_goals
    have hkd:kd=2\/kd=1:=by rw[ekd];split<;>simp
    rcases hkd with rfl|rfl
    all_goals try (exfalso;simp[hp]at ekd;done)
    clear ekd;go_wp2_with fail
    go_quiet (fail)
    go_wp2_with fail;refine(hM.o _ _).mono ?_;rintro _ w7 ⟨v,rfl,hv,h7,k7⟩;have h8:=af (h7.se_ true);have hz6:=k6.o.size;have hf:=af (hv.base (B:=w.heap.size) (by simpa using hz6));have k8:=af (k6.o.trans ((iZ (aC (ah _ w5) _)).trans k7));clear hv h7 k7 hz6 c0 c4 c7 d1 hM k6;go_wp2;go_ret;exact⟨v,rfl,hf.o,⟨x3,h8.o⟩,k8.o⟩
end
end Go.Proofs.YteadkhigkmijiaaGreat
