/- Texts SqK, QgD, QmH in one. -/
import Derived.BigRegion
import Derived.Test.YteadkhigkmijiaaGreatPD1
import Derived.Test.YteadkhigkmijiaaGreatPD8
import Derived.Test.YteadkhigkmijiaaGreatPD28
import Derived.Test.YteadkhigkmijiaaGreatPD29
import Derived.Test.YteadkhigkmijiaaGreatPD34
import Derived.Test.YteadkhigkmijiaaGreatPD35
import Derived.Test.YteadkhigkmijiaaGreatPD37
import Derived.Test.YteadkhigkmijiaaGreatPD38
import Derived.Test.YteadkhigkmijiaaGreatPD39
import Derived.Test.YteadkhigkmijiaaGreatPD40
set_option linter.all false
namespace Go.Proofs.YteadkhigkmijiaaGreat
section
set_option maxRecDepth 100000
set_option maxHeartbeats 8000000
open Go.RowKit
theorem Sd.Qc(f:Ft)(s:Sd)(h:∀k,(s.q k).natAbs<=1)(k:Nat):((s.strike f).q k).natAbs<=1:=by
 unfold Sd.strike
 repeat' split
 ·exact h k
 ·show(turned _ s.q k).natAbs<=1
  have:=h k;unfold turned
  split<;>omega
 ·exact h k
 ·show(rq f.d k).natAbs<=1
  rcases vZ (λk=>f.d.getD k 0) k with h|h<;>unfold rq<;>omega
 ·exact h k
 ·exact h k
theorem Qd(bs:Nat->List Int)(a:Nat->Int)(i k:Nat):((sd0 bs a i).q k).natAbs<=1:=by
 show(rq (bs i) k).natAbs<=1;rcases vZ (λk=>(bs i).getD k 0) k with h|h<;>unfold rq<;>omega
theorem Qe(f:Ft)(m:List Sd)(h:∀s∈m,∀k,(s.q k).natAbs<=1):∀s∈kS f m,∀k,(s.q k).natAbs<=1:=by
 intro s hs;unfold kS at hs
 split at hs
 ·exact h s hs
 ·split at hs
  ·rename_i t ht
   rcases qo hs with rfl|hs
   ·exactλk=>t.Qc f (h t (bO ht)) k
   ·exact h s hs
  ·exact h s hs
theorem Qf(fl:List Ft)(m:List Sd)(h:∀s∈m,∀k,(s.q k).natAbs<=1):∀s∈strikes fl m,∀k,(s.q k).natAbs<=1:=by
 unfold strikes
 induction fl generalizing m with
 |nil=>exact h
 |cons f fl ih=>rw[dI];exact ih _ (Qe f m h)
theorem Qg(g N:Nat)(s s2:G)(A:Nat->Option Addr)(c:Nat->Nat)(bs:Nat->List Int)(a:Nat->Int)(v:Value)(fl:List Ft)(bl0 bl1 lk0 lk1:Bool)(m:List Sd)(Z:jy)(w:World)(hg:jL w g N s s2)(hN:N<=8)
  (hv:∀i,i<8->iI w w (.slice (A i) (bs i).length (c i)) (bs i)/\iK (bs i)) (ha:∀i,-100000000<=a i/\a i<=100000000) (hf:ju w w v fl) (his:jc fl=true)
  (hb0:fl.any (blocks · 0)=bl0) (hb1:fl.any (blocks · 1)=bl1) (hk0:fl.any (leaks · 0)=lk0) (hk1:fl.any (leaks · 1)=lk1) (hm:strikes fl ((List.range N).map (sd0 bs a))=m)
  (hZ:l6 m (fst (sF m) 8) (s.pass (sF m) (sA m)) (s2.pass (sF m) (sA m)) bl0 bl1 lk0 lk1=Z) (hp0:Z.c.p=-1\/∃j:Nat,Z.c.p=j/\j<N) (hp1:Z.d.p=-1\/∃j:Nat,Z.d.p=j/\j<N)
  (hzc:∀k,Z.c.n<=k->Z.c.q k=0) (hzd:∀k,Z.d.n<=k->Z.d.q k=0)
  (sn:s.n=N) (ss:s.slot<s.n) (sw:time s.now) (swi:0<=s.wi/\s.wi<=2305843009213693952) (tn:s2.n=N) (ts:s2.slot<s2.n) (tw:time s2.now) (twi:0<=s2.wi/\s2.wi<=2305843009213693952) (ok:s.Ok (jG m Z.c.p)) (ok2:s2.Ok (jG m Z.d.p)):
  Calls Tryz.prog 69 #[↑(g,0),s8 λi=>.slice (A i) (bs i).length (c i),jK a,v] w λe w'=>∃f,e=.returned (.tuple #[.agg (hdC f),↑(0:Int)])/\
   (∀i,i<8->jH w' w m Z.n Z.c.q Z.d.q Z.who a i (f i))/\jL w' g N (s.ended (tl Z.n Z.c.q) (jG m Z.c.p)) (s2.ended (tl Z.n Z.d.q) (jG m Z.d.p))/\Only g w w':=by
 have X2:=aJ ((w.alloc (.cells (aS A bs c) 150)).alloc (.cells (aI a) 22)) (w.heap.size+1+1) (by simp) (zH) 154;have X0:=((aJ w w rfl (aS A bs c) 150).alloc (.cells (aI a) 22)).alloc (.cells zH 154);have X1:=(aJ (w.alloc (.cells (aS A bs c) 150)) (w.heap.size+1) (by simp) (aI a) 22).alloc (.cells zH 154);have hb3:=(((ah w w).alloc lr (.cells (aS A bs c) 150)).alloc (by simp) (.cells (aI a) 22)).alloc (by simp;omega) (.cells zH 154);have hz3:(((w.alloc (.cells (aS A bs c) 150)).alloc (.cells (aI a) 22)).alloc (.cells zH 154)).heap.size=w.heap.size+1+1+1:=by simp
 have hG3:=hg.below hb3 hg.lt;have hgl:=hg.lt;have hF3:=hf.below hb3;have hv3:∀i,i<8->iI (((w.alloc (.cells (aS A bs c) 150)).alloc (.cells (aI a) 22)).alloc (.cells zH 154)) w (.slice (A i) (bs i).length (c i)) (bs i)/\iK (bs i):=λi hi=>⟨(hv i hi).1.below hb3,(hv i hi).2⟩;obtain⟨Af,cf,rfl,n1,n2,-⟩:=hf.at_;have hlen:fl.length<=4:=by unfold jc at his;simp at his;exact his.1
 have hmay:∀f∈fl,f.may=true:=by unfold jc at his;simp at his;exact his.2
 clear hf hv hg;unfold s8 jK
 go_enter Tryz.func69,Tryz.ntmps69
 go_wp2_with fail;generalize(((w.alloc (.cells (aS A bs c) 150)).alloc (.cells (aI a) 22)).alloc (.cells zH 154))=w3 at *;refine(EY _ fl w3 (hF3.more (by omega))).mono ?_;rintro e w4 ⟨rfl,hb4⟩;rw[his];have hG4:=hG3.below hb4 hG3.lt;have hF4:=hF3.below (hb4.mono (by omega));have hv4:∀i,i<8->iI w4 w (.slice (A i) (bs i).length (c i)) (bs i)/\iK (bs i):=λi hi=>⟨(hv3 i hi).1.below (hb4.mono (by omega)),(hv3 i hi).2⟩;have Y0:=X0.below hb4 (by omega);have Y1:=X1.below hb4 (by omega);have Y2:=X2.below hb4 (by omega);have hB4:=hb3.trans (hb4.mono (by omega));have hz4:w.heap.size+1+1+1<=w4.heap.size:=by have:=hb4.size;omega
 have c0:=Y0.cell 0 (x:=.slice (A 0) (bs 0).length (c 0)) rfl;have c1:=Y0.cell 1 (x:=.slice (A 1) (bs 1).length (c 1)) rfl;have c2:=Y0.cell 2 (x:=.slice (A 2) (bs 2).length (c 2)) rfl;have c3:=Y0.cell 3 (x:=.slice (A 3) (bs 3).length (c 3)) rfl;have c4:=Y0.cell 4 (x:=.slice (A 4) (bs 4).length (c 4)) rfl;have c5:=Y0.cell 5 (x:=.slice (A 5) (bs 5).length (c 5)) rfl;have c6:=Y0.cell 6 (x:=.slice (A 6) (bs 6).length (c 6)) rfl;have c7:=Y0.cell 7 (x:=.slice (A 7) (bs 7).length (c 7)) rfl;have d0:=Y1.cell 0 (x:=↑(a 0)) rfl;have d1:=Y1.cell 1 (x:=↑(a 1)) rfl;have d2:=Y1.cell 2 (x:=↑(a 2)) rfl;have d3:=Y1.cell 3 (x:=↑(a 3)) rfl;have d4:=Y1.cell 4 (x:=↑(a 4)) rfl;have d5:=Y1.cell 5 (x:=↑(a 5)) rfl;have d6:=Y1.cell 6 (x:=↑(a 6)) rfl;have d7:=Y1.cell 7 (x:=↑(a 7)) rfl;have hBg:=Qh g N A c bs a w4 hG4.n_ hN (λi hi=>⟨(hv4 i hi).1.more (by omega),(hv4 i hi).2⟩);unfold s8 jK at hBg;have hBg:=af hBg;clear X0 X1 X2 hG3 hF3 hv3 hb4 hb3 hz3;go_wp2_with fail;refine hBg.o.mono ?_;rintro e w5 ⟨b,l,rfl,hml,hS5,hbw,hb5⟩;have EZ:=Y1.below hb5 (by omega);have E0:=Y2.below hb5 (by omega);have hG5:=hG4.below hb5 hG4.lt;have hF5:=hF4.below (hb5.mono (by omega));have hB5:=hB4.trans (hb5.mono (by omega));have hz5:b<w5.heap.size:=hS5.lt;have hll:l.length=N:=by have:=dn List.length hml;simpa using this
 have hX6:XAt (w5.alloc (.cells #[.slice (some (b,0)) N N,↑false,↑false,.slice none 0 0,↑(0:Int),↑false,↑false,.slice none 0 0,↑(0:Int)] 189)) [w5.heap.size,b,g] w5 b l ⟨false,false,.slice none 0 0,0⟩ ⟨false,false,.slice none 0 0,0⟩:=⟨by unfold xcs;rw[hll];exact aJ w5 _ rfl _ _,(hS5.sub (P':=[w5.heap.size,b,g]) (λi hi=>by simp at hi ⊢;omega) (by simp)).below ((ah _ _).alloc lr _),by simp,by omega⟩;have hb6:Below w5 w5 (w5.alloc (.cells #[.slice (some (b,0)) N N,↑false,↑false,.slice none 0 0,↑(0:Int),↑false,↑false,.slice none 0 0,↑(0:Int)] 189)):=(ah _ _).alloc lr _;have hz6:(w5.alloc (.cells #[.slice (some (b,0)) N N,↑false,↑false,.slice none 0 0,↑(0:Int),↑false,↑false,.slice none 0 0,↑(0:Int)] 189)).heap.size=w5.heap.size+1:=by simp
 have hB6:=hB5.trans (hb6.mono (by omega));have E4:=EZ.below hb6 (by omega);have E5:=E0.below hb6 (by omega);have hG6:=hG5.below hb6 hG5.lt;have hF6:=hF5.below (hb6.mono (by omega));have hwx:w.heap.size+1+1+1<=w5.heap.size:=by have:=hb5.size;omega
 have TK:w4.heap.size<=b:=hbw;clear Y0 Y1 Y2 hG4 hF4 hv4 hB4 hBg hS5 hb5 EZ E0 hG5 hF5 hB5 hb6 c0 c1 c2 c3 c4 c5 c6 c7 d0 d1 d2 d3 d4 d5 d6 d7;go_wp2_with fail;generalize w5.alloc (.cells #[.slice (some (b,0)) N N,↑false,↑false,.slice none 0 0,↑(0:Int),↑false,↑false,.slice none 0 0,↑(0:Int)] 189)=w6 at *;generalize w5.heap.size=x at *;have hbb:w.heap.size+1+1+1<=b:=by omega
 have HM0:Hid (∀s∈(List.range N).map (sd0 bs a),-(100000000:Int)<=s.at_/\s.at_<=100000000):=af λs hs=>by
  obtain⟨i,-,rfl⟩:=fC.1 hs;exact ha i
 generalize hm0:(List.range N).map (sd0 bs a)=m0 at *;have hF6:=af hF6;have HT:=λk hk=>af (Qi fl m0 k hk);have HA:=λ(p:Ft->Bool)k hk=>af (any_succ fl p k hk)
 go_loopw [28] (λi wr=>∃k:Nat,∃l':List (Value×Sd),k<=fl.length/\i=↑k/\XAt wr [x,b,g] x b l' ⟨(fl.take k).any (blocks · 0),(fl.take k).any (leaks · 0),.slice none 0 0,0⟩ ⟨(fl.take k).any (blocks · 1),(fl.take k).any (leaks · 1),.slice none 0 0,0⟩/\Hid (l'.map Prod.snd=strikes (fl.take k) m0)/\Hid (∀s∈strikes (fl.take k) m0,-(100000000+1000*(k:Int))<=s.at_/\s.at_<=100000000+1000*(k:Int))/\Kw [x,b] w6 wr) (λi _=>fl.length-(intOf i).toNat)
 case atStart=>exact⟨0,l,by omega,rfl,by simpa using hX6,af (by simpa[strikes]using hml),af (by simpa[strikes]using HM0.o),fU _ _⟩
 case round=>
  obtain⟨k,l',hk,rfl,hX,hM,hA,hK⟩:=hrel;clear hX6;by_cases hlt:k<fl.length
  ·have r1:decide ((k:Int)<(fl.length:Nat))=true:=by simp;omega
   have hBl:Below w w6 wr:=hK.toBelow (by omega) (λi hi=>by simp at hi;omega);have hFr:=hF6.o.below hBl;obtain⟨Af2,cf2,hfe,-,-,hfc⟩:=hFr.at_;obtain⟨bf,off,rfl,hbf,hd⟩:=hfc (by omega);simp only[fq]at hfe;obtain⟨rfl,-,rfl⟩:=hfe;obtain⟨c0,c1,c2,u,c3,hu⟩:=hd k hlt;have hy:=hFr.by_ _ (tY fl k hlt);have hfm:=hmay _ (tY fl k hlt);have HTk:=HT k hlt;have HA0:=HA (blocks · 0) k hlt;have HA1:=HA (blocks · 1) k hlt;have HA2:=HA (leaks · 0) k hlt;have HA3:=HA (leaks · 1) k hlt;generalize fl.getD k default=f at *;have hfa:-1000<=f.a/\f.a<=1000:=by unfold Ft.may at hfm;rw[nu]at hfm;omega
   obtain⟨Au,cu,rfl,-⟩:=hu.at_;have hzr:=hK.size;have hbx:Below wr wr (wr.alloc (.cells #[↑f.k,↑f.n,↑f.a,.slice Au f.d.length cu] 56)):=(ah _ _).alloc lr _;have hN4:=aJ wr wr rfl #[↑f.k,↑f.n,↑f.a,.slice Au f.d.length cu] 56;have y0:=hN4.cell 0 (x:=↑f.k) rfl;have y1:=hN4.cell 1 (x:=↑f.n) rfl;have y2:=hN4.cell 2 (x:=↑f.a) rfl;have y3:=hN4.cell 3 (x:=.slice Au f.d.length cu) rfl;have hz7:(wr.alloc (.cells #[↑f.k,↑f.n,↑f.a,.slice Au f.d.length cu] 56)).heap.size=wr.heap.size+1:=by simp
   have hX7:=hX.below hbx;have hK7:=hK.below hbx;have hl8:l'.length=N:=by have e:=dn List.length hM.o;rw[dQ,xS,<-hm0]at e;simpa using e
   have hS7:=af (PZ x b l' _ _ (.slice Au f.d.length cu) f [x,b,g] _ hX7 hfm (λs hs=>by have:=hA.o s.2 (by rw[<-hM.o];exact List.mem_map_of_mem hs);unfold wide;omega) (λi hi=>by have:=hG6.lt;simp at hi;omega) ((hu.below (hbx.mono (by omega))).more (by omega)) hy (by omega));have HA':Hid (∀s∈strikes (fl.take (k+1)) m0,-(100000000+1000*((k+1:Nat):Int))<=s.at_/\s.at_<=100000000+1000*((k+1:Nat):Int)):=af λs hs=>by
    rw[HTk.o]at hs;have:=Qj f _ hfa _ hA.o s hs;omega
   unfold ftV at hS7;clear hX hK hX7 hN4 hd hfc hu hFr hBl hbx HT HA HM0;go_wp2_with fail;refine hS7.o.mono ?_;rintro e w8 ⟨rfl,l2,hm2,hX8,hK8⟩;have hX9:=af hX8;have hK9:=af (hK7.trans hK8);clear hX8 hK8 hK7 hS7;go_wp2_with fail;go_roundw
   case rel=>exact⟨k+1,l2,by omega,by go_num,by rw[HA0.o,HA1.o,HA2.o,HA3.o];exact hX9.o,af (by rw[hm2,hM.o,HTk.o]),HA',hK9.o⟩
   case measure=>simp[intOf];omega
  ·obtain rfl:k=fl.length:=by omega
   have r1:decide ((fl.length:Int)<(fl.length:Nat))=false:=by simp
   rw[dz,hb0,hb1,hk0,hk1]at hX;rw[dz,hm]at hM hA;have hl8:l'.length=N:=by have e:=dn List.length hM.o;rw[dQ,<-hm,xS,<-hm0]at e;simpa using e
   have hgx:g≠x:=by omega
   have hGr:=hG6.kp hK (by simp;omega);have E6:=E4.kp hK (by simp;omega);have E7:=E5.kp hK (by simp;omega);have hBr:=hB6.trans (hK.toBelow (B:=w.heap.size) (by omega) (λi hi=>by simp at hi;omega));have hzr:=hK.size;have hPr:∀i∈[x,b,g],i<wr.heap.size:=λi hi=>by simp at hi;omega
   have hM:=hM.o;have hsA:=Qk m 100004000 (by omega) (λs hs=>by have:=hA.o s hs;omega);have h1m:∀sd∈l'.map Prod.snd,∀k,(sd.q k).natAbs<=1:=by
    rw[hM,<-hm];exact Qf fl _ λsd hs=>by rw[<-hm0]at hs;obtain⟨i,-,rfl⟩:=fC.1 hs;exactλk=>Qd bs a i k
   have hPs:=P8 g N x b s s2 l' bl0 bl1 lk0 lk1 [x,b,g] wr hGr hX (by omega) hgx hPr h1m (by omega) ss sw swi (by omega) ts tw twi (λi _=>by rw[hM];have:=hsA i;unfold time;omega);rw[hM,hZ]at hPs;have hPs:=af hPs;have E8:=hGr;clear hX hGr hK hG6 hF6 HT HA HM0 hA hB6 E4 E5 h1m;go_wp2_with fail;refine hPs.o.mono ?_;rintro e w7 ⟨rfl,u0,u1,hX7,R0,R1,hK7⟩;have hG7:=E8.kp hK7 (by simp;omega);have xT:=E6.kp hK7 (by simp;omega);have xU:=E7.kp hK7 (by simp;omega);have hB7:=hBr.trans (hK7.toBelow (B:=w.heap.size) (by omega) (λi hi=>by simp at hi;omega));have TL:=hK7.size;have hP7:∀i∈[x,b,g],i<w7.heap.size:=λi hi=>by have:=hPr i hi;omega
   have n4:=R0.n4;have n5:=R1.n4;have o0:=R0.one;have o1:=R1.one;obtain⟨A0,e0,rfl,-,-,S0⟩:=R0.sees;obtain⟨A1,e1,rfl,-,-,S1⟩:=R1.sees;have hMx:=λe=>af (KW A0 A1 _ _ e0 e1 _ _ _ _ w7 e S0 S1 (by omega) (by omega) (λk=>by have:=o0 k;omega) (λk=>by have:=o1 k;omega));have x3:=hX7.blk.cell 3 (x:=.slice A0 Z.c.n e0) rfl;have x7:=hX7.blk.cell 7 (x:=.slice A1 Z.d.n e1) rfl;have HO:=af (aL o0 (aL o1 (aL hzc hzd)));clear E8 E6 E7 hBr hK7 hPr hPs R0 R1 S0 S1 o0 o1 hzc hzd;go_wp2_with fail;refine(hMx _).o.mono ?_;rintro e w8 ⟨v,rfl,ho,hb8⟩;have hr8:Row w8 [x,b,g] v Z.n Z.c.q Z.d.q:=iC (B:=w7.heap.size) (by
    refine iP.alike (n:=max Z.c.n Z.d.n) ho λk hk=>?_;obtain⟨-,-,zc,zd⟩:=HO.o;have e1:(if k<Z.c.n then Z.c.q k else 0)=Z.c.q k:=by
     split
     ·rfl
     ·exact(zc k (by omega)).symm
    have e2:(if k<Z.d.n then Z.d.q k else 0)=Z.d.q k:=by
     split
     ·rfl
     ·exact(zd k (by omega)).symm
    have e3:∀(q:Prop)[Decidable q],(if q then(0:Int)else 0)=0:=λq _=>by split<;>rfl
    rw[e1,e2,e3,e3,Int.add_zero,Int.zero_add]) hP7 (by unfold jy.n;omega) (λk=>⟨(HO.o.1 k).1,(HO.o.2.1 k).2⟩)
   have hX8:=hX7.below hb8;have hG8:=hG7.below hb8 hG7.lt;have E9:=xT.below hb8 xT.lt;have Fa:=xU.below hb8 xU.lt;have hB8:=hB7.trans (hb8.mono hB7.size);have hz8:=hb8.size;obtain⟨Av,ev,rfl,-⟩:=hr8.sees;have xV:Z.c.p=-1\/∃j:Nat,Z.c.p=j/\j<l'.length:=by rw[hl8];exact hp0
   have xW:Z.d.p=-1\/∃j:Nat,Z.d.p=j/\j<l'.length:=by rw[hl8];exact hp1
   have Fb:Z.who=-1\/∃j:Nat,Z.who=j/\j<l'.length:=jy.xP xV xW;have hEn:=Qa g N b s s2 l' ⟨bl0,lk0,.slice A0 Z.c.n e0,Z.c.p⟩ ⟨bl1,lk1,.slice A1 Z.d.n e1,Z.d.p⟩ Z.c.p Z.d.p [x,b,g] _ _ _ _ w8 hG8 hX8.sd (by simp) (by omega) hr8 rfl rfl xV xW (by rw[hM];exact ok) (by rw[hM];exact ok2);rw[hM]at hEn;unfold xcs at hEn;simp only at hEn;rw[hl8]at hEn;have Fc:=af hEn;clear hEn;have x0:=hX8.blk.cell 0 (x:=.slice (some (b,0)) l'.length l'.length) rfl;have x1:=hX8.blk.cell 1 (x:=↑bl0) rfl;have x2:=hX8.blk.cell 2 (x:=↑lk0) rfl;have x3:=hX8.blk.cell 3 (x:=.slice A0 Z.c.n e0) rfl;have x4:=hX8.blk.cell 4 (x:=↑Z.c.p) rfl;have x5:=hX8.blk.cell 5 (x:=↑bl1) rfl;have x6:=hX8.blk.cell 6 (x:=↑lk1) rfl;have x7:=hX8.blk.cell 7 (x:=.slice A1 Z.d.n e1) rfl;have x8:=hX8.blk.cell 8 (x:=↑Z.d.p) rfl;clear hX7 hG7 xT xU hB7 hb8 ho hMx;go_wp2_with fail;refine Fc.o.mono ?_;rintro e w9 ⟨rfl,hG9,hO9⟩;have hX9:XAt w9 [x,b,g] x b l' ⟨bl0,lk0,.slice A0 Z.c.n e0,Z.c.p⟩ ⟨bl1,lk1,.slice A1 Z.d.n e1,Z.d.p⟩:=⟨hX8.blk.only hO9 (by omega),hX8.sd.kp (Kw.only hO9 (by simp)) (hO9.block b hX8.sd.lt (by intro e;cases e;omega)),hX8.mem,hX8.ne⟩;have hr9:=hr8.kp (Kw.only hO9 (by simp));have nT:=E9.only hO9 (by omega);have Fe:=Fa.only hO9 (by omega);have Ql:=af ((iQ g hB8).trans hO9);have hz9:=hO9.size;have hwh:Z.who=if Z.c.p=-1 then Z.d.p else Z.c.p:=by
    unfold jy.who;rcases hp0 with e|⟨j,e,-⟩
    ·rw[e];rfl
    ·rw[e,ai (by omega),ai (by omega)]
   have hHe:=Qb x b l' ⟨bl0,lk0,.slice A0 Z.c.n e0,Z.c.p⟩ ⟨bl1,lk1,.slice A1 Z.d.n e1,Z.d.p⟩ Z.c.p Z.d.p Z.who [x,b,g] _ _ _ _ a w9 hX9 (by omega) hr9 rfl rfl hwh Fb (λi=>by have:=ha i;unfold wide;omega) (by rw[hM];unfold jG;split;(unfold wide;omega);(have:=hsA Z.who.toNat;unfold wide;omega));rw[hM]at hHe;unfold jK at hHe;have hHe:=af hHe;have d0:=nT.cell 0 (x:=↑(a 0)) rfl;have d1:=nT.cell 1 (x:=↑(a 1)) rfl;have d2:=nT.cell 2 (x:=↑(a 2)) rfl;have d3:=nT.cell 3 (x:=↑(a 3)) rfl;have d4:=nT.cell 4 (x:=↑(a 4)) rfl;have d5:=nT.cell 5 (x:=↑(a 5)) rfl;have d6:=nT.cell 6 (x:=↑(a 6)) rfl;have d7:=nT.cell 7 (x:=↑(a 7)) rfl;clear hX8 hG8 E9 Fa hB8 hr8 hX9 hr9 Fc hO9 hwh Fb xV xW;go_wp2_with fail;refine hHe.o.mono ?_;rintro e w10 ⟨f,rfl,hH,uJ⟩;have xX:=hG9.below uJ hG9.lt;have hOx:=af (Ql.o.trans (iQ g uJ));have Fg:=af (Fe.below uJ Fe.lt);have hth:w10.there (w.heap.size+1+1) 0 (hdC f).size:=λi hi=>⟨by rw[bU,Fg.o.cell i (cm (by simpa[hdC]using hi))];rfl,Fg.o.frozen _⟩;have hin:=rm;have hun:=Tryz.underlying154;have hone:=af (lH f (λi hi=>by obtain⟨A,c,h,-⟩:=(hH i hi).X.sees.at_;exact⟨A,_,c,h⟩) (λi hi=>by obtain⟨A,c,h,-⟩:=(hH i hi).Y.sees.at_;exact⟨A,_,c,h⟩));have HF:Hid (∀i,i<8->jH (w10.setCells (w.heap.size+1+1) 0 (hdC f).toList) w m Z.n Z.c.q Z.d.q Z.who a i (f i)):=af λi hi=>((hH i hi).only (g:=w.heap.size+1+1) (Only.setCells _ _ (aE _ _)) (by omega)).base (by omega);have GG:Hid (jL (w10.setCells (w.heap.size+1+1) 0 (hdC f).toList) g N _ _):=af ⟨xX.1.only (g:=w.heap.size+1+1) (Only.setCells _ _ (aE _ _)) (by omega),xX.2⟩;have OO:=af (hOx.o.other (Only.setCells (hdC f).toList 0 (aE (w.heap.size+1+1) w10)) (by omega));clear xX hH hG9 uJ hHe;go_wp2_with (first
    |(refine gU rfl _ _ _ rfl _ _ (hdC f) rfl rfl hth hin hone.o ?_))
   refine aK (v:=.tuple #[.agg (hdC f),↑(0:Int)]) ?_ rfl ⟨f,rfl,HF.o,GG.o,OO.o⟩;rw[aV rfl];have hld:=ig (P:=Tryz.prog) (w10.setCells (w.heap.size+1+1) 0 (hdC f).toList) (w.heap.size+1+1) 0 154 (hdC f).toList _ (cO _ _ _ _ (by simpa using hth)) hun rfl hin;simp only[fT]at hld;show((asAddr (.pointer (some ⟨w.heap.size+1+1,0,none⟩))).run Tryz.prog _).andThen _=_;simp only[asAddr,iA,fR,hld]
   rfl
end
section
set_option maxRecDepth 100000
set_option maxHeartbeats 4000000
open Go.RowKit
open Fr (St F)
theorem G.MG(s:G)(N:Nat)(h:s.n=N):s.on={s with slot:=nxt N s.slot,now:=if s.slot+1=N then s.now+jb s.lm s.l else s.now,l:=if s.slot+1=N then []else s.l}:=by
 subst h;unfold G.on nxt;by_cases e:s.slot+1=s.n
 ·simp only[au e]
 ·simp only[ai e]
theorem MH(l:List Int)(n:Int)(h:l.length<=4):(iT l n).length<=4:=by
 unfold iT
 split<;>simp<;>omega
def l5(Q:GS)(g:Nat)(t:Tb.T)(s':G)(v:Value)(at_:Int)(w:World):Prop:=
 Calls Tryz.prog 179 #[↑(g,0),v,↑at_] w λe w'=>e=.returned (.tuple #[])/\RG Q w' g t s'/\Only g w w'
section
variable {Q:GS}{g:Nat}{t:Tb.T}{s:G}{w:World}{sl si:Int}{L v:Value}{l:List Int}{at_:Int}
theorem tP(hg:GT t s)(k:Nat)(h:RC Q w g t true (k:Nat) s.now si L s.l)(esi:si=(s.si:Nat))(hk:k<t.ns.length)(h8:t.ns.length<=8)(hsm:small s.l)(hlm:0<=t.lm/\t.lm<=1099511627776)(jz:-2251799813685248<=s.now/\s.now<=2251799813685248):
  Calls Tryz.prog 210 #[↑(g,0)] w λe w'=>e=.returned (.tuple #[])/\RG Q w' g t {s with kn:=true,slot:=k}.on/\Only g w w':=by
 refine(MF Q g t true k s.now si L s.l w h hk h8 hsm hg.l4 hlm jz).mono ?_;rintro _ w' ⟨rfl,⟨L',hr⟩,o⟩;refine⟨rfl,?_,o⟩;rw[G.MG {s with kn:=true,slot:=k} t.ns.length hg.n];refine⟨⟨_,_,L',by rw[<-hg.lm]at hr;exact hr,λ_=>⟨rfl,esi⟩⟩,hg.n,hg.wi,hg.lm,hg.sy,?_⟩;show(if k+1=t.ns.length then []else s.l).length<=4
 split
 ·simp
 ·exact hg.l4
theorem MI(hg:GT t s)(h:RC Q w g t false sl s.now si L s.l)(hkn:s.kn=false)(h8:t.ns.length<=8)(hlm:0<=t.lm/\t.lm<=1099511627776)(hat:-2251799813685248<=at_/\at_<=2251799813685248)(hv:iI w w v l)(hl:iK l):
  l5 Q g t (s.mX l at_) v at_ w:=by
 have hD:=af (qI v l z0 w hv hl);have hts:=af (vS hl);have HS:=af (show RG Q w g t s from⟨⟨sl,si,L,by rw[hkn];exact h,λe=>by rw[hkn]at e;cases e⟩,hg⟩);unfold Dec stV z0 at hD;unfold G.mX tells l5;simp only at hD;have ez:(⟨0,0,0⟩:St)=z0:=rfl;rw[ez]at hD;generalize Fr.err l z0=er at *;generalize Fr.res l z0=R at *;obtain⟨k,⟨r,s2,m⟩,d⟩:=R;unfold frV at hD;simp only at hD hts ⊢;clear ez;have c4:=h.c4;have en:=hg.n;obtain⟨s',hs0⟩:∃s',(if(decide (er=0)&&!decide (k=1)&&decide (s2<(s.n:Int)))=true then({s with kn:=true,slot:=s2.toNat,now:=at_,si:=0,l:=[]}:G).on else s)=s':=⟨_,rfl⟩;rw[hs0];have hS':=af hs0;clear hs0
 go_enter Tryz.func179,Tryz.ntmps179
 go_wp2_with fail;refine hD.o.mono ?_;rintro e w1 ⟨v1,rfl,ho,hb⟩;obtain⟨A1,n1,rfl,-⟩:=ho.sees.at_;have hB1:=(hb.alloc hb.size (.cells (aF k r s2 m A1 (d.length) n1) 182));have H1:=h.below hB1;have hO1:=iQ g hB1;have hX:=aJ w1 _ rfl (aF k r s2 m A1 (d.length) n1) 182;have hgw:g<w1.heap.size:=aN h.lt hb.size;have hS1:=af (HS.o.below hB1);clear c4 HS;go_wp2_with fail;generalize hW1:w1.alloc (.cells (aF k r s2 m A1 (d.length) n1) 182)=W1 at *;have x0:=hX.cell 0 (x:=↑k) rfl;have x2:=hX.cell 2 (x:=↑s2) rfl;obtain⟨Av,cv,c0,-⟩:=H1.c0;generalize w1.heap.size=b at *;clear ho hB1 hW1 hb hX hD hv h;have HH:Hid (∀n,RG Q (W1.drewN n) g t s):=af λn=>hS1.o.below (aC (ah _ _) n);have HO:Hid (∀n,Only g w (W1.drewN n)):=af λn=>hO1.trans (iQ g (aC (ah _ W1) n));have HR:Hid (∀n,RC Q (W1.drewN n) g t false sl s.now si L s.l/\(W1.drewN n).cell? (b,2)=some ↑s2):=af λn=>⟨H1.drewN n,((aC (ah (b+1) W1) n).cell (p:=(b,2)) (cJ _)).trans x2⟩;clear H1 hO1 hS1;by_cases p1:er=0
 ·subst p1
  obtain⟨s0,s8⟩:=hts.o rfl;by_cases p2:k=1
  ·subst p2
   go_quiet (fail)
   go_wp2;exact aK (ax (by rfl) _ _ _) rfl ⟨rfl,RG.of (by(rw[<-hS'.o];simp)) (HH.o _),HO.o _⟩
  ·have q2:(k==1)=false:=by rw[aB];exact p2
   by_cases p3:s2<(t.ns.length:Int)
   ·have q3:decide (s2<((t.ns.length:Nat):Int))=true:=av p3
    go_quiet (fail)
    obtain⟨H2,y2⟩:=HR.o nq;have hO2:=HO.o nq;clear HR HH HO x0 x2 c0;generalize W1.drewN nq=W2 at *;clear q3;obtain⟨j,rfl⟩:∃j:Nat,s2=j:=⟨s2.toNat,by omega⟩;have eS:=af (show({s with kn:=true,slot:=j,now:=at_,si:=0,l:=[]}:G).on=s' by
     rw[<-hS'.o,au (by simp[p2];omega)];simp)
    have c4:=H2.c4;have c5:=H2.c5;have c6:=H2.c6;have c9:=H2.c9;have f4:=H2.frozen 4;have f5:=H2.frozen 5;have f6:=H2.frozen 6;have f9:=H2.frozen 9;have H3:=((((H2.up 4 ↑true (kn':=true) (λ_=>rfl)).up 5 ↑(j:Nat) (sl':=(j:Nat)) (λ_=>rfl)).up 6 ↑at_ (now':=at_) (λ_=>rfl)).up 9 ↑(0:Int) (si':=0) (λ_=>rfl)).drew;have hO3:=((((hO2.set 4 ↑true).set 5 ↑(j:Nat)).set 6 ↑at_).set 9 ↑(0:Int)).drew;have H3:=af H3;have hO3:=af hO3;clear H2 hO2;go_wp2_with fail
    go_region
    all_goals
     generalize((((W2.setCell (g,4) ↑true).setCell (g,5) ↑(j:Nat)).setCell (g,6) ↑at_).setCell (g,9) ↑(0:Int)).drew=W3 at *;clear c4 c5 c6 c9 f4 f5 f6 f9 y2;obtain⟨cx,hc,hup⟩:=H3.o.clock;have hC:=af (wR cx g t.lm L s.l _ hc);have hup:=af hup;clear hc;go_wp2_with fail;refine hC.o.mono ?_;rintro _ w5 ⟨rfl,hk5,o5⟩;have h6:=hup.o _ _ _ hk5 o5 (λh=>absurd rfl h);have hOn:=af (tP (s:={s with now:=at_,si:=0,l:=[]}) ⟨hg.n,hg.wi,hg.lm,hg.sy,by simp⟩ j h6 rfl (by omega) h8 (λx hx=>by cases hx) hlm hat);clear hC hup H3 h6 hk5;go_wp2_with fail;refine hOn.o.mono ?_;rintro _ w6 ⟨rfl,hr,o6⟩;have hr:=af hr;have oo:=af ((hO3.o.trans o5).trans o6);go_wp2;exact aK (ax (by rfl) _ _ _) rfl ⟨rfl,by rw[<-eS.o];exact hr.o,oo.o⟩
   ·have q3:decide (s2<((t.ns.length:Nat):Int))=false:=aj p3
    go_quiet (fail)
    go_wp2;exact aK (ax (by rfl) _ _ _) rfl ⟨rfl,RG.of (by(rw[<-hS'.o,ai (by simp;omega)])) (HH.o _),HO.o _⟩
 ·have q1:(er==0)=false:=by rw[aB];exact p1
  go_quiet (fail)
  go_wp2;exact aK (ax (by rfl) _ _ _) rfl ⟨rfl,RG.of (by(rw[<-hS'.o];simp[p1])) (HH.o _),HO.o _⟩
theorem MJ(hg:GT t s)(hkn:s.kn=true)(h:RC Q w g t true (s.slot:Nat) s.now si L s.l)(hQ:∀k,w.heap.size<=k->Q k)(hs:s.slot<t.ns.length)(h8:t.ns.length<=8)(hsm:small s.l)(hlm:0<=t.lm/\t.lm<=1099511627776)(jz:-2251799813685248<=s.now/\s.now<=2251799813685248)(hnr:-1099511627776<=at_-s.now/\at_-s.now<=1099511627776)(hv:iI w w v l)(h0:0<l.length):
  l5 Q g t (s.heard at_) v at_ w:=by
 obtain⟨A,c,rfl,v1,v2,-⟩:=hv.at_;obtain⟨bl,off,cn,c0,d0,hcn⟩:=h.lV hs;rw[<-hg.sy _ hs]at d0;have c4:=h.c4;have c9:=h.c9;have f9:=h.frozen 9;have q0:decide ((0:Int)<((l.length:Nat):Int))=true:=av (by omega);have h1:=h.up 9 ↑(0:Int) (si':=0) (λ_=>rfl);have o1:=(aE g w).set 9 ↑(0:Int);have hn:=hg.n;have i1:(s.slot:Int)<((t.ns.length:Nat):Int):=by omega
 obtain⟨bl',off',cn',e0,e1,-⟩:=h1.lV hs;rw[<-hg.sy _ hs]at e1;have e5:=h1.c5;have h1:=af h1;clear h hv;unfold l5 G.heard
 cases hsy:s.sy s.slot
 ·rw[hsy]at e1
  simp only[bA,dB]
  go_enter Tryz.func179,Tryz.ntmps179
  go_wp2_with fail;generalize w.setCell (g,9) ↑(0:Int)=w1 at *
  go_quiet (fail)
  have h2:=h1.o.drewN nq;have o2:=o1.trans (iQ g (aC (ah _ w1) nq));generalize w1.drewN nq=w2 at *;have hOn:=af (tP (s:={s with si:=0}) ⟨hg.n,hg.wi,hg.lm,hg.sy,hg.l4⟩ s.slot h2 rfl hs h8 hsm hlm jz);clear h2 c0 c4 c9 f9 d0 e0 e1 e5 h1;go_wp2_with fail;refine hOn.o.mono ?_;rintro _ w6 ⟨rfl,hr,o6⟩;have hr:=af hr;have oo:=af (o2.trans o6);go_wp2;exact aK (ax (by rfl) _ _ _) rfl ⟨rfl,by have:=hr.o;simpa[hkn]using this,oo.o⟩
 ·rw[hsy]at e1
  simp only[dG];have wd:IntKind.i64.wrap (at_-s.now)=at_-s.now:=aO _ (by omega)
  go_enter Tryz.func179,Tryz.ntmps179
  go_wp2_with fail;generalize w.setCell (g,9) ↑(0:Int)=w1 at *
  go_quiet (fail)
  have h2:=h1.o.drewN nq;have o2:=o1.trans (iQ g (aC (ah _ w1) nq));clear c0 c4 c9 f9 d0 e0 e1 e5 h1 o1;generalize w1.drewN nq=w2 at *;have c6:=h2.c6;have hz2:=o2.size;have HM:Hid (∀W,Below w2 w2 W->Calls Tryz.prog 124 #[↑(g,7),↑(at_-s.now:Int)] W λe w'=>e=.returned (.tuple #[])/\(∃L',RC Q w' g t true (s.slot:Nat) s.now 0 L' (iT s.l (at_-s.now)))/\Only g w2 w'):=af λW hW=>by
   obtain⟨cx,hc,hup⟩:=(h2.below hW).clock;refine(ME cx g t.lm L s.l (at_-s.now) W hc hg.l4).mono ?_;rintro _ w' ⟨rfl,⟨v',hk',hb'⟩,o⟩;exact⟨rfl,⟨v',hup _ _ _ hk' o λ_ k e=>hQ k (by have:=hb' k e;have:=hW.size;omega)⟩,(iQ g hW).trans o⟩
  clear h2;have hb2:=ah w2 w2;go_wp2_with fail
  go_region_with (first
   |(go_at_call 124;refine(HM.o w2.drew hb2.drew).mono ?_;rintro _ w3 ⟨rfl,⟨L',h3⟩,o3⟩)
   |fail)
  all_goals
   have MK:small (iT s.l (at_-s.now)):=hsm.iT hnr;have hOn:=af (tP (s:={s with si:=0,l:=iT s.l (at_-s.now)}) ⟨hg.n,hg.wi,hg.lm,hg.sy,MH _ _ hg.l4⟩ s.slot h3 rfl hs h8 MK hlm jz);clear h3 HM c6;go_wp2_with fail;refine hOn.o.mono ?_;rintro _ w6 ⟨rfl,hr,o6⟩;have hr:=af hr;have oo:=af ((o2.trans o3).trans o6);go_wp2;exact aK (ax (by rfl) _ _ _) rfl ⟨rfl,by have:=hr.o;simpa[hkn]using this,oo.o⟩
theorem ML(A:Option Addr)(c0 c1:Nat)(hc0:c0=0)(hg:GT t s)(hkn:s.kn=true)(h:RC Q w g t true (s.slot:Nat) s.now (s.si:Nat) L s.l)(hs:s.slot<t.ns.length)(hsi:s.si<2*t.ns.length)(h8:t.ns.length<=8)(hsm:small s.l)(hlm:0<=t.lm/\t.lm<=1099511627776)(jz:-2251799813685248<=s.now/\s.now<=2251799813685248):
  l5 Q g t s.missed (.slice A c0 c1) at_ w:=by
 have c4:=h.c4;have c9:=h.c9;have f9:=h.frozen 9;have q0:decide ((0:Int)<((c0:Nat):Int))=false:=aj (by omega);have q00:decide (0<c0)=false:=aj (by omega);have z0:¬0<c0:=by omega
 clear hc0;have h1:=h.up 9 ↑((s.si:Int)+1:Int) (si':=(s.si:Int)+1) (λ_=>rfl);have o1:=(aE g w).set 9 ↑((s.si:Int)+1:Int);have hn:=hg.n;have wk:IntKind.i64.wrap ((s.si:Int)+1)=(s.si:Int)+1:=aO _ (by omega);have w2:IntKind.i64.wrap (2*((t.ns.length:Nat):Int))=2*((t.ns.length:Nat):Int):=aO _ (by omega);obtain⟨Av,cv,e0,-⟩:=h1.c0;have e9:=h1.c9;have h1:=af h1;clear h;unfold l5 G.missed;by_cases hm:s.si+1=2*s.n
 ·rw[au hm]
  have q1:decide (2*((t.ns.length:Nat):Int)<=(s.si:Int)+1)=true:=av (by omega)
  go_enter Tryz.func179,Tryz.ntmps179
  go_wp2_with fail;generalize w.setCell (g,9) ↑((s.si:Int)+1:Int)=w1 at *
  go_quiet (fail)
  have h2:=h1.o.drewN nq;have o2:=o1.trans (iQ g (aC (ah _ w1) nq));clear c4 c9 f9 e0 e9 h1 o1;generalize w1.drewN nq=w2 at *;have c4:=h2.c4;have f4:=h2.frozen 4;have h3:=af (h2.up 4 ↑false (kn':=false) (λ_=>rfl));have o3:=af (o2.set 4 ↑false);clear h2 o2;go_wp2;exact aK (ax (by rfl) _ _ _) rfl ⟨rfl,⟨⟨_,_,L,h3.o,λe=>by cases e⟩,hg.n,hg.wi,hg.lm,hg.sy,hg.l4⟩,o3.o⟩
 ·rw[ai hm]
  have q1:decide (2*((t.ns.length:Nat):Int)<=(s.si:Int)+1)=false:=aj (by omega)
  go_enter Tryz.func179,Tryz.ntmps179
  go_wp2_with fail;generalize w.setCell (g,9) ↑((s.si:Int)+1:Int)=w1 at *
  go_quiet (fail)
  have h2:=h1.o.drewN nq;have o2:=o1.trans (iQ g (aC (ah _ w1) nq));generalize w1.drewN nq=w2 at *;have hOn:=af (tP (s:={s with si:=s.si+1}) ⟨hg.n,hg.wi,hg.lm,hg.sy,hg.l4⟩ s.slot h2 (by show((s.si:Nat):Int)+1=((s.si+1:Nat):Int);omega) hs h8 hsm hlm jz);clear h2 c4 c9 f9 e0 e9 h1;go_wp2_with fail;refine hOn.o.mono ?_;rintro _ w6 ⟨rfl,hr,o6⟩;have hr:=af hr;have oo:=af (o2.trans o6);go_wp2;exact aD (ax (by rfl) _ _ _) rfl ⟨rfl,by have:=hr.o;simpa[hkn]using this,oo.o⟩
theorem Dk(h:RG Q w g t s)(hQ:∀k,w.heap.size<=k->Q k)(ok:s.Ok at_)(hsi:s.kn=true->s.si<2*s.n)(hv:iI w w v l)(hl:iK l):
  l5 Q g t (s.ended l at_) v at_ w:=by
 obtain⟨⟨sl,si,L,hc,hk⟩,hg⟩:=h;have o1:=ok.n;have o2:=ok.slot;have o3:=ok.lm;have o4:=ok.now;have o5:=ok.near;have o6:-2251799813685248<=s.now/\s.now<=2251799813685248:=by omega
 rw[hg.n]at o1 o2 hsi;rw[hg.lm]at o3;unfold G.ended
 cases hkn:s.kn
 ·rw[hkn]at hc
  simp only[bA,dB];exact MI hg hc hkn o1 o3 (by omega) hv hl
 ·rw[hkn]at hc
  obtain⟨rfl,rfl⟩:=hk hkn;simp only[dG];by_cases h0:0<l.length
  ·rw[au h0]
   exact MJ hg hkn hc hQ o2 o1 ok.small o3 o6 o5 hv h0
  ·rw[ai h0]
   have e0:l=[]:=List.eq_nil_of_length_eq_zero (by omega);subst e0;obtain⟨A,c,rfl,-⟩:=hv.at_;exact ML A _ c rfl hg hkn hc o2 (hsi hkn) o1 ok.small o3 o6
end
end
section
set_option maxRecDepth 100000
set_option maxHeartbeats 4000000
open Go.RowKit
theorem Dz(n:Nat)(q:Nat->Int):(tk n q=2\/tl n q=[])/\(tk n q=0\/tk n q=1\/tk n q=2):=by
 unfold tk tl
 cases kC q n
 ·by_cases h:n%8=0/\j3 q n=true
  ·simp[h]
  ·refine⟨.inr ?_,?_⟩
   ·rw[ai]
    rintro⟨-,h1,h2⟩;exact h ⟨h1,h2⟩
   ·simp[h]
 ·simp
theorem Nl(Q:GS)(g g0 g1 ab:Nat)(t:Tb.T)(s:G)(x:Air)(n:Nat)(q:Nat->Int)(v:Value)(p:Int)(w:World)(hS:Blk w g #[↑(g0,0),↑(g1,0)] 144)(hG:RG Q w g0 t s)(hA:∀j,j<8->w.cell? (ab,8+j)=some ↑(x.s j).at_)(hQ:∀k,w.heap.size<=k->Q k)(ok:s.Ok (x.jq p))(hsi:s.kn=true->s.si<2*s.n)(hv:iI w w v (tl n q))(hp:p=-1\/∃j:Nat,p=j/\j<8):
  Calls Tryz.prog 122 #[↑(g,0),↑(ab,0),↑(0:Int),↑(tk n q),v,↑p] w λe w'=>e=.returned (.tuple #[])/\RG Q w' g0 t (s.ended (tl n q) (x.jq p))/\Only g0 w w':=by
 obtain⟨hk,hk2⟩:=Dz n q;have hby:=qg n q;generalize tk n q=K at *;generalize tl n q=l at *;have HE:Hid (∀a,a=x.jq p->∀u,iI w w u l->l5 Q g0 t (s.ended l a) u a w):=af (by
  rintro a rfl u hu;exact Dk hG hQ ok hsi hu hby)
 have s0:=hS.cell 0 (x:=↑(g0,0)) rfl;unfold l5 at HE;have hvf:=af hv;have hK:(K=2)\/(K≠2/\l=[]):=(Classical.em (K=2)).imp id λh=>⟨h,hk.resolve_left h⟩;obtain⟨A,c,rfl,-⟩:=hv.at_;clear hS hG hQ ok hsi hv hk hk2;rcases hK with rfl|⟨hK,rfl⟩
 ·rcases hp with rfl|⟨j,rfl,hj⟩
  ·have hE:=af (HE.o 0 rfl _ hvf.o)
   have ez:x.jq (-1)=0:=rfl;rw[ez];clear HE hvf
   go_enter Tryz.func122,Tryz.ntmps122
   go_wp2_with fail;refine hE.o.mono ?_;rintro e w2 ⟨rfl,hr,o⟩;have hr:=af hr;go_wp2;exact aD (ax (by rfl) _ _ _) rfl ⟨rfl,hr.o,o⟩
  ·have ez:x.jq (j:Nat)=(x.s j).at_:=by unfold Air.jq;rw[ai (by omega),aQ]
   have hE:=af (HE.o (x.s j).at_ ez.symm _ hvf.o);rw[ez];have d:=hA j hj;have j8:(j:Int)<8:=by omega
   clear HE hvf hA ez;generalize(x.s j).at_=a at *
   go_enter Tryz.func122,Tryz.ntmps122
   go_wp2_with fail;refine hE.o.mono ?_;rintro e w2 ⟨rfl,hr,o⟩;have hr:=af hr;go_wp2;exact aD (ax (by rfl) _ _ _) rfl ⟨rfl,hr.o,o⟩
 ·have k2:(K != 2)=true:=by rw[bV];exact hK
  rcases hp with rfl|⟨j,rfl,hj⟩
  ·have hE:=af (HE.o 0 rfl (.slice none 0 0) gR)
   have ez:x.jq (-1)=0:=rfl;rw[ez];clear HE hvf
   go_enter Tryz.func122,Tryz.ntmps122
   go_wp2_with fail;refine hE.o.mono ?_;rintro e w2 ⟨rfl,hr,o⟩;have hr:=af hr;go_wp2;exact aD (ax (by rfl) _ _ _) rfl ⟨rfl,hr.o,o⟩
  ·have ez:x.jq (j:Nat)=(x.s j).at_:=by unfold Air.jq;rw[ai (by omega),aQ]
   have hE:=af (HE.o (x.s j).at_ ez.symm (.slice none 0 0) gR);rw[ez];have d:=hA j hj;have j8:(j:Int)<8:=by omega
   clear HE hvf hA ez;generalize(x.s j).at_=a at *
   go_enter Tryz.func122,Tryz.ntmps122
   go_wp2_with fail;refine hE.o.mono ?_;rintro e w2 ⟨rfl,hr,o⟩;have hr:=af hr;go_wp2;exact aD (ax (by rfl) _ _ _) rfl ⟨rfl,hr.o,o⟩
theorem Nn(Q:GS)(g g0 g1 ab:Nat)(t:Tb.T)(s:G)(x:Air)(n:Nat)(q:Nat->Int)(v:Value)(p:Int)(w:World)(hS:Blk w g #[↑(g0,0),↑(g1,0)] 144)(hG:RG Q w g1 t s)(hA:∀j,j<8->w.cell? (ab,8+j)=some ↑(x.s j).at_)(hQ:∀k,w.heap.size<=k->Q k)(ok:s.Ok (x.jq p))(hsi:s.kn=true->s.si<2*s.n)(hv:iI w w v (tl n q))(hp:p=-1\/∃j:Nat,p=j/\j<8):
  Calls Tryz.prog 122 #[↑(g,0),↑(ab,0),↑(1:Int),↑(tk n q),v,↑p] w λe w'=>e=.returned (.tuple #[])/\RG Q w' g1 t (s.ended (tl n q) (x.jq p))/\Only g1 w w':=by
 obtain⟨hk,hk2⟩:=Dz n q;have hby:=qg n q;generalize tk n q=K at *;generalize tl n q=l at *;have HE:Hid (∀a,a=x.jq p->∀u,iI w w u l->l5 Q g1 t (s.ended l a) u a w):=af (by
  rintro a rfl u hu;exact Dk hG hQ ok hsi hu hby)
 have s1:=hS.cell 1 (x:=↑(g1,0)) rfl;unfold l5 at HE;have hvf:=af hv;have hK:(K=2)\/(K≠2/\l=[]):=(Classical.em (K=2)).imp id λh=>⟨h,hk.resolve_left h⟩;obtain⟨A,c,rfl,-⟩:=hv.at_;clear hS hG hQ ok hsi hv hk hk2;rcases hK with rfl|⟨hK,rfl⟩
 ·rcases hp with rfl|⟨j,rfl,hj⟩
  ·have hE:=af (HE.o 0 rfl _ hvf.o)
   have ez:x.jq (-1)=0:=rfl;rw[ez];clear HE hvf
   go_enter Tryz.func122,Tryz.ntmps122
   go_wp2_with fail;refine hE.o.mono ?_;rintro e w2 ⟨rfl,hr,o⟩;have hr:=af hr;go_wp2;exact aD (ax (by rfl) _ _ _) rfl ⟨rfl,hr.o,o⟩
  ·have ez:x.jq (j:Nat)=(x.s j).at_:=by unfold Air.jq;rw[ai (by omega),aQ]
   have hE:=af (HE.o (x.s j).at_ ez.symm _ hvf.o);rw[ez];have d:=hA j hj;have j8:(j:Int)<8:=by omega
   clear HE hvf hA ez;generalize(x.s j).at_=a at *
   go_enter Tryz.func122,Tryz.ntmps122
   go_wp2_with fail;refine hE.o.mono ?_;rintro e w2 ⟨rfl,hr,o⟩;have hr:=af hr;go_wp2;exact aD (ax (by rfl) _ _ _) rfl ⟨rfl,hr.o,o⟩
 ·have k2:(K != 2)=true:=by rw[bV];exact hK
  rcases hp with rfl|⟨j,rfl,hj⟩
  ·have hE:=af (HE.o 0 rfl (.slice none 0 0) gR)
   have ez:x.jq (-1)=0:=rfl;rw[ez];clear HE hvf
   go_enter Tryz.func122,Tryz.ntmps122
   go_wp2_with fail;refine hE.o.mono ?_;rintro e w2 ⟨rfl,hr,o⟩;have hr:=af hr;go_wp2;exact aD (ax (by rfl) _ _ _) rfl ⟨rfl,hr.o,o⟩
  ·have ez:x.jq (j:Nat)=(x.s j).at_:=by unfold Air.jq;rw[ai (by omega),aQ]
   have hE:=af (HE.o (x.s j).at_ ez.symm (.slice none 0 0) gR);rw[ez];have d:=hA j hj;have j8:(j:Int)<8:=by omega
   clear HE hvf hA ez;generalize(x.s j).at_=a at *
   go_enter Tryz.func122,Tryz.ntmps122
   go_wp2_with fail;refine hE.o.mono ?_;rintro e w2 ⟨rfl,hr,o⟩;have hr:=af hr;go_wp2;exact aD (ax (by rfl) _ _ _) rfl ⟨rfl,hr.o,o⟩
end
end Go.Proofs.YteadkhigkmijiaaGreat
