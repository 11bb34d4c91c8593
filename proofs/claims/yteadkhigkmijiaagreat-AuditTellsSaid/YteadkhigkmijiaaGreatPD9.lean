/- Texts AvA, AvB, AvC, AvD, AvG in one. -/
import Derived.Deep.RegionHeld3
import Derived.Test.YteadkhigkmijiaaGreatPD1
import Derived.Test.YteadkhigkmijiaaGreatPD4
set_option linter.all false
namespace Go.Proofs.YteadkhigkmijiaaGreat
section
set_option maxRecDepth 100000
set_option maxHeartbeats 4000000
open Go.RowKit
def mk1(but:Int)(i:Nat):Int:=bits BinOp.and IntKind.i64 (but / (2:Int)^i) 1
def cC(st:Nat->Nat)(but:Int)(i:Nat):Bool:=st i==4&&mk1 but i==0
def bh(st:Nat->Nat)(but:Int)(k:Nat):List Int:=((List.range k).filter (cC st but)).map λi=>((i:Nat):Int)
theorem js(st:Nat->Nat)(but:Int):bh st but 0=[]:=rfl
theorem jt(st:Nat->Nat)(but:Int)(k:Nat)(h:cC st but k=true):bh st but (k+1)=bh st but k++[(k:Int)]:=by
 simp[bh,cZ,List.filter_append,h]
theorem jx(st:Nat->Nat)(but:Int)(k:Nat)(h:cC st but k=false):bh st but (k+1)=bh st but k:=by
 simp[bh,cZ,List.filter_append,h]
theorem ke(st:Nat->Nat)(but:Int)(k:Nat):(bh st but k).length<=k:=by
 unfold bh;rw[dQ];exact aW (List.length_filter_le _ _) (by simp)
section
variable {N x:Nat}{W:World}
theorem pH(st:Nat->Nat)(hnn:∀W',Below W W W'->Calls Tryz.prog 39 #[↑(x,0)] W' λe w'=>e=.returned ↑(N:Nat)/\w'=W')(hss:∀W',Below W W W'->∀i:Nat,i<N->Calls Tryz.prog 41 #[↑(x,0),↑(i:Nat)] W' λe w'=>e=.returned ↑(st i:Nat)/\Below W' W' w')(hN:N<=8)(but:Int):
  Calls Tryz.prog 50 #[↑(x,0),↑but] W λe w'=>∃v,e=.returned v/\OwnsI w' W v (bh st but N)/\Below W W w':=by
 have hn:=af (hnn W (ah _ _));have hst:=af hss;have hle:=af (ke st but);clear hnn hss
 go_enter Tryz.func50,Tryz.ntmps50
 go_wp2_with fail;refine hn.o.mono ?_;rintro e w1 ⟨rfl,rfl⟩;go_wp2_with fail
 rename World=>w1
 go_loopw [5,9] (λv i wr=>∃k:Nat,k<=N/\i=↑k/\OwnsI wr w1 v (bh st but k)/\Below w1 w1 wr) (λ_ i _=>N-(intOf i).toNat)
 case atStart=>exact⟨0,by omega,rfl,by rw[js];exact OwnsI.nil,ah _ _⟩
 case round=>
  obtain⟨k,hk,rfl,ho,hb⟩:=hrel;by_cases hlt:k<N
  ·have q1:decide ((k:Int)<(N:Nat))=true:=by simp;omega
   have hs:=af (hst.o _ hb k hlt);have k0:decide ((0:Int)<=(k:Nat))=true:=by simp
   have hb:=af hb;have ho:=af ho;have hl:=hle.o k;have cE:=af (jt st but k);have hNo:=af (jx st but k);have hqd:Hid (cC st but k=(st k==4&&mk1 but k==0)):=af rfl;have hqm:Hid (bits BinOp.and IntKind.i64 (but / (2:Int)^k) 1=mk1 but k):=af rfl;by_cases h4:st k=4
   case neg=>
    have r4:((((st k):Nat):Int)==4)=false:=by rw[aB];omega
    have hF:=af ((hNo.o (by rw[hqd.o];simp[h4])).symm▸ho.o);generalize st k=s at *;clear hst;go_wp2_with fail;refine hs.o.mono ?_;rintro e w2 ⟨rfl,c2⟩;have hb2:=af (hb.o.trans (c2.mono hb.o.size));have ho2:=af (hF.o.below c2 lr);clear hs hb c2;go_wp2_with fail;go_roundw
    case rel=>exact⟨k+1,by omega,by go_num,ho2.o,hb2.o⟩
    case measure=>simp[intOf];omega
   rw[h4]at hs;by_cases hm:mk1 but k=0
   case neg=>
    have zs:(bits BinOp.and IntKind.i64 (but / (2:Int)^k) 1==0)=false:=by rw[hqm.o,aB];exact hm
    have hF:=af ((hNo.o (by rw[hqd.o];simp[hm])).symm▸ho.o);clear hst;go_wp2_with fail;refine hs.o.mono ?_;rintro e w2 ⟨rfl,c2⟩;have hb2:=af (hb.o.trans (c2.mono hb.o.size));have ho2:=af (hF.o.below c2 lr);clear hs hb c2;go_wp2_with fail;go_roundw
    case rel=>exact⟨k+1,by omega,by go_num,ho2.o,hb2.o⟩
    case measure=>simp[intOf];omega
   have zs:bits BinOp.and IntKind.i64 (but / (2:Int)^k) 1=0:=hm;have SH:=af (cE.o (by rw[hqd.o];simp[h4,hm]));clear hst hNo cE hqd hqm hm;go_wp2_with fail;refine hs.o.mono ?_;rintro e w2 ⟨rfl,c2⟩;have hb2:=hb.o.trans (c2.mono hb.o.size);have ho2:=ho.o.below c2 lr;have ho3:=af (ho2.alloc (.cells #[↑(k:Nat)] 3));have hb3:=af (hb2.alloc hb2.size (.cells #[↑(k:Nat)] 3));have kI:=af (tE w2 3 #[↑(k:Nat)] [(k:Int)] rfl (w2.heap.size+1) (cJ _) (by simp[maxLen]) w2 1 1 rfl rfl rfl);have hsz:w1.heap.size<=(w2.alloc (.cells #[↑(k:Nat)] 3)).heap.size:=hb3.o.size;have cH:=af ho3.o.lt;clear hs hb ho c2 hb2 ho2;go_wp2_with (at_builtin;go_loud (refine pE _ rfl (.tmp 23) (.tmp 25) 33 rfl w1 oh Tryz.underlying33 _ (bh st but k) ho3.o rfl _ _ [(k:Int)] rfl kI.o hsz (by simp[maxLen];omega) ?_));intro v4 w4 ho4 hx4;rw[<-SH.o]at ho4;have hb4:=af (hb3.o.trans (hx4.toBelow hsz (λi hi=>(cH.o i hi).1)));have ho4:=af ho4;clear ho3 hb3 kI hx4 cH;go_wp2;go_roundw
   case rel=>exact⟨k+1,by omega,by go_num,ho4.o,hb4.o⟩
   case measure=>simp[intOf];omega
  ·obtain rfl:k=N:=by omega
   have q1:decide ((k:Int)<(k:Nat))=false:=by simp
   go_wp2;go_ret;exact⟨_,rfl,ho,hb⟩
end
end
section
set_option maxRecDepth 100000
set_option maxHeartbeats 4000000
open Go.RowKit
theorem list_form{w1:World}{B:Nat}{v:Value}{L:List Nat}(ho:OwnsI w1 B v (L.map λi=>((i:Nat):Int)))(h0:0<L.length):∃(g c:Nat)(q:Nat->Nat),v=.slice (some (g,0)) L.length c/\L.length<=c/\c<=maxLen/\(∀k,L.getD k 0=q k)/\(∀k,k<L.length->q k∈L)/\∀W,Below w1 w1 W->∀k,k<L.length->W.cell? ⟨g,k,none⟩=some ↑(q k:Nat):=by
 rcases ho.2 with⟨-,e⟩|⟨g,c,cur,e,h1,h2,h3,h4,-⟩
 ·rw[dQ]at e
  omega
 ·have hg:g<w1.heap.size:=(bT.1 h2).1
  refine⟨g,c,λk=>L.getD k 0,by rw[e,dQ],by simpa using h3,h4,λ_=>rfl,λk hk=>?_,λW hW k hk=>?_⟩
  ·show L.getD k 0∈L
   rw[ay,aP hk];exact dS hk
  subst e;refine((hW.cell (p:=(g,k)) hg).trans (OwnsI.cell ho rfl (i:=k) (by simpa using hk))).trans ?_
  congr 2
  simp[ay,hk]
def aq(V:Nat->Int×Nat×Nat)(L:List Nat)(k:Nat):Bool:=(List.range k).all λi=>V (L.getD i 0)==V (L.getD 0 0)
theorem ld(V:Nat->Int×Nat×Nat)(L:List Nat){k:Nat}(hk:k<L.length)(h:V (L.getD k 0)≠V (L.getD 0 0)):aq V L L.length=false:=by
 unfold aq;rw[List.all_eq_false];exact⟨k,cA.2 hk,by simpa using h⟩
theorem mw{p1 r1:Int}{p2 p3 r2 r3:Nat}(h:(p1,p2,p3)≠(r1,r2,r3)):(p1==r1)=false\/((p1=r1/\(((p2:Nat):Int)==(r2:Nat))=false)\/(p1=r1/\p2=r2/\(((p3:Nat):Int)==(r3:Nat))=false)):=by
 simp only[aB];by_cases h1:p1=r1
 ·by_cases h2:p2=r2
  ·exact .inr (.inr ⟨h1,h2,λh3=>h (by rw[h1,h2,show p3=r3 by omega])⟩)
  ·exact .inr (.inl ⟨h1,by omega⟩)
 ·exact .inl h1
theorem pN{x:Nat}{W:World}(V:Nat->Int×Nat×Nat)(L:List Nat)(hN:L.length<=8)(but:Int)
  (ha:Calls Tryz.prog 50 #[↑(x,0),↑but] W λe w'=>∃v,e=.returned v/\OwnsI w' W v (L.map λi=>((i:Nat):Int))/\Below W W w')
  (hvv:∀W',Below W W W'->∀i,i∈L->Calls Tryz.prog 42 #[↑(x,0),↑(i:Nat)] W' λe w'=>e=.returned (.agg #[↑(V i).1,↑((V i).2.1:Nat),↑((V i).2.2:Nat)])/\Below W' W' w'):
  Calls Tryz.prog 18 #[↑(x,0),↑but] W λe w'=>e=.returned ↑(aq V L L.length)/\Below W W w':=by
 replace ha:=af ha;have hvw:=af hvv;clear hvv;by_cases h00:L.length=0
 ·have e0:L=[]:=dx.1 h00
  subst e0
  go_enter Tryz.func18,Tryz.ntmps18
  go_wp2_with fail;refine ha.o.mono ?_;rintro e w1 ⟨v,rfl,ho,b1⟩;obtain⟨A1,c1,rfl,-⟩:=ho.sees.at_;replace b1:=af b1;clear ha ho hvw;go_wp2_with fail
  go_loopw [13] (λi wr=>i=↑(0:Int)/\Below w1 w1 wr) (λi _=>0)
  case atStart=>exact⟨rfl,ah _ _⟩
  case round=>
   obtain⟨rfl,hb⟩:=hrel;go_wp2;go_ret;exact⟨rfl,b1.o.trans (hb.mono b1.o.size)⟩
 have h0:0<L.length:=by omega
 go_enter Tryz.func18,Tryz.ntmps18
 go_wp2_with fail;refine ha.o.mono ?_;rintro e w1 ⟨v,rfl,ho,b1⟩;obtain⟨g,c,q,rfl,hc1,hc2,hq,hmem,hcell⟩:=list_form ho h0;unfold maxLen at hc2;replace hmem:=af hmem;replace hcell:=af hcell;replace b1:=af b1;have hF:Hid (∀k,k<L.length->V (q k)≠V (q 0)->aq V L L.length=false):=af λk hk h=>ld V L hk (by rw[hq,hq];exact h);have hM:Hid (∀k,aq V L (k+1)=(aq V L k&&(V (q k)==V (q 0)))):=af λk=>by rw[<-hq k,<-hq 0];simp[aq,cZ,List.all_append]
 clear hq;generalize hK:L.length=N at *;clear ha ho;have n0:(0:Int)<(N:Nat):=by omega
 go_wp2_with fail
 go_loopw [13] (λi wr=>∃k:Nat,k<=N/\i=↑k/\Hid (aq V L k=true)/\Below w1 w1 wr) (λi _=>N-(intOf i).toNat)
 case atStart=>exact⟨0,by omega,rfl,af rfl,ah _ _⟩
 case round=>
  obtain⟨k,hk,rfl,hA,hb⟩:=hrel;by_cases hlt:k<N
  ·have q1:decide ((k:Int)<(N:Nat))=true:=by simp;omega
   have ck:=hcell.o _ hb k hlt;have S0:=hcell.o _ hb.drew 0 h0;have hMk:=af (hM.o k);have v1:=hvw.o _ (b1.o.trans (hb.drew.mono b1.o.size)) _ (hmem.o k hlt);replace hvw:=af λW' h=>hvw.o W' h _ (hmem.o 0 h0);replace hb:=af hb;have hc0:Hid (∀W,Below w1 w1 W->W.cell? (g,0)=some ↑((q 0:Nat):Int)):=af λW h=>hcell.o W h 0 h0;replace hF:=af (hF.o k hlt);clear hM hmem hcell;generalize hP:V (q k)=P at *;generalize hQ:V (q 0)=Q at *;generalize q k=i at *;generalize q 0=j at *;by_cases hE:P=Q
   case pos=>
    subst hE;have hA2:=af (show aq V L (k+1)=true by rw[hMk.o,hA.o];simp);obtain⟨p1,p2,p3⟩:=P;replace hvw:=af (by have:=hvw.o;simp only at this;exact this);simp only at v1;replace v1:=af v1;clear hMk hA hP hQ;go_wp2_with fail;clear ck
    go_region_held3 (λW=>W.cell? (g,0)=some ↑((j:Nat):Int))
     (first|exact S0|exact S1|exact S2)
     (first
      |(go_at_call 42;(first
        |(refine(hvw.o _ (b1.o.trans (b2.o.mono b1.o.size))).mono ?_;rintro e w3 ⟨rfl,c3⟩;have b3:=af (b2.o.trans (c3.mono b2.o.size));have S2:=hc0.o _ b3.o)
        |(refine v1.o.mono ?_;rintro e w2 ⟨rfl,c2⟩;have b2:=af (hb.o.drew.trans (c2.mono hb.o.size));have S1:=hc0.o _ b2.o)))
      |fail)
    all_goals
     have b3:=af b3.o;clear S0 S1 S2 v1 hb hvw hc0;go_wp2_with fail;go_roundw
     case rel=>exact⟨k+1,by omega,by go_num,hA2,b3.o⟩
     case measure=>simp[intOf];omega
   replace hF:=hF.o hE;obtain⟨p1,p2,p3⟩:=P;obtain⟨r1,r2,r3⟩:=Q;replace hvw:=af (by have:=hvw.o;simp only at this;exact this);simp only at v1;replace v1:=af v1;clear hMk hA hP hQ;replace hF:=af hF;have hE2:(p1==r1)=false\/((p1=r1/\(((p2:Nat):Int)==(r2:Nat))=false)\/(p1=r1/\p2=r2/\(((p3:Nat):Int)==(r3:Nat))=false)):=mw hE;clear hE;rcases hE2 with c1|⟨rfl,c2⟩|⟨rfl,rfl,c3⟩
   all_goals
    go_wp2_with fail;clear ck
    go_region_held3 (λW=>W.cell? (g,0)=some ↑((j:Nat):Int))
     (first|exact S0|exact S1|exact S2)
     (first
      |(go_at_call 42;(first
        |(refine(hvw.o _ (b1.o.trans (b2.o.mono b1.o.size))).mono ?_;rintro e w3 ⟨rfl,c3⟩;have b3:=af (b2.o.trans (c3.mono b2.o.size));have S2:=hc0.o _ b3.o)
        |(refine v1.o.mono ?_;rintro e w2 ⟨rfl,c2⟩;have b2:=af (hb.o.drew.trans (c2.mono hb.o.size));have S1:=hc0.o _ b2.o)))
      |fail)
    all_goals
     replace b3:=af b3.o;clear S0 S1 S2 v1 hb hvw hc0;go_wp2_with fail;go_ret;exact⟨by rw[hK,hF.o];rfl,b1.o.trans (b3.o.mono b1.o.size)⟩
  ·obtain rfl:k=N:=by omega
   have q1:decide ((k:Int)<(k:Nat))=false:=by simp
   go_wp2;go_ret;exact⟨by rw[hK,hA.o];rfl,b1.o.trans (hb.mono b1.o.size)⟩
def mxM(T:Nat->Int)(L:List Nat):Nat->Int
 |0=>T (L.getD 0 0)
 |k+1=>if mxM T L k<T (L.getD k 0)then T (L.getD k 0)else mxM T L k
def mnM(T:Nat->Int)(L:List Nat):Nat->Int
 |0=>T (L.getD 0 0)
 |k+1=>if T (L.getD k 0)<mnM T L k then T (L.getD k 0)else mnM T L k
def spV(T:Nat->Int)(L:List Nat):Int:=if L.length<2 then 0 else wrap64 (mxM T L L.length-mnM T L L.length)
theorem spV_pos(T:Nat->Int)(L:List Nat)(h:0<L.length):spV T L=wrap64 (mxM T L L.length-mnM T L L.length):=by
 unfold spV
 split
 ·obtain e:L.length=1:=by omega
  rw[e];show(0:Int)=_;rw[IntWalk.wrap64_in _ (by simp[mxM,mnM])];simp[mxM,mnM]
 ·rfl
theorem pT{x:Nat}{W:World}(T:Nat->Int)(L:List Nat)(hN:L.length<=8)(but:Int)
  (ha:Calls Tryz.prog 50 #[↑(x,0),↑but] W λe w'=>∃v,e=.returned v/\OwnsI w' W v (L.map λi=>((i:Nat):Int))/\Below W W w')
  (hcc:∀W',Below W W W'->∀i,i∈L->Calls Tryz.prog 44 #[↑(x,0),↑(i:Nat)] W' λe w'=>e=.returned ↑(T i)/\Below W' W' w'):
  Calls Tryz.prog 20 #[↑(x,0),↑but] W λe w'=>e=.returned ↑(spV T L)/\Below W W w':=by
 replace ha:=af ha;have hck:=af hcc;clear hcc;by_cases h00:L.length=0
 ·have e0:L=[]:=dx.1 h00
  subst e0;have es:Hid (spV T []=0):=af rfl
  go_enter Tryz.func20,Tryz.ntmps20
  go_wp2_with fail;refine ha.o.mono ?_;rintro e w1 ⟨v,rfl,ho,b1⟩;obtain⟨A1,c1,rfl,-⟩:=ho.sees.at_;replace b1:=af b1;clear ha ho hck;go_wp2_with fail;go_ret;exact⟨by rw[es.o];rfl,b1.o⟩
 have h0:0<L.length:=by omega
 have es:=af (spV_pos T L h0)
 go_enter Tryz.func20,Tryz.ntmps20
 go_wp2_with fail;refine ha.o.mono ?_;rintro e w1 ⟨v,rfl,ho,b1⟩;obtain⟨g,c,q,rfl,hc1,hc2,hq,hmem,hcell⟩:=list_form ho h0;unfold maxLen at hc2;replace hmem:=af hmem;replace hcell:=af hcell;replace b1:=af b1;have hX:Hid (∀k,mxM T L (k+1)=if mxM T L k<T (q k)then T (q k)else mxM T L k):=af λk=>by rw[<-hq];rfl
 have hY:Hid (∀k,mnM T L (k+1)=if T (q k)<mnM T L k then T (q k)else mnM T L k):=af λk=>by rw[<-hq];rfl
 have hX0:Hid (mxM T L 0=T (q 0)):=af (by rw[<-hq];rfl);have hY0:Hid (mnM T L 0=T (q 0)):=af (by rw[<-hq];rfl);clear hq;generalize hK:L.length=N at *;replace hK:=af hK;clear ha ho;have n0:(0:Int)<(N:Nat):=by omega
 have n0n:((N:Int)==0)=false:=by rw[aB];omega
 have S0:=hcell.o w1.drew (ah _ _).drew 0 h0;have hvv:Hid (∀W',Below W W W'->Calls Tryz.prog 44 #[↑(x,0),↑(q 0:Nat)] W' λe w'=>e=.returned ↑(T (q 0))/\Below W' W' w'):=af λW' h=>hck.o W' h _ (hmem.o 0 h0);have hc0:Hid (∀W,Below w1 w1 W->W.cell? (g,0)=some ↑((q 0:Nat):Int)):=af λW h=>hcell.o W h 0 h0;obtain⟨j,hj⟩:∃j,q 0=j:=⟨_,rfl⟩;obtain⟨t0,ht0⟩:∃t0,T (q 0)=t0:=⟨_,rfl⟩;rw[ht0]at hX0 hY0 hvv;rw[hj]at hvv hc0 S0;clear hj ht0;go_wp2_with fail
 go_region_held3 (λW=>W.cell? (g,0)=some ↑((j:Nat):Int))
  (first|exact S0|exact S1|exact S2)
  (first
   |(go_at_call 44;(first
     |(refine(hvv.o _ (b1.o.trans (b2.o.mono b1.o.size))).mono ?_;rintro e w3 ⟨rfl,c3⟩;have b3:=af (b2.o.trans (c3.mono b2.o.size));have S2:=hc0.o _ b3.o)
     |(refine(hvv.o _ b1.o.drew).mono ?_;rintro e w2 ⟨rfl,c2⟩;have b2:=af ((ah _ _).drew.trans c2);have S1:=hc0.o _ b2.o)))
   |fail)
 all_goals
  have b3:=af b3.o;clear S0 S1 S2 b2 hvv hc0;go_wp2_with fail
  go_loopw [6,7,28] (λm l i wr=>∃k:Nat,k<=N/\i=↑k/\m=↑(mxM T L k)/\l=↑(mnM T L k)/\Below w1 w1 wr) (λ_ _ i _=>N-(intOf i).toNat)
  case atStart=>exact⟨0,by omega,rfl,by rw[hX0.o],by rw[hY0.o],b3.o⟩
  case round=>
   clear b3;obtain⟨k,hk,rfl,rfl,rfl,hb⟩:=hrel;by_cases hlt:k<N
   ·have q1:decide ((k:Int)<(N:Nat))=true:=by simp;omega
    have ck:=hcell.o _ hb k hlt;have mA:=af (λW' b=>hck.o W' b _ (hmem.o k hlt));have hXk:=hX.o k;have hYk:=hY.o k;replace hb:=af hb;clear hck hX hY hcell hmem hX0 hY0 es;generalize mxM T L k=p at *;generalize mnM T L k=r at *;generalize T (q k)=t at *;generalize q k=i at *;have hx:(p<t/\decide (p<t)=true/\Hid (mxM T L (k+1)=t))\/(¬p<t/\decide (p<t)=false/\Hid (mxM T L (k+1)=p)):=by
     by_cases h:p<t
     ·exact .inl ⟨h,av h,af (by rw[hXk,au h])⟩
     ·exact .inr ⟨h,aj h,af (by rw[hXk,ai h])⟩
    have hy:(t<r/\decide (t<r)=true/\Hid (mnM T L (k+1)=t))\/(¬t<r/\decide (t<r)=false/\Hid (mnM T L (k+1)=r)):=by
     by_cases h:t<r
     ·exact .inl ⟨h,av h,af (by rw[hYk,au h])⟩
     ·exact .inr ⟨h,aj h,af (by rw[hYk,ai h])⟩
    clear hXk hYk;rcases hx with⟨r0,r1,hP⟩|⟨r0,r1,hP⟩<;>rcases hy with⟨r3,r2,hQ⟩|⟨r3,r2,hQ⟩
    all_goals
     go_wp2_with fail;refine(mA.o _ (b1.o.trans (hb.o.mono b1.o.size))).mono ?_;rintro e w4 ⟨rfl,c4⟩;have hb4:=af (hb.o.trans (c4.mono hb.o.size));go_wp2_with fail;refine(mA.o _ (b1.o.trans (hb4.o.mono b1.o.size))).mono ?_;rintro e w5 ⟨rfl,c5⟩;have hb5:=af (hb4.o.trans (c5.mono hb4.o.size));clear hb c4 hb4 c5 ck;go_wp2_with fail;go_roundw
     case rel=>exact⟨k+1,by omega,by go_num,by rw[hP.o],by rw[hQ.o],hb5.o⟩
     case measure=>simp[intOf];omega
   ·obtain rfl:k=N:=by omega
    have q1:decide ((k:Int)<(k:Nat))=false:=by simp
    go_wp2;go_ret;exact⟨by rw[es.o];rfl,b1.o.trans (hb.mono b1.o.size)⟩
end
section
set_option maxRecDepth 100000
set_option maxHeartbeats 4000000
open Go.RowKit
def DMem(N y nb c:Nat)(gp:Nat->Nat)(st:Nat->Nat)(T:Nat->Int)(W:World):Prop:=∀W',Below W W W'->W'.cell? (y,0)=some (.slice (some (nb,0)) N c)/\N<=c/\∀i,i<N->W'.cell? ⟨nb,i,none⟩=some ↑(gp i,0)/\W'.cell? (gp i,6)=some ↑(st i:Nat)/\W'.cell? (gp i,10)=some ↑(T i)
section
variable {N y nb c:Nat}{gp st:Nat->Nat}{T:Nat->Int}{W:World}
theorem pZ(hX:DMem N y nb c gp st T W)(hN:N<=8)(but:Int):
  Calls Tryz.prog 51 #[↑(y,0),↑but] W λe w'=>∃v,e=.returned v/\OwnsI w' W v (bh st but N)/\Below W W w':=by
 have hcp:=(hX W (ah _ _)).2.1;have hX:=af hX;have hle:=af (ke st but)
 go_enter Tryz.func51,Tryz.ntmps51
 go_wp2_with fail
 go_loopw [5,6] (λv i wr=>∃k:Nat,k<=N/\i=↑k/\OwnsI wr W v (bh st but k)/\Below W W wr) (λ_ i _=>N-(intOf i).toNat)
 case atStart=>exact⟨0,by omega,rfl,by rw[js];exact OwnsI.nil,ah _ _⟩
 case round=>
  obtain⟨k,hk,rfl,ho,hb⟩:=hrel;have x0:=(hX.o _ hb).1;by_cases hlt:k<N
  ·have q1:decide ((k:Int)<(N:Nat))=true:=by simp;omega
   obtain⟨p0,p1,-⟩:=(hX.o _ hb).2.2 k hlt;have k0:decide ((0:Int)<=(k:Nat))=true:=by simp
   have hb:=af hb;have ho:=af ho;have hl:=hle.o k;have cE:=af (jt st but k);have hNo:=af (jx st but k);have hqd:Hid (cC st but k=(st k==4&&mk1 but k==0)):=af rfl;have hqm:Hid (bits BinOp.and IntKind.i64 (but / (2:Int)^k) 1=mk1 but k):=af rfl;by_cases hm:mk1 but k=0
   case neg=>
    have zs:(bits BinOp.and IntKind.i64 (but / (2:Int)^k) 1==0)=false:=by rw[hqm.o,aB];exact hm
    have hF:=af ((hNo.o (by rw[hqd.o];simp[hm])).symm▸ho.o);clear p0 p1;go_wp2_with fail;go_roundw
    case rel=>exact⟨k+1,by omega,by go_num,hF.o,hb.o⟩
    case measure=>simp[intOf];omega
   have zs:bits BinOp.and IntKind.i64 (but / (2:Int)^k) 1=0:=hm;by_cases h4:st k=4
   case neg=>
    have r4:((((st k):Nat):Int)==4)=false:=by rw[aB];omega
    have hF:=af ((hNo.o (by rw[hqd.o];simp[h4])).symm▸ho.o);clear hqm hqd cE hNo;generalize st k=s at *;go_wp2_with fail;go_roundw
    case rel=>exact⟨k+1,by omega,by go_num,hF.o,hb.o⟩
    case measure=>simp[intOf];omega
   rw[h4]at p1;have SH:=af (cE.o (by rw[hqd.o];simp[h4,hm]));clear hNo cE hqd hqm hm;have ho3:=af (ho.o.alloc (.cells #[↑(k:Nat)] 3));have hb3:=af (hb.o.alloc hb.o.size (.cells #[↑(k:Nat)] 3));have kI:=af (tE wr 3 #[↑(k:Nat)] [(k:Int)] rfl (wr.heap.size+1) (cJ _) (by simp[maxLen]) wr 1 1 rfl rfl rfl);have hsz:W.heap.size<=(wr.alloc (.cells #[↑(k:Nat)] 3)).heap.size:=hb3.o.size;have cH:=af ho3.o.lt;clear hb ho;go_wp2_with (at_builtin;go_loud (refine pE _ rfl (.tmp 35) (.tmp 37) 33 rfl W oh Tryz.underlying33 _ (bh st but k) ho3.o rfl _ _ [(k:Int)] rfl kI.o hsz (by simp[maxLen];omega) ?_));intro v4 w4 ho4 hx4;rw[<-SH.o]at ho4;have hb4:=af (hb3.o.trans (hx4.toBelow hsz (λi hi=>(cH.o i hi).1)));have ho4:=af ho4;clear ho3 hb3 kI hx4 cH;go_wp2;go_roundw
   case rel=>exact⟨k+1,by omega,by go_num,ho4.o,hb4.o⟩
   case measure=>simp[intOf];omega
  ·obtain rfl:k=N:=by omega
   have q1:decide ((k:Int)<(k:Nat))=false:=by simp
   go_wp2;go_ret;exact⟨_,rfl,ho,hb⟩
theorem qt(V:Nat->Int×Nat×Nat)(L:List Nat)(h8:L.length<=8)(but:Int)(hX:DMem N y nb c gp st T W)(hl:∀i,i∈L->i<N)
  (ha:Calls Tryz.prog 51 #[↑(y,0),↑but] W λe w'=>∃v,e=.returned v/\OwnsI w' W v (L.map λi=>((i:Nat):Int))/\Below W W w')
  (hvv:∀W',Below W W W'->∀i,i∈L->Calls Tryz.prog 43 #[↑(gp i,0)] W' λe w'=>e=.returned (.agg #[↑(V i).1,↑((V i).2.1:Nat),↑((V i).2.2:Nat)])/\Below W' W' w'):
  Calls Tryz.prog 19 #[↑(y,0),↑but] W λe w'=>e=.returned ↑(aq V L L.length)/\Below W W w':=by
 have hcp:=(hX W (ah _ _)).2.1;replace ha:=af ha;replace hvv:=af hvv;replace hX:=af hX;replace hl:=af hl;by_cases h00:L.length=0
 ·have e0:L=[]:=dx.1 h00
  subst e0
  go_enter Tryz.func19,Tryz.ntmps19
  go_wp2_with fail;refine ha.o.mono ?_;rintro e w1 ⟨v,rfl,ho,b1⟩;obtain⟨A1,c1,rfl,-⟩:=ho.sees.at_;replace b1:=af b1;clear ha ho hvv hX hl;go_wp2_with fail
  go_loopw [6] (λi wr=>i=↑(1:Int)/\Below w1 w1 wr) (λi _=>0)
  case atStart=>exact⟨rfl,ah _ _⟩
  case round=>
   obtain⟨rfl,hb⟩:=hrel;go_wp2;go_ret;exact⟨rfl,b1.o.trans (hb.mono b1.o.size)⟩
 have h0:0<L.length:=by omega
 go_enter Tryz.func19,Tryz.ntmps19
 go_wp2_with fail;refine ha.o.mono ?_;rintro e w1 ⟨v,rfl,ho,b1⟩;obtain⟨g,cc,q,rfl,hc1,hc2,hq,hmem,hcell⟩:=list_form ho h0;unfold maxLen at hc2;replace hmem:=af hmem;replace hcell:=af hcell;replace b1:=af b1;have hF:Hid (∀k,k<L.length->V (q k)≠V (q 0)->aq V L L.length=false):=af λk hk h=>ld V L hk (by rw[hq,hq];exact h);have hM:Hid (∀k,aq V L (k+1)=(aq V L k&&(V (q k)==V (q 0)))):=af λk=>by rw[<-hq k,<-hq 0];simp[aq,cZ,List.all_append]
 have hM1:Hid (aq V L 1=true):=af (by rw[hM.o 0];simp[aq]);clear hq;generalize hK:L.length=M at *;clear ha ho;have hH:Hid (∀W',Below w1 w1 W'->∀k,k<M->W'.cell? (y,0)=some (.slice (some (nb,0)) N c)/\W'.cell? ⟨g,k,none⟩=some ↑(q k:Nat)/\W'.cell? (g,0)=some ↑(q 0:Nat)/\W'.cell? (nb,q k)=some ↑(gp (q k),0)/\W'.cell? (nb,q 0)=some ↑(gp (q 0),0)):=af λW' h k hk=>by
  obtain⟨x0,-,x1⟩:=hX.o _ (b1.o.trans (h.mono b1.o.size));exact⟨x0,hcell.o _ h k hk,hcell.o _ h 0 h0,(x1 _ (hl.o _ (hmem.o k hk))).1,(x1 _ (hl.o _ (hmem.o 0 h0))).1⟩
 have n0:(0:Int)<(M:Nat):=by omega
 have j0:((q 0:Nat):Int)<(N:Nat):=by have:=hl.o _ (hmem.o 0 h0);omega
 go_wp2_with fail
 go_loopw [6] (λi wr=>∃k:Nat,1<=k/\k<=M/\i=↑k/\Hid (aq V L k=true)/\Below w1 w1 wr) (λi _=>M-(intOf i).toNat)
 case atStart=>exact⟨1,by omega,by omega,rfl,hM1,ah _ _⟩
 case round=>
  clear hM1;obtain⟨k,hk1,hk,rfl,hA,hb⟩:=hrel;by_cases hlt:k<M
  ·have q1:decide ((k:Int)<(M:Nat))=true:=by simp;omega
   have S0:=hH.o _ hb.drew k hlt;have i0:((q k:Nat):Int)<(N:Nat):=by have:=hl.o _ (hmem.o k hlt);omega
   have hMk:=af (hM.o k);have v1:=hvv.o _ (b1.o.trans (hb.drew.mono b1.o.size)) _ (hmem.o k hlt);have hvw:=af λW' h=>hvv.o W' h _ (hmem.o 0 h0);replace hb:=af hb;replace hH:=af λW' h=>hH.o W' h k hlt;replace hF:=af (hF.o k hlt);clear hM hmem hcell hvv hX hl;generalize hP:V (q k)=P at *;generalize hQ:V (q 0)=Q at *;generalize q k=i at *;generalize q 0=j at *;generalize gp i=gi at *;generalize gp j=gj at *;by_cases hE:P=Q
   case pos=>
    subst hE;have hA2:=af (show aq V L (k+1)=true by rw[hMk.o,hA.o];simp);obtain⟨p1,p2,p3⟩:=P;replace hvw:=af (by have:=hvw.o;simp only at this;exact this);simp only at v1;replace v1:=af v1;clear hMk hA hP hQ;go_wp2_with fail
    go_region_held3 (λW=>W.cell? (y,0)=some (.slice (some (nb,0)) N c)/\W.cell? (g,k)=some ↑(i:Nat)/\W.cell? (g,0)=some ↑(j:Nat)/\W.cell? (nb,i)=some ↑(gi,0)/\W.cell? (nb,j)=some ↑(gj,0))
     (first|exact S0|exact S1|exact S2)
     (first
      |(go_at_call 43;(first
        |(refine(hvw.o _ (b1.o.trans (b2.o.mono b1.o.size))).mono ?_;rintro e w3 ⟨rfl,d3⟩;have b3:=af (b2.o.trans (d3.mono b2.o.size));have S2:=hH.o _ b3.o)
        |(refine v1.o.mono ?_;rintro e w2 ⟨rfl,d2⟩;have b2:=af (hb.o.drew.trans (d2.mono hb.o.size));have S1:=hH.o _ b2.o)))
      |fail)
    all_goals
     replace b3:=af b3.o;clear S0 S1 S2 v1 hb hvw hH;go_wp2_with fail;go_roundw
     case rel=>exact⟨k+1,by omega,by omega,by go_num,hA2,b3.o⟩
     case measure=>simp[intOf];omega
   replace hF:=hF.o hE;obtain⟨p1,p2,p3⟩:=P;obtain⟨r1,r2,r3⟩:=Q;replace hvw:=af (by have:=hvw.o;simp only at this;exact this);simp only at v1;replace v1:=af v1;clear hMk hA hP hQ;replace hF:=af hF;have hE2:(p1==r1)=false\/((p1=r1/\(((p2:Nat):Int)==(r2:Nat))=false)\/(p1=r1/\p2=r2/\(((p3:Nat):Int)==(r3:Nat))=false)):=mw hE;clear hE;rcases hE2 with z1|⟨rfl,z2⟩|⟨rfl,rfl,z3⟩
   all_goals
    go_wp2_with fail
    go_region_held3 (λW=>W.cell? (y,0)=some (.slice (some (nb,0)) N c)/\W.cell? (g,k)=some ↑(i:Nat)/\W.cell? (g,0)=some ↑(j:Nat)/\W.cell? (nb,i)=some ↑(gi,0)/\W.cell? (nb,j)=some ↑(gj,0))
     (first|exact S0|exact S1|exact S2)
     (first
      |(go_at_call 43;(first
        |(refine(hvw.o _ (b1.o.trans (b2.o.mono b1.o.size))).mono ?_;rintro e w3 ⟨rfl,d3⟩;have b3:=af (b2.o.trans (d3.mono b2.o.size));have S2:=hH.o _ b3.o)
        |(refine v1.o.mono ?_;rintro e w2 ⟨rfl,d2⟩;have b2:=af (hb.o.drew.trans (d2.mono hb.o.size));have S1:=hH.o _ b2.o)))
      |fail)
    all_goals
     replace b3:=af b3.o;clear S0 S1 S2 v1 hb hvw hH;go_wp2_with fail;go_ret;exact⟨by rw[hK,hF.o];rfl,b1.o.trans (b3.o.mono b1.o.size)⟩
  ·obtain rfl:k=M:=by omega
   have q1:decide ((k:Int)<(k:Nat))=false:=by simp
   go_wp2;go_ret;exact⟨by rw[hK,hA.o];rfl,b1.o.trans (hb.mono b1.o.size)⟩
end
end
section
set_option maxRecDepth 100000
set_option maxHeartbeats 4000000
open Go.RowKit
theorem dspread_u{N y nb c:Nat}{gp st:Nat->Nat}{T:Nat->Int}{W:World}(L:List Nat)(h8:L.length<=8)(but:Int)(hX:DMem N y nb c gp st T W)(hl:∀i,i∈L->i<N)
  (ha:Calls Tryz.prog 51 #[↑(y,0),↑but] W λe w'=>∃v,e=.returned v/\OwnsI w' W v (L.map λi=>((i:Nat):Int))/\Below W W w'):
  Calls Tryz.prog 21 #[↑(y,0),↑but] W λe w'=>e=.returned ↑(spV T L)/\Below W W w':=by
 have hcp:=(hX W (ah _ _)).2.1;replace ha:=af ha;replace hX:=af hX;replace hl:=af hl;by_cases h00:L.length<2
 ·have es:Hid (spV T L=0):=af (au h00)
  have hw:Hid (∀w' v,OwnsI w' W v (L.map λi=>((i:Nat):Int))->∃A c1,v=.slice A L.length c1):=af λw' v ho=>by
   obtain⟨A1,c1,rfl,-⟩:=ho.sees.at_;exact⟨A1,c1,by rw[dQ]⟩
  have r0:decide (((L.length:Nat):Int)<2)=true:=av (by omega);generalize L.length=M at *
  go_enter Tryz.func21,Tryz.ntmps21
  go_wp2_with fail;refine ha.o.mono ?_;rintro e w1 ⟨v,rfl,ho,b1⟩;obtain⟨A1,c1,rfl⟩:=hw.o _ _ ho;replace b1:=af b1;clear ha ho hX hl hw;go_wp2_with fail;go_ret;exact⟨by rw[es.o];rfl,b1.o⟩
 have h0:0<L.length:=by omega
 have es:=af (spV_pos T L h0);have r0:decide (((L.length:Nat):Int)<2)=false:=aj (by omega)
 go_enter Tryz.func21,Tryz.ntmps21
 go_wp2_with fail;refine ha.o.mono ?_;rintro e w1 ⟨v,rfl,ho,b1⟩;obtain⟨g,cc,q,rfl,hc1,hc2,hq,hmem,hcell⟩:=list_form ho h0;unfold maxLen at hc2;replace hmem:=af hmem;replace hcell:=af hcell;replace b1:=af b1;have hX1:Hid (∀k,mxM T L (k+1)=if mxM T L k<T (q k)then T (q k)else mxM T L k):=af λk=>by rw[<-hq];rfl
 have hY1:Hid (∀k,mnM T L (k+1)=if T (q k)<mnM T L k then T (q k)else mnM T L k):=af λk=>by rw[<-hq];rfl
 have hX0:Hid (mxM T L 1=T (q 0)):=af (by rw[hX1.o 0,show mxM T L 0=T (q 0) by rw[<-hq];rfl];simp);have hY0:Hid (mnM T L 1=T (q 0)):=af (by rw[hY1.o 0,show mnM T L 0=T (q 0) by rw[<-hq];rfl];simp);clear hq;generalize hK:L.length=M at *;replace hK:=af hK;clear ha ho;have hH:Hid (∀W',Below w1 w1 W'->∀k,k<M->W'.cell? (y,0)=some (.slice (some (nb,0)) N c)/\W'.cell? ⟨g,k,none⟩=some ↑(q k:Nat)/\W'.cell? (nb,q k)=some ↑(gp (q k),0)/\W'.cell? (gp (q k),10)=some ↑(T (q k))):=af λW' h k hk=>by
  obtain⟨x0,-,x1⟩:=hX.o _ (b1.o.trans (h.mono b1.o.size));obtain⟨y1,-,y2⟩:=x1 _ (hl.o _ (hmem.o k hk));exact⟨x0,hcell.o _ h k hk,y1,y2⟩
 have n0:(0:Int)<(M:Nat):=by omega
 have j0:((q 0:Nat):Int)<(N:Nat):=by have:=hl.o _ (hmem.o 0 h0);omega
 have S0:=hH.o _ (ah _ w1).drew 0 h0;go_wp2_with fail
 go_region_held3 (λW=>W.cell? (y,0)=some (.slice (some (nb,0)) N c)/\W.cell? (g,0)=some ↑(q 0:Nat)/\W.cell? (nb,q 0)=some ↑(gp (q 0),0)/\W.cell? (gp (q 0),10)=some ↑(T (q 0))) (first|exact S0) (fail)
 clear S0;go_wp2_with fail
 go_loopw [6,7,8] (λl m i wr=>∃k:Nat,1<=k/\k<=M/\i=↑k/\m=↑(mxM T L k)/\l=↑(mnM T L k)/\Below w1 w1 wr) (λ_ _ i _=>M-(intOf i).toNat)
 case atStart=>exact⟨1,by omega,by omega,rfl,by rw[hX0.o],by rw[hY0.o],(ah _ _).drew⟩
 case round=>
  obtain⟨k,hk1,hk,rfl,rfl,rfl,hb⟩:=hrel;by_cases hlt:k<M
  ·have q1:decide ((k:Int)<(M:Nat))=true:=by simp;omega
   have S0:=hH.o _ hb.drew k hlt;have i0:((q k:Nat):Int)<(N:Nat):=by have:=hl.o _ (hmem.o k hlt);omega
   have hXk:=hX1.o k;have hYk:=hY1.o k;replace hb:=af hb.drew;clear hH hX hX1 hY1 hcell hmem hX0 hY0 es;generalize mxM T L k=p at *;generalize mnM T L k=r at *;generalize T (q k)=t at *;generalize q k=i at *;generalize gp i=gi at *;have hx:(p<t/\decide (p<t)=true/\Hid (mxM T L (k+1)=t))\/(¬p<t/\decide (p<t)=false/\Hid (mxM T L (k+1)=p)):=by
    by_cases h:p<t
    ·exact .inl ⟨h,av h,af (by rw[hXk,au h])⟩
    ·exact .inr ⟨h,aj h,af (by rw[hXk,ai h])⟩
   have hy:(t<r/\decide (t<r)=true/\Hid (mnM T L (k+1)=t))\/(¬t<r/\decide (t<r)=false/\Hid (mnM T L (k+1)=r)):=by
    by_cases h:t<r
    ·exact .inl ⟨h,av h,af (by rw[hYk,au h])⟩
    ·exact .inr ⟨h,aj h,af (by rw[hYk,ai h])⟩
   clear hXk hYk;rcases hx with⟨r0',r1,hP⟩|⟨r0',r1,hP⟩<;>rcases hy with⟨r3,r2,hQ⟩|⟨r3,r2,hQ⟩
   all_goals
    go_wp2_with fail
    go_region_held3 (λW=>W.cell? (y,0)=some (.slice (some (nb,0)) N c)/\W.cell? (g,k)=some ↑(i:Nat)/\W.cell? (nb,i)=some ↑(gi,0)/\W.cell? (gi,10)=some ↑t) (first|exact S0) (fail)
    all_goals
     clear S0
     try go_wp2_with fail
     go_roundw
     case rel=>exact⟨k+1,by omega,by omega,by go_num,by first|(rw[hP.o];done)|(rw[ai (by omega),hP.o];done),by first|(rw[hQ.o];done)|(rw[ai (by omega),hQ.o];done),hb.o⟩
     case measure=>simp[intOf];omega
  ·obtain rfl:k=M:=by omega
   have q1:decide ((k:Int)<(k:Nat))=false:=by simp
   go_wp2;go_ret;exact⟨by rw[es.o];rfl,b1.o.trans (hb.mono b1.o.size)⟩
end
end Go.Proofs.YteadkhigkmijiaaGreat
