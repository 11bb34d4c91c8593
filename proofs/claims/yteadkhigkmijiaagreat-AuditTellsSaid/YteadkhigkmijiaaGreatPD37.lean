/- Texts QmG in one. -/
import Derived.Deep.RegionWith
import Derived.Test.YteadkhigkmijiaaGreatPD1
import Derived.Test.YteadkhigkmijiaaGreatPD34
import Derived.Test.YteadkhigkmijiaaGreatPD36
set_option linter.all false
namespace Go.Proofs.YteadkhigkmijiaaGreat
section
set_option maxRecDepth 100000
set_option maxHeartbeats 8000000
open Go.RowKit
def Air.ch(x:Air)(N:Nat)(s:G)(c:Nat):ChR:=chan N (λi=>rn (x.s i).b) (λi=>(x.s i).row) (fst (x.jR N) N) (s.pass (x.jR N) λi=>(x.s i).at_) (x.bl c) (x.lk c)
def ChP(C:ChR)(f s:Bool)(w:World)(e:Ending)(w':World):Prop:=∃u,e=.returned (.tuple #[u,↑C.p])/\jN w' u C.n (λk=>pf f (C.q k)) (λk=>pf s (C.q k))/\Below w w w'
theorem nP(f:Bool)(a b:Int):pf f a+pf f b=pf f (a+b):=by
 unfold pf
 split
 ·rfl
 ·rfl
theorem Dx(x:Air)(N i:Nat)(hi:i<N):x.jR N i=decide (0<(x.s i).b.length):=by unfold Air.jR;rw[av hi,cK]
theorem Dy(x:Db)(h:¬0<x.b.length):rn x.b=0/\∀k,x.row k=0:=by
 have e:rn x.b=0:=by unfold rn;omega
 exact⟨e,λk=>qZ x k (by omega)⟩
theorem Nj(Q:GS)(g g0 g1 ab:Nat)(t:Tb.T)(s:G)(V:Nat->Value)(x:Air)(w:World)(hS:Blk w g #[↑(g0,0),↑(g1,0)] 144)(hG:RG Q w g0 t s)(hA:jF w ab V x)(h8:t.ns.length<=8)(hs:s.slot<t.ns.length)(jz:time s.now)(hat:∀i,i<8->time (x.s i).at_)(hwi:0<=s.wi/\s.wi<=2305843009213693952):
  Calls Tryz.prog 119 #[↑(g,0),↑(ab,0),↑(0:Int)] w (ChP (x.ch t.ns.length s 0) true false w):=by
 have HW:=λW(hW:Below w w W)=>af (Dr ab V x t.ns.length W (hA.below hW) h8);have HP:=λW(hW:Below w w W)=>af (Dj Q g0 t s (x.jR t.ns.length) (λi=>(x.s i).at_) W (hG.below hW) h8 hs jz (hat _ (by omega)) hwi);have hsn:s.n=t.ns.length:=by obtain⟨-,hg⟩:=hG;exact hg.n
 have hpr:=qc s (x.jR t.ns.length) (λi=>(x.s i).at_) (by rw[hsn];exact hs);rw[hsn]at hpr;obtain⟨⟨sl,si,L,hC,-⟩,-⟩:=hG;obtain⟨An,cn,n0,-⟩:=hC.c0;have s0:=hS.cell 0 (x:=↑(g0,0)) rfl;have b0:=hA.blk.cell (24+0) (wU V x 0 (by omega));have l0:=hA.blk.cell (26+0) (wV V x 0 (by omega));have HD:Hid (∀W,Below w w W->(∀i,i<8->∃A c,V i=.slice A (x.s i).b.length c/\W.cell? ⟨ab,i,none⟩=some (.slice A (x.s i).b.length c)/\iI W W (.slice A (x.s i).b.length c) (x.s i).b)/\(∀i,i<8->W.cell? (ab,8+i)=some ↑(x.s i).at_)/\W.cell? (g,0)=some ↑(g0,0)):=af λW hW=>by
  have hA2:=hA.below hW;refine⟨λi hi=>?_,λi hi=>hA2.blk.cell (8+i) (nA V x i hi),(hS.below hW hS.lt).cell 0 rfl⟩;obtain⟨A,c,e⟩:=hA2.form hi;have hd:=(hA2.dat i hi).1;rw[e]at hd;exact⟨A,c,e,e▸hA2.blk.cell i (nN V x i hi),hd⟩
 have HS:Hid (∀W,Below w w W->W.cell? (g,0)=some ↑(g0,0)/\W.cell? (ab,8)=some ↑(x.s 0).at_/\W.cell? (ab,9)=some ↑(x.s 1).at_/\W.cell? (ab,10)=some ↑(x.s 2).at_/\W.cell? (ab,11)=some ↑(x.s 3).at_/\W.cell? (ab,12)=some ↑(x.s 4).at_/\W.cell? (ab,13)=some ↑(x.s 5).at_/\W.cell? (ab,14)=some ↑(x.s 6).at_/\W.cell? (ab,15)=some ↑(x.s 7).at_):=af λW hW=>by
  obtain⟨-,hd,z1⟩:=HD.o W hW;exact⟨z1,hd 0 (by omega),hd 1 (by omega),hd 2 (by omega),hd 3 (by omega),hd 4 (by omega),hd 5 (by omega),hd 6 (by omega),hd 7 (by omega)⟩
 have hok:=hA.ok;clear hS hC hA hat jz hwi;unfold ChP;have hF:∀i,i<t.ns.length->x.jR t.ns.length i=decide (0<(x.s i).b.length):=λi hi=>Dx x _ i hi;obtain⟨C,hCe⟩:∃C,x.ch t.ns.length s 0=C:=⟨_,rfl⟩;rw[hCe];unfold Air.ch chan at hCe;unfold kZ at HW HP;unfold jK at HP;generalize hN:t.ns.length=N at *;generalize hff:x.jR N=ff at *;generalize hp:s.pass ff (λi=>(x.s i).at_)=p at *;clear hp hff
 cases hbl:x.bl 0
 case true=>
  rw[hbl]at b0 hCe;rw[au rfl]at hCe;subst hCe;clear HW HP HD
  go_enter Tryz.func119,Tryz.ntmps119
  go_wp2_with fail;go_ret2;exact⟨_,rfl,jN.nil _ _ _ (λk=>⟨kQ _ _ _ (by decide),kQ _ _ _ (by decide)⟩),ah _ _⟩
 rw[hbl]at b0 hCe;rw[ai (by decide)]at hCe
 cases hlk:x.lk 0
 case false=>
  rw[hlk]at l0 hCe;rw[ai (by decide)]at hCe;have hb0:=ah w w;rcases hpr with rfl|⟨j,rfl,hj,hfj⟩
  ·rw[au (by decide)]at hCe
   subst hCe
   go_enter Tryz.func119,Tryz.ntmps119
   go_wp2_with fail;have S0:=af (HS.o _ hb0.drew)
   go_region_held3 (λW=>W.cell? (g,0)=some ↑(g0,0)/\W.cell? (ab,8)=some ↑(x.s 0).at_/\W.cell? (ab,9)=some ↑(x.s 1).at_/\W.cell? (ab,10)=some ↑(x.s 2).at_/\W.cell? (ab,11)=some ↑(x.s 3).at_/\W.cell? (ab,12)=some ↑(x.s 4).at_/\W.cell? (ab,13)=some ↑(x.s 5).at_/\W.cell? (ab,14)=some ↑(x.s 6).at_/\W.cell? (ab,15)=some ↑(x.s 7).at_) ((first|exact S0.o|exact S1.o|exact S2.o))
    (first
    |(go_at_call 176;refine(HW w.drew hb0.drew).o.mono ?_;rintro e w5 ⟨rfl,hb5⟩;(have hB5:=hb0.drew.trans hb5);(have S1:=af (HS.o _ hB5)))
    |(go_at_call 175;refine(HP w5 hB5).o.mono ?_;rintro e w6 ⟨rfl,hb6⟩;(have hB6:=hB5.trans (hb6.mono hB5.size));(have S2:=af (HS.o _ hB6)))
    |fail)
   all_goals
    clear HW HP HD;go_wp2_with fail;go_ret2;exact⟨_,rfl,jN.nil _ _ _ (λk=>⟨kQ _ _ _ (by decide),kQ _ _ _ (by decide)⟩),hB6⟩
  ·rw[ai (by omega),aQ]at hCe
   subst hCe;have HDr:=λW(hW:Below w w W)=>af (λ(v:Value)(hv:iI W W v (x.s j).b)=>tT (x.s j) v true false W hv (hok.s j))
   go_enter Tryz.func119,Tryz.ntmps119
   go_wp2_with fail;have S0:=af (HS.o _ hb0.drew)
   go_region_held3 (λW=>W.cell? (g,0)=some ↑(g0,0)/\W.cell? (ab,8)=some ↑(x.s 0).at_/\W.cell? (ab,9)=some ↑(x.s 1).at_/\W.cell? (ab,10)=some ↑(x.s 2).at_/\W.cell? (ab,11)=some ↑(x.s 3).at_/\W.cell? (ab,12)=some ↑(x.s 4).at_/\W.cell? (ab,13)=some ↑(x.s 5).at_/\W.cell? (ab,14)=some ↑(x.s 6).at_/\W.cell? (ab,15)=some ↑(x.s 7).at_) ((first|exact S0.o|exact S1.o|exact S2.o))
    (first
    |(go_at_call 176;refine(HW w.drew hb0.drew).o.mono ?_;rintro e w5 ⟨rfl,hb5⟩;(have hB5:=hb0.drew.trans hb5);(have S1:=af (HS.o _ hB5)))
    |(go_at_call 175;refine(HP w5 hB5).o.mono ?_;rintro e w6 ⟨rfl,hb6⟩;(have hB6:=hB5.trans (hb6.mono hB5.size));(have S2:=af (HS.o _ hB6)))
    |fail)
   all_goals
    obtain⟨hv,-,-⟩:=HD.o w6 hB6;obtain⟨Aj,cj,-,vj,sj⟩:=hv j (by omega);have hDr:=af ((HDr w6 hB6).o _ sj);have hj8:(j:Int)<8:=by omega
    clear HW HP HD HDr hv sj;go_wp2_with fail;refine hDr.o.mono ?_;rintro e w7 ⟨u,rfl,hu,hb7⟩;have hu:=af hu;have hB7:=af (hB6.trans (hb7.mono hB6.size));clear hDr;go_wp2_with fail;go_ret2;exact⟨_,rfl,hu.o,hB7.o⟩
 rw[hlk]at l0 hCe;rw[au rfl]at hCe;have hst:=λk=>af (q9 ff k);have hfr:=λk=>af (qd ff k);have HDr:=λW(hW:Below w w W)(i:Nat)(hi:i<8)=>af (λ(v:Value)(hv:iI W W v (x.s i).b)=>tT (x.s i) v true false W hv (hok.s i));have HB:=af (aL (λ(i k:Nat)(hi:k<=8)=>aW (tX (f:=λi=>(x.s i).row) (j:=i) (k:=k) λi' _=>(x.s i').tV i) hi) (aL (λ(i k:Nat)(h:jw (λi=>rn (x.s i).b) k<=i)=>wZ (n:=λi=>rn (x.s i).b) (f:=λi=>(x.s i).row) (j:=i) (k:=k) (λi' h'=>qZ (x.s i') i h') h) λ(i k:Nat)(h:rn (x.s k).b<=i)=>qZ (x.s k) i h));have HE:=λi=>af (Dy (x.s i));subst hCe;have l0:Hid (jN w (.slice none 0 0) 0 (λk=>pf true (iU (λi=>(x.s i).row) k 0)) (λk=>pf false (iU (λi=>(x.s i).row) k 0))):=af (jN.nil _ _ _ λk=>⟨kQ _ _ _ (by simp[iU]),kQ _ _ _ (by simp[iU])⟩);clear HW HP hpr
 go_enter Tryz.func119,Tryz.ntmps119
 go_wp2_with fail
 go_loopw [10,11,12] (λr i11 i12 wr=>∃k:Nat,k<=N/\i12=↑k/\i11=↑(fst ff k)/\jN wr r (jw (λi=>rn (x.s i).b) k) (λj=>pf true (iU (λi=>(x.s i).row) j k)) (λj=>pf false (iU (λi=>(x.s i).row) j k))/\Below w w wr) (λ_ _ i12 _=>N-(intOf i12).toNat)
 case atStart=>exact⟨0,by omega,rfl,rfl,l0.o,ah _ _⟩
 case round=>
  obtain⟨k,hk,rfl,rfl,hr,hb⟩:=hrel;by_cases hlt:k<N
  ·have q1:decide ((k:Int)<((N:Nat):Int))=true:=av (by omega)
   have k8:(k:Int)<8:=by omega
   obtain⟨hv,-,-⟩:=HD.o wr hb;obtain⟨Ak,ck,-,vk,sk⟩:=hv k (by omega);have hfk:=hF k hlt;have hsk:=(hst k).o;have hDr:=af ((HDr wr hb k (by omega)).o _ sk);have hEk:=HE k;have hrk:=(hfr k).o;clear hv HDr sk hF hst hfr HE HD l0;by_cases h0:0<(x.s k).b.length
   ·have q2:decide ((0:Int)<(((x.s k).b.length:Nat):Int))=true:=av (by omega)
    rw[av h0]at hfk;rw[hfk,au rfl]at hsk;clear hEk;have e1:(λj=>pf true (iU (λi=>(x.s i).row) j k)+pf true ((x.s k).row j))=λj=>pf true (iU (λi=>(x.s i).row) j (k+1)):=funext λj=>nP _ _ _;have e2:(λj=>pf false (iU (λi=>(x.s i).row) j k)+pf false ((x.s k).row j))=λj=>pf false (iU (λi=>(x.s i).row) j (k+1)):=funext λj=>nP _ _ _;have hM:Hid (∀(W:World)(u:Value),Below wr wr W->jN W u (rn (x.s k).b) (λj=>pf true ((x.s k).row j)) (λj=>pf false ((x.s k).row j))->Calls Tryz.prog 121 #[u10,u] W λe w'=>∃v,e=.returned v/\jN w' v (jw (λi=>rn (x.s i).b) (k+1)) (λj=>pf true (iU (λi=>(x.s i).row) j (k+1))) (λj=>pf false (iU (λi=>(x.s i).row) j (k+1)))/\Below W W w'):=af λW u hW hu=>by
     rw[<-e1,<-e2];refine wY u10 u _ _ _ _ _ _ W (hr.below hW) hu (λj h=>?_) (λj h=>?_) (λj=>?_)
     ·have e:=HB.o.2.1 j k h
      simp only[e,pf];exact⟨by split<;>rfl,by split<;>rfl⟩
     ·have e:=HB.o.2.2 j k h
      simp only[e,pf];exact⟨by split<;>rfl,by split<;>rfl⟩
     ·rw[show pf true (iU (λi=>(x.s i).row) j k)+pf true ((x.s k).row j)=pf true (iU (λi=>(x.s i).row) j (k+1))from nP _ _ _,show pf false (iU (λi=>(x.s i).row) j k)+pf false ((x.s k).row j)=pf false (iU (λi=>(x.s i).row) j (k+1))from nP _ _ _]
      exact⟨kQ _ _ _ (HB.o.1 j (k+1) (by omega)),kQ _ _ _ (HB.o.1 j (k+1) (by omega))⟩
    clear e1 e2 hr HB;rcases hrk with e|⟨j,e,hj,-⟩
    all_goals
     rw[e]at hsk ⊢
     first
      |rw[au (by decide)]at hsk
      |rw[ai (by omega)]at hsk
     have hsk:=af hsk
     first
      |have i1:¬((j:Int)<0):=by omega
      |skip
     go_wp2_with fail;refine hDr.o.mono ?_;rintro e w2 ⟨u,rfl,hu,hb2⟩;have hMx:=af (hM.o w2 u hb2 hu);have hb3:=hb.trans (hb2.mono hb.size);clear hu hM hDr;go_wp2_with fail;refine hMx.o.mono ?_;rintro e w3 ⟨u3,rfl,hu3,hb4⟩;have hu3:=af hu3;have hb5:=af (hb3.trans (hb4.mono hb3.size));clear hMx;go_wp2_with fail;go_roundw
     case rel=>exact⟨k+1,by omega,by go_num,by rw[hsk.o],hu3.o,hb5.o⟩
     case measure=>simp[intOf];omega
   ·have q2:decide ((0:Int)<(((x.s k).b.length:Nat):Int))=false:=aj (by omega)
    rw[aj h0]at hfk;rw[hfk]at hsk;simp only[bA,dB]at hsk;obtain⟨en,eq⟩:=hEk.o h0;have hr2:Hid (jN wr u10 (jw (λi=>rn (x.s i).b) (k+1)) (λj=>pf true (iU (λi=>(x.s i).row) j (k+1))) (λj=>pf false (iU (λi=>(x.s i).row) j (k+1)))):=af (by
     have e0:jw (λi=>rn (x.s i).b) (k+1)=jw (λi=>rn (x.s i).b) k:=by
      show max (jw (λi=>rn (x.s i).b) k) (rn (x.s k).b)=_;rw[en];exact Nat.max_eq_left (bH _)
     have e1:∀j,iU (λi=>(x.s i).row) j (k+1)=iU (λi=>(x.s i).row) j k:=λj=>by
      show iU (λi=>(x.s i).row) j k+(x.s k).row j=_;rw[eq j];omega
     rw[e0];simp only[e1];exact hr)
    have hsk:fst ff (k+1)=fst ff k:=by
     rcases hrk with e|⟨j,e,-⟩
     ·rw[hsk,e,au (by decide)]
     ·rw[hsk,e,ai (by omega)]
    have hsk:=af hsk;clear hr hDr hEk hrk eq;go_wp2_with fail;go_roundw
    case rel=>exact⟨k+1,by omega,by go_num,by rw[hsk.o],hr2.o,hb⟩
    case measure=>simp[intOf];omega
  ·obtain rfl:k=N:=by omega
   have q1:decide ((k:Int)<((k:Nat):Int))=false:=aj (by omega);have hr2:=af hr;clear hr HDr HD hF hst hfr HE l0 HB;go_wp2_with fail;go_ret2;exact⟨_,rfl,hr2.o,hb⟩
theorem Nk(Q:GS)(g g0 g1 ab:Nat)(t:Tb.T)(s:G)(V:Nat->Value)(x:Air)(w:World)(hS:Blk w g #[↑(g0,0),↑(g1,0)] 144)(hG:RG Q w g1 t s)(hA:jF w ab V x)(h8:t.ns.length<=8)(hs:s.slot<t.ns.length)(jz:time s.now)(hat:∀i,i<8->time (x.s i).at_)(hwi:0<=s.wi/\s.wi<=2305843009213693952):
  Calls Tryz.prog 119 #[↑(g,0),↑(ab,0),↑(1:Int)] w (ChP (x.ch t.ns.length s 1) false true w):=by
 have HW:=λW(hW:Below w w W)=>af (Dr ab V x t.ns.length W (hA.below hW) h8);have HP:=λW(hW:Below w w W)=>af (Dj Q g1 t s (x.jR t.ns.length) (λi=>(x.s i).at_) W (hG.below hW) h8 hs jz (hat _ (by omega)) hwi);have hsn:s.n=t.ns.length:=by obtain⟨-,hg⟩:=hG;exact hg.n
 have hpr:=qc s (x.jR t.ns.length) (λi=>(x.s i).at_) (by rw[hsn];exact hs);rw[hsn]at hpr;obtain⟨⟨sl,si,L,hC,-⟩,-⟩:=hG;obtain⟨An,cn,n0,-⟩:=hC.c0;have s1:=hS.cell 1 (x:=↑(g1,0)) rfl;have b1:=hA.blk.cell (24+1) (wU V x 1 (by omega));have l1:=hA.blk.cell (26+1) (wV V x 1 (by omega));have HD:Hid (∀W,Below w w W->(∀i,i<8->∃A c,V i=.slice A (x.s i).b.length c/\W.cell? ⟨ab,i,none⟩=some (.slice A (x.s i).b.length c)/\iI W W (.slice A (x.s i).b.length c) (x.s i).b)/\(∀i,i<8->W.cell? (ab,8+i)=some ↑(x.s i).at_)/\W.cell? (g,1)=some ↑(g1,0)):=af λW hW=>by
  have hA2:=hA.below hW;refine⟨λi hi=>?_,λi hi=>hA2.blk.cell (8+i) (nA V x i hi),(hS.below hW hS.lt).cell 1 rfl⟩;obtain⟨A,c,e⟩:=hA2.form hi;have hd:=(hA2.dat i hi).1;rw[e]at hd;exact⟨A,c,e,e▸hA2.blk.cell i (nN V x i hi),hd⟩
 have HS:Hid (∀W,Below w w W->W.cell? (g,1)=some ↑(g1,0)/\W.cell? (ab,8)=some ↑(x.s 0).at_/\W.cell? (ab,9)=some ↑(x.s 1).at_/\W.cell? (ab,10)=some ↑(x.s 2).at_/\W.cell? (ab,11)=some ↑(x.s 3).at_/\W.cell? (ab,12)=some ↑(x.s 4).at_/\W.cell? (ab,13)=some ↑(x.s 5).at_/\W.cell? (ab,14)=some ↑(x.s 6).at_/\W.cell? (ab,15)=some ↑(x.s 7).at_):=af λW hW=>by
  obtain⟨-,hd,z1⟩:=HD.o W hW;exact⟨z1,hd 0 (by omega),hd 1 (by omega),hd 2 (by omega),hd 3 (by omega),hd 4 (by omega),hd 5 (by omega),hd 6 (by omega),hd 7 (by omega)⟩
 have hok:=hA.ok;clear hS hC hA hat jz hwi;unfold ChP;have hF:∀i,i<t.ns.length->x.jR t.ns.length i=decide (0<(x.s i).b.length):=λi hi=>Dx x _ i hi;obtain⟨C,hCe⟩:∃C,x.ch t.ns.length s 1=C:=⟨_,rfl⟩;rw[hCe];unfold Air.ch chan at hCe;unfold kZ at HW HP;unfold jK at HP;generalize hN:t.ns.length=N at *;generalize hff:x.jR N=ff at *;generalize hp:s.pass ff (λi=>(x.s i).at_)=p at *;clear hp hff
 cases hbl:x.bl 1
 case true=>
  rw[hbl]at b1 hCe;rw[au rfl]at hCe;subst hCe;clear HW HP HD
  go_enter Tryz.func119,Tryz.ntmps119
  go_wp2_with fail;go_ret2;exact⟨_,rfl,jN.nil _ _ _ (λk=>⟨kQ _ _ _ (by decide),kQ _ _ _ (by decide)⟩),ah _ _⟩
 rw[hbl]at b1 hCe;rw[ai (by decide)]at hCe
 cases hlk:x.lk 1
 case false=>
  rw[hlk]at l1 hCe;rw[ai (by decide)]at hCe;have hb0:=ah w w;rcases hpr with rfl|⟨j,rfl,hj,hfj⟩
  ·rw[au (by decide)]at hCe
   subst hCe
   go_enter Tryz.func119,Tryz.ntmps119
   go_wp2_with fail;have S0:=af (HS.o _ hb0.drew)
   go_region_held3 (λW=>W.cell? (g,1)=some ↑(g1,0)/\W.cell? (ab,8)=some ↑(x.s 0).at_/\W.cell? (ab,9)=some ↑(x.s 1).at_/\W.cell? (ab,10)=some ↑(x.s 2).at_/\W.cell? (ab,11)=some ↑(x.s 3).at_/\W.cell? (ab,12)=some ↑(x.s 4).at_/\W.cell? (ab,13)=some ↑(x.s 5).at_/\W.cell? (ab,14)=some ↑(x.s 6).at_/\W.cell? (ab,15)=some ↑(x.s 7).at_) ((first|exact S0.o|exact S1.o|exact S2.o))
    (first
    |(go_at_call 176;refine(HW w.drew hb0.drew).o.mono ?_;rintro e w5 ⟨rfl,hb5⟩;(have hB5:=hb0.drew.trans hb5);(have S1:=af (HS.o _ hB5)))
    |(go_at_call 175;refine(HP w5 hB5).o.mono ?_;rintro e w6 ⟨rfl,hb6⟩;(have hB6:=hB5.trans (hb6.mono hB5.size));(have S2:=af (HS.o _ hB6)))
    |fail)
   all_goals
    clear HW HP HD;go_wp2_with fail;go_ret2;exact⟨_,rfl,jN.nil _ _ _ (λk=>⟨kQ _ _ _ (by decide),kQ _ _ _ (by decide)⟩),hB6⟩
  ·rw[ai (by omega),aQ]at hCe
   subst hCe;have HDr:=λW(hW:Below w w W)=>af (λ(v:Value)(hv:iI W W v (x.s j).b)=>tT (x.s j) v false true W hv (hok.s j))
   go_enter Tryz.func119,Tryz.ntmps119
   go_wp2_with fail;have S0:=af (HS.o _ hb0.drew)
   go_region_held3 (λW=>W.cell? (g,1)=some ↑(g1,0)/\W.cell? (ab,8)=some ↑(x.s 0).at_/\W.cell? (ab,9)=some ↑(x.s 1).at_/\W.cell? (ab,10)=some ↑(x.s 2).at_/\W.cell? (ab,11)=some ↑(x.s 3).at_/\W.cell? (ab,12)=some ↑(x.s 4).at_/\W.cell? (ab,13)=some ↑(x.s 5).at_/\W.cell? (ab,14)=some ↑(x.s 6).at_/\W.cell? (ab,15)=some ↑(x.s 7).at_) ((first|exact S0.o|exact S1.o|exact S2.o))
    (first
    |(go_at_call 176;refine(HW w.drew hb0.drew).o.mono ?_;rintro e w5 ⟨rfl,hb5⟩;(have hB5:=hb0.drew.trans hb5);(have S1:=af (HS.o _ hB5)))
    |(go_at_call 175;refine(HP w5 hB5).o.mono ?_;rintro e w6 ⟨rfl,hb6⟩;(have hB6:=hB5.trans (hb6.mono hB5.size));(have S2:=af (HS.o _ hB6)))
    |fail)
   all_goals
    obtain⟨hv,-,-⟩:=HD.o w6 hB6;obtain⟨Aj,cj,-,vj,sj⟩:=hv j (by omega);have hDr:=af ((HDr w6 hB6).o _ sj);have hj8:(j:Int)<8:=by omega
    clear HW HP HD HDr hv sj;go_wp2_with fail;refine hDr.o.mono ?_;rintro e w7 ⟨u,rfl,hu,hb7⟩;have hu:=af hu;have hB7:=af (hB6.trans (hb7.mono hB6.size));clear hDr;go_wp2_with fail;go_ret2;exact⟨_,rfl,hu.o,hB7.o⟩
 rw[hlk]at l1 hCe;rw[au rfl]at hCe;have hst:=λk=>af (q9 ff k);have hfr:=λk=>af (qd ff k);have HDr:=λW(hW:Below w w W)(i:Nat)(hi:i<8)=>af (λ(v:Value)(hv:iI W W v (x.s i).b)=>tT (x.s i) v false true W hv (hok.s i));have HB:=af (aL (λ(i k:Nat)(hi:k<=8)=>aW (tX (f:=λi=>(x.s i).row) (j:=i) (k:=k) λi' _=>(x.s i').tV i) hi) (aL (λ(i k:Nat)(h:jw (λi=>rn (x.s i).b) k<=i)=>wZ (n:=λi=>rn (x.s i).b) (f:=λi=>(x.s i).row) (j:=i) (k:=k) (λi' h'=>qZ (x.s i') i h') h) λ(i k:Nat)(h:rn (x.s k).b<=i)=>qZ (x.s k) i h));have HE:=λi=>af (Dy (x.s i));subst hCe;have l0:Hid (jN w (.slice none 0 0) 0 (λk=>pf false (iU (λi=>(x.s i).row) k 0)) (λk=>pf true (iU (λi=>(x.s i).row) k 0))):=af (jN.nil _ _ _ λk=>⟨kQ _ _ _ (by simp[iU]),kQ _ _ _ (by simp[iU])⟩);clear HW HP hpr
 go_enter Tryz.func119,Tryz.ntmps119
 go_wp2_with fail
 go_loopw [10,11,12] (λr i11 i12 wr=>∃k:Nat,k<=N/\i12=↑k/\i11=↑(fst ff k)/\jN wr r (jw (λi=>rn (x.s i).b) k) (λj=>pf false (iU (λi=>(x.s i).row) j k)) (λj=>pf true (iU (λi=>(x.s i).row) j k))/\Below w w wr) (λ_ _ i12 _=>N-(intOf i12).toNat)
 case atStart=>exact⟨0,by omega,rfl,rfl,l0.o,ah _ _⟩
 case round=>
  obtain⟨k,hk,rfl,rfl,hr,hb⟩:=hrel;by_cases hlt:k<N
  ·have q1:decide ((k:Int)<((N:Nat):Int))=true:=av (by omega)
   have k8:(k:Int)<8:=by omega
   obtain⟨hv,-,-⟩:=HD.o wr hb;obtain⟨Ak,ck,-,vk,sk⟩:=hv k (by omega);have hfk:=hF k hlt;have hsk:=(hst k).o;have hDr:=af ((HDr wr hb k (by omega)).o _ sk);have hEk:=HE k;have hrk:=(hfr k).o;clear hv HDr sk hF hst hfr HE HD l0;by_cases h0:0<(x.s k).b.length
   ·have q2:decide ((0:Int)<(((x.s k).b.length:Nat):Int))=true:=av (by omega)
    rw[av h0]at hfk;rw[hfk,au rfl]at hsk;clear hEk;have e1:(λj=>pf false (iU (λi=>(x.s i).row) j k)+pf false ((x.s k).row j))=λj=>pf false (iU (λi=>(x.s i).row) j (k+1)):=funext λj=>nP _ _ _;have e2:(λj=>pf true (iU (λi=>(x.s i).row) j k)+pf true ((x.s k).row j))=λj=>pf true (iU (λi=>(x.s i).row) j (k+1)):=funext λj=>nP _ _ _;have hM:Hid (∀(W:World)(u:Value),Below wr wr W->jN W u (rn (x.s k).b) (λj=>pf false ((x.s k).row j)) (λj=>pf true ((x.s k).row j))->Calls Tryz.prog 121 #[u10,u] W λe w'=>∃v,e=.returned v/\jN w' v (jw (λi=>rn (x.s i).b) (k+1)) (λj=>pf false (iU (λi=>(x.s i).row) j (k+1))) (λj=>pf true (iU (λi=>(x.s i).row) j (k+1)))/\Below W W w'):=af λW u hW hu=>by
     rw[<-e1,<-e2];refine wY u10 u _ _ _ _ _ _ W (hr.below hW) hu (λj h=>?_) (λj h=>?_) (λj=>?_)
     ·have e:=HB.o.2.1 j k h
      simp only[e,pf];exact⟨by split<;>rfl,by split<;>rfl⟩
     ·have e:=HB.o.2.2 j k h
      simp only[e,pf];exact⟨by split<;>rfl,by split<;>rfl⟩
     ·rw[show pf false (iU (λi=>(x.s i).row) j k)+pf false ((x.s k).row j)=pf false (iU (λi=>(x.s i).row) j (k+1))from nP _ _ _,show pf true (iU (λi=>(x.s i).row) j k)+pf true ((x.s k).row j)=pf true (iU (λi=>(x.s i).row) j (k+1))from nP _ _ _]
      exact⟨kQ _ _ _ (HB.o.1 j (k+1) (by omega)),kQ _ _ _ (HB.o.1 j (k+1) (by omega))⟩
    clear e1 e2 hr HB;rcases hrk with e|⟨j,e,hj,-⟩
    all_goals
     rw[e]at hsk ⊢
     first
      |rw[au (by decide)]at hsk
      |rw[ai (by omega)]at hsk
     have hsk:=af hsk
     first
      |have i1:¬((j:Int)<0):=by omega
      |skip
     go_wp2_with fail;refine hDr.o.mono ?_;rintro e w2 ⟨u,rfl,hu,hb2⟩;have hMx:=af (hM.o w2 u hb2 hu);have hb3:=hb.trans (hb2.mono hb.size);clear hu hM hDr;go_wp2_with fail;refine hMx.o.mono ?_;rintro e w3 ⟨u3,rfl,hu3,hb4⟩;have hu3:=af hu3;have hb5:=af (hb3.trans (hb4.mono hb3.size));clear hMx;go_wp2_with fail;go_roundw
     case rel=>exact⟨k+1,by omega,by go_num,by rw[hsk.o],hu3.o,hb5.o⟩
     case measure=>simp[intOf];omega
   ·have q2:decide ((0:Int)<(((x.s k).b.length:Nat):Int))=false:=aj (by omega)
    rw[aj h0]at hfk;rw[hfk]at hsk;simp only[bA,dB]at hsk;obtain⟨en,eq⟩:=hEk.o h0;have hr2:Hid (jN wr u10 (jw (λi=>rn (x.s i).b) (k+1)) (λj=>pf false (iU (λi=>(x.s i).row) j (k+1))) (λj=>pf true (iU (λi=>(x.s i).row) j (k+1)))):=af (by
     have e0:jw (λi=>rn (x.s i).b) (k+1)=jw (λi=>rn (x.s i).b) k:=by
      show max (jw (λi=>rn (x.s i).b) k) (rn (x.s k).b)=_;rw[en];exact Nat.max_eq_left (bH _)
     have e1:∀j,iU (λi=>(x.s i).row) j (k+1)=iU (λi=>(x.s i).row) j k:=λj=>by
      show iU (λi=>(x.s i).row) j k+(x.s k).row j=_;rw[eq j];omega
     rw[e0];simp only[e1];exact hr)
    have hsk:fst ff (k+1)=fst ff k:=by
     rcases hrk with e|⟨j,e,-⟩
     ·rw[hsk,e,au (by decide)]
     ·rw[hsk,e,ai (by omega)]
    have hsk:=af hsk;clear hr hDr hEk hrk eq;go_wp2_with fail;go_roundw
    case rel=>exact⟨k+1,by omega,by go_num,by rw[hsk.o],hr2.o,hb⟩
    case measure=>simp[intOf];omega
  ·obtain rfl:k=N:=by omega
   have q1:decide ((k:Int)<((k:Nat):Int))=false:=aj (by omega);have hr2:=af hr;clear hr HDr HD hF hst hfr HE l0 HB;go_wp2_with fail;go_ret2;exact⟨_,rfl,hr2.o,hb⟩
end
end Go.Proofs.YteadkhigkmijiaaGreat
