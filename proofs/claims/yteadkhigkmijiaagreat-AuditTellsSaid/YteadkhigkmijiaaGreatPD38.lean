/- Texts SqG in one. -/
import Derived.Test.YteadkhigkmijiaaGreatPD1
import Derived.Test.YteadkhigkmijiaaGreatPD8
import Derived.Test.YteadkhigkmijiaaGreatPD18
import Derived.Test.YteadkhigkmijiaaGreatPD28
import Derived.Test.YteadkhigkmijiaaGreatPD34
import Derived.Test.YteadkhigkmijiaaGreatPD36
set_option linter.all false
namespace Go.Proofs.YteadkhigkmijiaaGreat
section
set_option maxRecDepth 100000
set_option maxHeartbeats 16000000
open Go.RowKit
theorem Row.alike{W:World}{P:List Nat}{v:Value}{n:Nat}{a b a' b':Nat->Int}(h:Row W P v n a b)(ha:∀k,k<n->a k=a' k)(hb:∀k,k<n->b k=b' k)(h8:∀k,(a' k).natAbs<=8/\(b' k).natAbs<=8):Row W P v n a' b':=by
 obtain⟨A,c,rfl,h1,h2,h3⟩:=h.at_;refine⟨⟨A,c,rfl,h1,h2,λh0=>?_⟩,h.n4,h8⟩;obtain⟨g,off,rfl,hg,hP,hc⟩:=h3 h0;exact⟨g,off,rfl,hg,hP,λk hk=>by rw[hc k hk,ha k hk,hb k hk]⟩
theorem P6{W:World}{P:List Nat}{u:Value}{sd:Sd}(h:Row W P u sd.n (λk=>pf (decide (0=0)) (sd.q k)) (λk=>pf (decide (0=1)) (sd.q k)))(h1:∀k,(sd.q k).natAbs<=1):Row W P u sd.n sd.row (λ_=>0):=
 h.alike (λk hk=>by unfold Sd.row;rw[au hk];rfl) (λk _=>rfl) (λk=>⟨by unfold Sd.row;split;(have:=h1 k;omega);exact bH _,bH _⟩)
theorem P7{W:World}{P:List Nat}{u:Value}{sd:Sd}(h:Row W P u sd.n (λk=>pf (decide (1=0)) (sd.q k)) (λk=>pf (decide (1=1)) (sd.q k)))(h1:∀k,(sd.q k).natAbs<=1):Row W P u sd.n (λ_=>0) sd.row:=
 h.alike (λk _=>rfl) (λk hk=>by unfold Sd.row;rw[au hk];rfl) (λk=>⟨bH _,by unfold Sd.row;split;(have:=h1 k;omega);exact bH _⟩)
theorem EP{N:Nat}{n:Nat->Nat}{r:Nat->Nat->Int}{f p:Int}{lk:Bool}:chan N n r f p true lk=⟨0,λ_=>0,-1⟩:=rfl
theorem EQ{N:Nat}{n:Nat->Nat}{r:Nat->Nat->Int}{f p:Int}:chan N n r f p false true=⟨jw n N,λj=>iU r j N,f⟩:=rfl
theorem ER{N:Nat}{n:Nat->Nat}{r:Nat->Nat->Int}{f:Int}:chan N n r f (-1) false false=⟨0,λ_=>0,-1⟩:=rfl
theorem ES{N:Nat}{n:Nat->Nat}{r:Nat->Nat->Int}{f:Int}{j:Nat}:chan N n r f (j:Nat) false false=⟨n j,r j,j⟩:=by
 unfold chan;simp only[bA,dB];rw[ai (by omega),aQ]
theorem P8(g N x b:Nat)(s t:G)(l:List (Value×Sd))(bl0 bl1 lk0 lk1:Bool)(P:List Nat)(w:World)(hg:jL w g N s t)(h:XAt w P x b l ⟨bl0,lk0,.slice none 0 0,0⟩ ⟨bl1,lk1,.slice none 0 0,0⟩)(hl:l.length<=8)(hgx:g≠x)(hP:∀i∈P,i<w.heap.size)(h1:∀sd∈l.map Prod.snd,∀k,(sd.q k).natAbs<=1)
  (sn:s.n=l.length) (ss:s.slot<s.n) (sw:time s.now) (swi:0<=s.wi/\s.wi<=2305843009213693952) (tn:t.n=l.length) (ts:t.slot<t.n) (tw:time t.now) (twi:0<=t.wi/\t.wi<=2305843009213693952) (sx:∀i,i<l.length->time (sA (l.map Prod.snd) i)):
  Calls Tryz.prog 103 #[↑(g,0),↑(x,0)] w λe w'=>e=.returned (.tuple #[])/\∃u0 u1,
   XAt w' P x b l ⟨bl0,lk0,u0,(l6 (l.map Prod.snd) (fst (sF (l.map Prod.snd)) 8) (s.pass (sF (l.map Prod.snd)) (sA (l.map Prod.snd))) (t.pass (sF (l.map Prod.snd)) (sA (l.map Prod.snd))) bl0 bl1 lk0 lk1).c.p⟩ ⟨bl1,lk1,u1,(l6 (l.map Prod.snd) (fst (sF (l.map Prod.snd)) 8) (s.pass (sF (l.map Prod.snd)) (sA (l.map Prod.snd))) (t.pass (sF (l.map Prod.snd)) (sA (l.map Prod.snd))) bl0 bl1 lk0 lk1).d.p⟩/\
   Row w' P u0 (l6 (l.map Prod.snd) (fst (sF (l.map Prod.snd)) 8) (s.pass (sF (l.map Prod.snd)) (sA (l.map Prod.snd))) (t.pass (sF (l.map Prod.snd)) (sA (l.map Prod.snd))) bl0 bl1 lk0 lk1).c.n (l6 (l.map Prod.snd) (fst (sF (l.map Prod.snd)) 8) (s.pass (sF (l.map Prod.snd)) (sA (l.map Prod.snd))) (t.pass (sF (l.map Prod.snd)) (sA (l.map Prod.snd))) bl0 bl1 lk0 lk1).c.q (λ_=>0)/\
   Row w' P u1 (l6 (l.map Prod.snd) (fst (sF (l.map Prod.snd)) 8) (s.pass (sF (l.map Prod.snd)) (sA (l.map Prod.snd))) (t.pass (sF (l.map Prod.snd)) (sA (l.map Prod.snd))) bl0 bl1 lk0 lk1).d.n (λ_=>0) (l6 (l.map Prod.snd) (fst (sF (l.map Prod.snd)) 8) (s.pass (sF (l.map Prod.snd)) (sA (l.map Prod.snd))) (t.pass (sF (l.map Prod.snd)) (sA (l.map Prod.snd))) bl0 bl1 lk0 lk1).d.q/\Kw [x] w w':=by
 have hS:=af (P9 x b l _ _ P w h hl);have hq1:=qc s (sF (l.map Prod.snd)) (sA (l.map Prod.snd)) ss;have hq2:=qc t (sF (l.map Prod.snd)) (sA (l.map Prod.snd)) ts;rw[sn]at hq1;rw[tn]at hq2;have ET:s.pass (sF (l.map Prod.snd)) (sA (l.map Prod.snd))=-1\/∃j:Nat,s.pass (sF (l.map Prod.snd)) (sA (l.map Prod.snd))=j/\j<l.length:=hq1.imp id λ⟨j,e,hj,_⟩=>⟨j,e,hj⟩;have EU:t.pass (sF (l.map Prod.snd)) (sA (l.map Prod.snd))=-1\/∃j:Nat,t.pass (sF (l.map Prod.snd)) (sA (l.map Prod.snd))=j/\j<l.length:=hq2.imp id λ⟨j,e,hj,_⟩=>⟨j,e,hj⟩;clear hq1 hq2;have sxs:=sx s.slot (by omega);have sxt:=sx t.slot (by omega);have HJ:Hid (∀j:Nat,j<l.length->∃v sd,l[j]?=some (v,sd)/\mN (l.map Prod.snd) j=sd.n/\mR (l.map Prod.snd) j=sd.row/\(∀k,(sd.q k).natAbs<=1)):=af λj hj=>by
  obtain⟨⟨v,sd⟩,hk0⟩:∃y,l[j]?=some y:=⟨_,aP hj⟩;exact⟨v,sd,hk0,by simp[mN,hk0],by simp[mR,hk0],h1 sd (List.mem_map_of_mem (f:=Prod.snd) (bO hk0))⟩
 have h1:=af h1;unfold l6;simp only[dQ];obtain⟨p,hp⟩:∃p,s.pass (sF (l.map Prod.snd)) (sA (l.map Prod.snd))=p:=⟨_,rfl⟩;obtain⟨q,hq⟩:∃q,t.pass (sF (l.map Prod.snd)) (sA (l.map Prod.snd))=q:=⟨_,rfl⟩;rw[hp]at ET ⊢;rw[hq]at EU ⊢;obtain⟨F,hF⟩:∃F,fst (sF (l.map Prod.snd)) 8=F:=⟨_,rfl⟩;rw[hF];obtain⟨C,hC0⟩:∃C,chan l.length (mN (l.map Prod.snd)) (mR (l.map Prod.snd)) F p bl0 lk0=C:=⟨_,rfl⟩;obtain⟨D,hD0⟩:∃D,chan l.length (mN (l.map Prod.snd)) (mR (l.map Prod.snd)) F q bl1 lk1=D:=⟨_,rfl⟩;rw[hC0,hD0];have hC:=af hC0;have hD:=af hD0;clear hC0 hD0;unfold kZ jK at hS;have hF:=af hF;generalize hff:sF (l.map Prod.snd)=ff at *;generalize haa:sA (l.map Prod.snd)=aa at *;clear hff haa sx
 go_enter Tryz.func103,Tryz.ntmps103
 go_wp2_with fail;refine hS.o.mono ?_;rintro e w1 ⟨rfl,hb1⟩;have Y0:=(aJ w1 w1 rfl (b8 ff) 110).alloc (.cells (i8 aa) 22);have Y1:=aJ (w1.alloc (.cells (b8 ff) 110)) (w1.heap.size+1) (by simp) (i8 aa) 22;have hbb:=(hb1.alloc hb1.size (.cells (b8 ff) 110)).alloc (by have:=hb1.size;simp;omega) (.cells (i8 aa) 22);unfold b8 i8 at Y0 Y1 hbb;go_wp2_with fail;generalize(w1.alloc (.cells #[↑(ff 0),↑(ff 1),↑(ff 2),↑(ff 3),↑(ff 4),↑(ff 5),↑(ff 6),↑(ff 7)] 110)).alloc (.cells (aI aa) 22)=w2 at *;have hz2:w.heap.size<=w1.heap.size:=hb1.size;have hP0:∀i,w.heap.size<=i->i∉P:=λi hi hm=>by have:=hP i hm;omega
 have HZ:Hid (w1.heap.size∉[x]/\w1.heap.size+1∉[x]):=af ⟨λhm=>by simp at hm;exact hP0 _ (by omega) (hm▸h.mem),λhm=>by simp at hm;exact hP0 _ (by omega) (hm▸h.mem)⟩;generalize w1.heap.size=z at *;clear hS hb1 hP0 hz2;have H2:=h.below hbb;have hG2:=hg.below hbb hg.lt;have K2:=fG [x] hbb;have hPz:Hid (∀i∈P,i<w2.heap.size):=af λi hi=>by have:=hP i hi;have:=hbb.size;omega
 have hxP:=h.mem;clear h hg hP;have HP1:=λW(hW:jL W g N s t)=>af (PN _ g s ff aa W hW.one (by omega) (by omega) sw sxs swi);have HP2:=λW(hW:jL W g N s t)=>af (PU _ g t ff aa W hW.two (by omega) (by omega) tw sxt twi);rw[hp]at HP1;rw[hq]at HP2;unfold kZ jK at HP1 HP2;clear hp hq sw swi tw twi sxs sxt ss ts
 go_loopw [13] (λi wr=>∃k:Nat,∃u0 u1,k<=2/\i=↑k/\XAt wr P x b l (if 0<k then⟨bl0,lk0,u0,C.p⟩else⟨bl0,lk0,.slice none 0 0,0⟩) (if 1<k then⟨bl1,lk1,u1,D.p⟩else⟨bl1,lk1,.slice none 0 0,0⟩)/\
  (0<k->Row wr P u0 C.n C.q (λ_=>0))/\(1<k->Row wr P u1 D.n (λ_=>0) D.q)/\Kw [x] w wr/\Kw [x] w2 wr) (λi _=>2-(intOf i).toNat)
 case atStart=>exact⟨0,.slice none 0 0,.slice none 0 0,by omega,rfl,by simpa using H2,λh=>by omega,λh=>by omega,K2,fU _ _⟩
 case round=>
  obtain⟨k,u0,u1,hk,rfl,hX,hR0,hR1,hK,hK2⟩:=hrel;clear H2 K2;have hG:=hG2.kp hK2 (by simpa using hgx);have Z0:=Y0.kp hK2 HZ.o.1;have Z1:=Y1.kp hK2 HZ.o.2;rcases(by omega:k=0\/k=1\/k=2)with rfl|rfl|rfl
  ·
   have hX:XAt wr P x b l ⟨bl0,lk0,.slice none 0 0,0⟩ ⟨bl1,lk1,.slice none 0 0,0⟩:=by simpa using hX
   clear hR0 hR1;have HPs:=λW(hW:Below wr wr W)=>HP1 W (hG.below hW hG.lt);have c0:=Z0.cell 0 (x:=↑(ff 0)) rfl;have c1:=Z0.cell 1 (x:=↑(ff 1)) rfl;have c2:=Z0.cell 2 (x:=↑(ff 2)) rfl;have c3:=Z0.cell 3 (x:=↑(ff 3)) rfl;have c4:=Z0.cell 4 (x:=↑(ff 4)) rfl;have c5:=Z0.cell 5 (x:=↑(ff 5)) rfl;have c6:=Z0.cell 6 (x:=↑(ff 6)) rfl;have c7:=Z0.cell 7 (x:=↑(ff 7)) rfl;have d0:=Z1.cell 0 (x:=↑(aa 0)) rfl;have d1:=Z1.cell 1 (x:=↑(aa 1)) rfl;have d2:=Z1.cell 2 (x:=↑(aa 2)) rfl;have d3:=Z1.cell 3 (x:=↑(aa 3)) rfl;have d4:=Z1.cell 4 (x:=↑(aa 4)) rfl;have d5:=Z1.cell 5 (x:=↑(aa 5)) rfl;have d6:=Z1.cell 6 (x:=↑(aa 6)) rfl;have d7:=Z1.cell 7 (x:=↑(aa 7)) rfl;have y4:=hX.blk.cell 4 (x:=↑(0:Int)) rfl;have ff4:=hX.blk.frozen 4;have HXB:Hid (∀W,Below wr wr W->XAt W P x b l ⟨bl0,lk0,.slice none 0 0,0⟩ ⟨bl1,lk1,.slice none 0 0,0⟩/\Kw [x] w W/\Kw [x] w2 W/\W.cell? (x,4)=some ↑(0:Int)/\W.frozen? (x,4)=false):=af λW hW=>⟨hX.below hW,hK.below hW,hK2.below hW,(hX.below hW).blk.cell 4 rfl,(hX.below hW).blk.frozen 4⟩;have hB0:=ah wr wr;go_wp2_with fail
   go_cut []from 21 to 79 (λW=>XAt W P x b l ⟨bl0,lk0,.slice none 0 0,p⟩ ⟨bl1,lk1,.slice none 0 0,0⟩/\Kw [x] w W/\Kw [x] w2 W)
   case first=>
    go_region_with (first
     |(go_at_call 151;refine(HPs wr.drew hB0.drew).o.mono ?_;rintro e w5 ⟨rfl,hb5⟩;obtain⟨H5,K5,K25,y5,f5⟩:=HXB.o w5 (hB0.drew.trans hb5))
     |fail)
    all_goals
     have H6:=af (H5.put 4 ↑p (c':=⟨bl0,lk0,.slice none 0 0,p⟩) (d':=⟨bl1,lk1,.slice none 0 0,0⟩) rfl);have K6:=af (K5.set (x,4) (by simp) ↑p);have K26:=af (K25.set (x,4) (by simp) ↑p);go_wp2_with fail
     go_meet
     exact⟨H6.o,K6.o,K26.o⟩
   case rest=>
    obtain⟨H3,K3,K23⟩:=hcut;clear c0 d0 c1 d1 c2 d2 c3 d3 c4 d4 c5 d5 c6 d6 c7 d7 y4 ff4 HXB HPs hX hK hK2 Z0 Z1 hG hB0;have hPc:=af (show ∀i∈P,i<wc.heap.size from λi hi=>aN (hPz.o i hi) K23.size);have y1:=H3.blk.cell 1 (x:=↑bl0) rfl;have y2:=H3.blk.cell 2 (x:=↑lk0) rfl;have y4:=H3.blk.cell 4 (x:=↑p) rfl;have f4:=H3.blk.frozen 4
    cases hbl:bl0
    case true=>
     rw[hbl]at y1;have eC:C=⟨0,λ_=>0,-1⟩:=by rw[<-hC.o,hbl];exact EP
     have H6:=af (H3.put 4 ↑(-1:Int) (c':=⟨bl0,lk0,.slice none 0 0,-1⟩) (d':=⟨bl1,lk1,.slice none 0 0,0⟩) rfl);have K6:=af (K3.set (x,4) (by simp) ↑(-1:Int));have K26:=af (K23.set (x,4) (by simp) ↑(-1:Int));rw[hbl]at H6;go_wp2_with fail;go_roundw
     case rel=>exact⟨1,.slice none 0 0,.slice none 0 0,by omega,rfl,by rw[eC,hbl];simpa using H6.o,λ_=>by rw[eC];exact Row.nil _ _ _ _ (λk=>⟨by simp,by simp⟩),λh=>by omega,K6.o,K26.o⟩
     case measure=>simp[intOf]
    rw[hbl]at y1 H3
    cases hlk:lk0
    case false=>
     rw[hlk]at y2 H3;rcases ET with e|⟨j,e,hj⟩
     ·have eC:C=⟨0,λ_=>0,-1⟩:=by rw[<-hC.o,hbl,hlk,e];exact ER
      rw[e]at y4 H3;go_wp2_with fail;go_roundw
      case rel=>exact⟨1,.slice none 0 0,.slice none 0 0,by omega,rfl,by rw[eC,hbl,hlk];simpa using H3,λ_=>by rw[eC];exact Row.nil _ _ _ _ (λk=>⟨by simp,by simp⟩),λh=>by omega,K3,K23⟩
      case measure=>simp[intOf]
     ·obtain⟨v,sd,hk0,en,eq,eo⟩:=HJ.o j hj
      have eC:C=⟨sd.n,sd.row,j⟩:=by rw[<-hC.o,hbl,hlk,e,<-en,<-eq];exact ES
      rw[e]at y4 H3;have q0:((j:Int) != -1)=true:=by rw[bV];omega
      have i1:(j:Int)<(l.length:Nat):=by omega
      have y0:=H3.blk.cell 0 (x:=.slice (some (b,0)) l.length l.length) rfl;obtain⟨e0,-,-⟩:=H3.sd.cells hk0;have hrow:Row wc P v sd.n sd.q sd.q:=H3.sd.row _ (bO hk0);have HGt:=λW(hW:Below wc wc W)=>af (uI v sd.n sd.q 0 P W (hrow.kp (fG P hW)) (λi hi=>by have:=hPc.o i hi;have:=hW.size;omega));obtain⟨A1,a1,rfl,-⟩:=hrow.sees;have HXB:Hid (∀W,Below wc wc W->XAt W P x b l ⟨false,false,.slice none 0 0,j⟩ ⟨bl1,lk1,.slice none 0 0,0⟩/\Kw [x] w W/\Kw [x] w2 W/\W.cell? (x,3)=some (.slice none 0 0)/\W.frozen? (x,3)=false):=af λW hW=>⟨H3.below hW,K3.below hW,K23.below hW,(H3.below hW).blk.cell 3 rfl,(H3.below hW).blk.frozen 3⟩;have hB0:=ah wc wc;clear H3 K3 K23 hrow;go_wp2_with fail
      go_region_with (first
       |(go_at_call 153;refine(HGt wc.drew hB0.drew).o.mono ?_;rintro e w5 ⟨u,rfl,hr5,hb5⟩;obtain⟨H5,K5,K25,y5,f5⟩:=HXB.o w5 (hB0.drew.trans hb5);obtain⟨A2,a2,rfl,-⟩:=hr5.sees)
       |fail)
      all_goals
       have H6:=af (H5.put 3 (.slice A2 sd.n a2) (c':=⟨false,false,.slice A2 sd.n a2,j⟩) (d':=⟨bl1,lk1,.slice none 0 0,0⟩) rfl);have kk:=(fU P w5).set (x,3) hxP (.slice A2 sd.n a2);have K6:=af (K5.set (x,3) (by simp) (.slice A2 sd.n a2));have K26:=af (K25.set (x,3) (by simp) (.slice A2 sd.n a2));have R6:=af (P6 (hr5.kp kk) eo);go_wp2_with fail;go_roundw
       case rel=>exact⟨1,.slice A2 sd.n a2,.slice none 0 0,by omega,rfl,by rw[eC,hbl,hlk];simpa using H6.o,λ_=>by rw[eC];exact R6.o,λh=>by omega,K6.o,K26.o⟩
       case measure=>simp[intOf]
    rw[hlk]at y2 H3;have eC:C=⟨jw (mN (l.map Prod.snd)) l.length,λj=>iU (mR (l.map Prod.snd)) j l.length,F⟩:=by rw[<-hC.o,hbl,hlk];exact EQ
    have Z0c:=Y0.kp K23 HZ.o.1;have hI:=af (tB z 8 8 ff wc (λk hk=>Z0c.cell k (lZ ff k hk)) (aR 8));rw[hF.o]at hI;have H4:=H3.put 4 ↑F (c':=⟨false,true,.slice none 0 0,F⟩) (d':=⟨bl1,lk1,.slice none 0 0,0⟩) rfl;have K4:=K3.set (x,4) (by simp) ↑F;have K24:=K23.set (x,4) (by simp) ↑F;have hz4:(wc.setCell (x,4) ↑F).heap.size=wc.heap.size:=by simp[World.setCell]
    have hM:=af (EW x b l _ _ P _ H4 hl (λi hi=>by have:=hPc.o i hi;omega) h1.o);have HH:=af (aL H4 (aL K4 (aL K24 True.intro)));clear H3 H4 K4 K24 Z0c K3 K23;go_wp2_with fail;refine hI.o.mono ?_;rintro e w3 ⟨rfl,rfl⟩;clear hI;go_wp2_with fail;refine hM.o.mono ?_;rintro e w5 ⟨v,rfl,hr5,hb5⟩;have hP5:∀i∈P,i<w5.heap.size:=λi hi=>by have:=hPc.o i hi;have:=hb5.size;omega
    have hGt:=af (uI v _ _ 0 P w5 hr5 hP5);clear hM hr5;go_wp2_with fail;refine hGt.o.mono ?_;rintro e w6 ⟨u,rfl,hr6,hb6⟩;have nS:=hb5.trans (hb6.mono hb5.size);have H7:=HH.o.1.below nS;obtain⟨A2,a2,rfl,-⟩:=hr6.sees;have y3:=H7.blk.cell 3 (x:=.slice none 0 0) rfl;have f3:=H7.blk.frozen 3;have H8:=af (H7.put 3 (.slice A2 (jw (mN (l.map Prod.snd)) l.length) a2) (c':=⟨false,true,.slice A2 (jw (mN (l.map Prod.snd)) l.length) a2,F⟩) (d':=⟨bl1,lk1,.slice none 0 0,0⟩) rfl);have kk:=λy=>(fU P w6).set (x,3) hxP y;have K6:=af (λy=>(HH.o.2.1.below nS).set (x,3) (by simp) y);have K26:=af (λy=>(HH.o.2.2.1.below nS).set (x,3) (by simp) y);have R6:=af (hr6.kp (kk (.slice A2 (jw (mN (l.map Prod.snd)) l.length) a2)));clear H7 hGt HH hr6;go_wp2_with fail;go_roundw
    case rel=>exact⟨1,.slice A2 (jw (mN (l.map Prod.snd)) l.length) a2,.slice none 0 0,by omega,rfl,by rw[eC,hbl,hlk];simpa using H8.o,λ_=>by rw[eC];simpa[pf]using R6.o,λh=>by omega,(K6.o _),(K26.o _)⟩
    case measure=>simp[intOf]
  ·
   have hX:XAt wr P x b l ⟨bl0,lk0,u0,C.p⟩ ⟨bl1,lk1,.slice none 0 0,0⟩:=by simpa using hX
   have hR0:=hR0 (by omega);have HR0:Hid (∀W,Kw P wr W->Row W P u0 C.n C.q (λ_=>0)):=af λW hW=>hR0.kp hW;clear hR0 hR1;have HPs:=λW(hW:Below wr wr W)=>HP2 W (hG.below hW hG.lt);have c0:=Z0.cell 0 (x:=↑(ff 0)) rfl;have c1:=Z0.cell 1 (x:=↑(ff 1)) rfl;have c2:=Z0.cell 2 (x:=↑(ff 2)) rfl;have c3:=Z0.cell 3 (x:=↑(ff 3)) rfl;have c4:=Z0.cell 4 (x:=↑(ff 4)) rfl;have c5:=Z0.cell 5 (x:=↑(ff 5)) rfl;have c6:=Z0.cell 6 (x:=↑(ff 6)) rfl;have c7:=Z0.cell 7 (x:=↑(ff 7)) rfl;have d0:=Z1.cell 0 (x:=↑(aa 0)) rfl;have d1:=Z1.cell 1 (x:=↑(aa 1)) rfl;have d2:=Z1.cell 2 (x:=↑(aa 2)) rfl;have d3:=Z1.cell 3 (x:=↑(aa 3)) rfl;have d4:=Z1.cell 4 (x:=↑(aa 4)) rfl;have d5:=Z1.cell 5 (x:=↑(aa 5)) rfl;have d6:=Z1.cell 6 (x:=↑(aa 6)) rfl;have d7:=Z1.cell 7 (x:=↑(aa 7)) rfl;have y4:=hX.blk.cell 8 (x:=↑(0:Int)) rfl;have ff4:=hX.blk.frozen 8;have HXB:Hid (∀W,Below wr wr W->XAt W P x b l ⟨bl0,lk0,u0,C.p⟩ ⟨bl1,lk1,.slice none 0 0,0⟩/\Kw [x] w W/\Kw [x] w2 W/\W.cell? (x,8)=some ↑(0:Int)/\W.frozen? (x,8)=false):=af λW hW=>⟨hX.below hW,hK.below hW,hK2.below hW,(hX.below hW).blk.cell 8 rfl,(hX.below hW).blk.frozen 8⟩;have hB0:=ah wr wr;go_wp2_with fail
   go_cut []from 21 to 79 (λW=>XAt W P x b l ⟨bl0,lk0,u0,C.p⟩ ⟨bl1,lk1,.slice none 0 0,q⟩/\Kw [x] w W/\Kw [x] w2 W/\Row W P u0 C.n C.q (λ_=>0))
   case first=>
    go_region_with (first
     |(go_at_call 151;refine(HPs wr.drew hB0.drew).o.mono ?_;rintro e w5 ⟨rfl,hb5⟩;obtain⟨H5,K5,K25,y5,f5⟩:=HXB.o w5 (hB0.drew.trans hb5))
     |fail)
    all_goals
     have H6:=af (H5.put 8 ↑q (c':=⟨bl0,lk0,u0,C.p⟩) (d':=⟨bl1,lk1,.slice none 0 0,q⟩) rfl);have K6:=af (K5.set (x,8) (by simp) ↑q);have K26:=af (K25.set (x,8) (by simp) ↑q);have R06:=af (HR0.o _ (((fU P wr).drew.below hb5).set (x,8) hxP ↑q));go_wp2_with fail
     go_meet
     exact⟨H6.o,K6.o,K26.o,R06.o⟩
   case rest=>
    obtain⟨H3,K3,K23,R03⟩:=hcut;clear c0 d0 c1 d1 c2 d2 c3 d3 c4 d4 c5 d5 c6 d6 c7 d7 y4 ff4 HXB HPs hX hK hK2 Z0 Z1 hG hB0 HR0;have hPc:=af (show ∀i∈P,i<wc.heap.size from λi hi=>aN (hPz.o i hi) K23.size);have y1:=H3.blk.cell 5 (x:=↑bl1) rfl;have y2:=H3.blk.cell 6 (x:=↑lk1) rfl;have y4:=H3.blk.cell 8 (x:=↑q) rfl;have f4:=H3.blk.frozen 8
    cases hbl:bl1
    case true=>
     rw[hbl]at y1;have eC:D=⟨0,λ_=>0,-1⟩:=by rw[<-hD.o,hbl];exact EP
     have H6:=af (H3.put 8 ↑(-1:Int) (c':=⟨bl0,lk0,u0,C.p⟩) (d':=⟨bl1,lk1,.slice none 0 0,-1⟩) rfl);have K6:=af (K3.set (x,8) (by simp) ↑(-1:Int));have K26:=af (K23.set (x,8) (by simp) ↑(-1:Int));have R06:=af (R03.kp ((fU P wc).set (x,8) hxP ↑(-1:Int)));rw[hbl]at H6;go_wp2_with fail;go_roundw
     case rel=>exact⟨2,u0,.slice none 0 0,by omega,rfl,by rw[eC,hbl];simpa using H6.o,λ_=>R06.o,λ_=>by rw[eC];exact Row.nil _ _ _ _ (λk=>⟨by simp,by simp⟩),K6.o,K26.o⟩
     case measure=>simp[intOf]
    rw[hbl]at y1 H3
    cases hlk:lk1
    case false=>
     rw[hlk]at y2 H3;rcases EU with e|⟨j,e,hj⟩
     ·have eC:D=⟨0,λ_=>0,-1⟩:=by rw[<-hD.o,hbl,hlk,e];exact ER
      rw[e]at y4 H3;have R06:=af R03;go_wp2_with fail;go_roundw
      case rel=>exact⟨2,u0,.slice none 0 0,by omega,rfl,by rw[eC,hbl,hlk];simpa using H3,λ_=>R06.o,λ_=>by rw[eC];exact Row.nil _ _ _ _ (λk=>⟨by simp,by simp⟩),K3,K23⟩
      case measure=>simp[intOf]
     ·obtain⟨v,sd,hk0,en,eq,eo⟩:=HJ.o j hj
      have eC:D=⟨sd.n,sd.row,j⟩:=by rw[<-hD.o,hbl,hlk,e,<-en,<-eq];exact ES
      rw[e]at y4 H3;have q0:((j:Int) != -1)=true:=by rw[bV];omega
      have i1:(j:Int)<(l.length:Nat):=by omega
      have y0:=H3.blk.cell 0 (x:=.slice (some (b,0)) l.length l.length) rfl;obtain⟨e0,-,-⟩:=H3.sd.cells hk0;have hrow:Row wc P v sd.n sd.q sd.q:=H3.sd.row _ (bO hk0);have HGt:=λW(hW:Below wc wc W)=>af (uI v sd.n sd.q 1 P W (hrow.kp (fG P hW)) (λi hi=>by have:=hPc.o i hi;have:=hW.size;omega));obtain⟨A1,a1,rfl,-⟩:=hrow.sees;have HXB:Hid (∀W,Below wc wc W->XAt W P x b l ⟨bl0,lk0,u0,C.p⟩ ⟨false,false,.slice none 0 0,j⟩/\Kw [x] w W/\Kw [x] w2 W/\W.cell? (x,7)=some (.slice none 0 0)/\W.frozen? (x,7)=false/\Row W P u0 C.n C.q (λ_=>0)):=af λW hW=>⟨H3.below hW,K3.below hW,K23.below hW,(H3.below hW).blk.cell 7 rfl,(H3.below hW).blk.frozen 7,R03.kp (fG P hW)⟩;have hB0:=ah wc wc;clear H3 K3 K23 hrow;go_wp2_with fail
      go_region_with (first
       |(go_at_call 153;refine(HGt wc.drew hB0.drew).o.mono ?_;rintro e w5 ⟨u,rfl,hr5,hb5⟩;obtain⟨H5,K5,K25,y5,f5,R05⟩:=HXB.o w5 (hB0.drew.trans hb5);obtain⟨A2,a2,rfl,-⟩:=hr5.sees)
       |fail)
      all_goals
       have H6:=af (H5.put 7 (.slice A2 sd.n a2) (c':=⟨bl0,lk0,u0,C.p⟩) (d':=⟨false,false,.slice A2 sd.n a2,j⟩) rfl);have kk:=(fU P w5).set (x,7) hxP (.slice A2 sd.n a2);have K6:=af (K5.set (x,7) (by simp) (.slice A2 sd.n a2));have K26:=af (K25.set (x,7) (by simp) (.slice A2 sd.n a2));have R6:=af (P7 (hr5.kp kk) eo);have R06:=af (R05.kp kk);go_wp2_with fail;go_roundw
       case rel=>exact⟨2,u0,.slice A2 sd.n a2,by omega,rfl,by rw[eC,hbl,hlk];simpa using H6.o,λ_=>R06.o,λ_=>by rw[eC];exact R6.o,K6.o,K26.o⟩
       case measure=>simp[intOf]
    rw[hlk]at y2 H3;have eC:D=⟨jw (mN (l.map Prod.snd)) l.length,λj=>iU (mR (l.map Prod.snd)) j l.length,F⟩:=by rw[<-hD.o,hbl,hlk];exact EQ
    have Z0c:=Y0.kp K23 HZ.o.1;have hI:=af (tB z 8 8 ff wc (λk hk=>Z0c.cell k (lZ ff k hk)) (aR 8));rw[hF.o]at hI;have H4:=H3.put 8 ↑F (c':=⟨bl0,lk0,u0,C.p⟩) (d':=⟨false,true,.slice none 0 0,F⟩) rfl;have K4:=K3.set (x,8) (by simp) ↑F;have K24:=K23.set (x,8) (by simp) ↑F;have R04:=R03.kp ((fU P wc).set (x,8) hxP ↑F);have hz4:(wc.setCell (x,8) ↑F).heap.size=wc.heap.size:=by simp[World.setCell]
    have hM:=af (EW x b l _ _ P _ H4 hl (λi hi=>by have:=hPc.o i hi;omega) h1.o);have HH:=af (aL H4 (aL K4 (aL K24 R04)));clear H3 H4 K4 K24 Z0c K3 K23;go_wp2_with fail;refine hI.o.mono ?_;rintro e w3 ⟨rfl,rfl⟩;clear hI;go_wp2_with fail;refine hM.o.mono ?_;rintro e w5 ⟨v,rfl,hr5,hb5⟩;have hP5:∀i∈P,i<w5.heap.size:=λi hi=>by have:=hPc.o i hi;have:=hb5.size;omega
    have hGt:=af (uI v _ _ 1 P w5 hr5 hP5);clear hM hr5;go_wp2_with fail;refine hGt.o.mono ?_;rintro e w6 ⟨u,rfl,hr6,hb6⟩;have nS:=hb5.trans (hb6.mono hb5.size);have H7:=HH.o.1.below nS;obtain⟨A2,a2,rfl,-⟩:=hr6.sees;have y3:=H7.blk.cell 7 (x:=.slice none 0 0) rfl;have f3:=H7.blk.frozen 7;have H8:=af (H7.put 7 (.slice A2 (jw (mN (l.map Prod.snd)) l.length) a2) (c':=⟨bl0,lk0,u0,C.p⟩) (d':=⟨false,true,.slice A2 (jw (mN (l.map Prod.snd)) l.length) a2,F⟩) rfl);have kk:=λy=>(fU P w6).set (x,7) hxP y;have K6:=af (λy=>(HH.o.2.1.below nS).set (x,7) (by simp) y);have K26:=af (λy=>(HH.o.2.2.1.below nS).set (x,7) (by simp) y);have R6:=af (hr6.kp (kk (.slice A2 (jw (mN (l.map Prod.snd)) l.length) a2)));have R06:=af ((HH.o.2.2.2.kp (fG P nS)).kp (kk (.slice A2 (jw (mN (l.map Prod.snd)) l.length) a2)));clear H7 hGt HH hr6;go_wp2_with fail;go_roundw
    case rel=>exact⟨2,u0,.slice A2 (jw (mN (l.map Prod.snd)) l.length) a2,by omega,rfl,by rw[eC,hbl,hlk];simpa using H8.o,λ_=>R06.o,λ_=>by rw[eC];simpa[pf]using R6.o,(K6.o _),(K26.o _)⟩
    case measure=>simp[intOf]
  ·have hX:XAt wr P x b l ⟨bl0,lk0,u0,C.p⟩ ⟨bl1,lk1,u1,D.p⟩:=by simpa using hX
   have HH:=af hX;have h0:=af (hR0 (by omega));have h1:=af (hR1 (by omega));have hk:=af hK;clear hX hR0 hR1 hK hK2 Z0 Z1 hG;go_wp2_with fail;exact aD (ax (by rfl) _ _ _) rfl ⟨rfl,u0,u1,HH.o,h0.o,h1.o,hk.o⟩
end
end Go.Proofs.YteadkhigkmijiaaGreat
