/- Texts NdS, NdT, NdU, SrC, SrD in one. -/
import Derived.Deep.RegionHeld3
import Derived.Deep.RegionWith
import Derived.StillTailTactics
import Derived.Test.YteadkhigkmijiaaGreatPD1
import Derived.Test.YteadkhigkmijiaaGreatPD12
import Derived.Test.YteadkhigkmijiaaGreatPD16
set_option linter.all false
namespace Go.Proofs.YteadkhigkmijiaaGreat
section
set_option maxRecDepth 100000
set_option maxHeartbeats 4000000
open Go.RowKit
open Clk (avg)
def NM.kr(s:NM):NM:=
 let s2:=if wiB s.t.lm (avg s.ck)then {s with tm:=s.tm+jb s.t.lm s.ck+s.dr}else {s with st:=5}
 {s2 with ck:=[],so:=s.so.age,an:=iR s.al s.so.age,ar:=λi=>s.ar i ||| iR s.al s.so.age i}
def NM.nxt(s:NM):NM:={s with rd:=nxR s.t.ns.length s.rd s.sl,sl:=(nxS s.t.ns.length s.sl).toNat,se:=false}
theorem NM.qQ(s:NM):s.goOn=if nxS s.t.ns.length s.sl≠0 then s.nxt else s.nxt.kr:=by
 unfold NM.goOn NM.nxt NM.kr
 rfl
structure NE(m:NM):Prop where
 ck:small m.ck
 lm:0<=m.t.lm/\m.t.lm<=1000
 tm:-4611687117939015680<=m.tm/\m.tm<=4611687117939015680
 dr:-1000<=m.dr/\m.dr<=1000
theorem qR(lm:Int)(l:List Int)(h:0<=lm):-lm<=jb lm l/\jb lm l<=lm:=by
 unfold jb
 split
 ·rename_i h1
  exact dh h1
 ·omega
theorem LY(b:Bool)(G:Nat->Prop)(g:Nat)(m:NM)(w:World)(h:NA b G w g m)(hE:NE m):
  Calls Tryz.prog 163 #[.pointer (some ⟨g,0,none⟩)] w λe w'=>e=.returned (.tuple #[])/\NA b G w' g m.kr/\Only g w w':=by
 have hmf:∀(fn:Fn)(first cap:Array Value)(w:World),(Instr.makeFunc fn first cap).run Tryz.prog w=.ok (.func fn first cap) w:=λ_ _ _ _=>rfl;have HT:=af (h.term hE.ck ⟨hE.lm.1,by have:=hE.lm.2;omega⟩);have hb:=qR m.t.lm m.ck hE.lm.1;obtain⟨hl1,hl2⟩:=hE.lm;obtain⟨ht1,ht2⟩:=hE.tm;obtain⟨hd1,hd2⟩:=hE.dr;have hk:Hid (NA b G w g m):=af h;clear hE;by_cases hw:wiB m.t.lm (avg m.ck)=true
 ·rw[hw]at HT
  have hfin:m.kr={({m with tm:=m.tm+(jb m.t.lm m.ck+m.dr)}:NM)with ck:=[],so:=m.so.age,an:=iR m.al m.so.age,ar:=λi=>m.ar i ||| iR m.al m.so.age i}:=by
   unfold NM.kr;rw[au hw,Int.add_assoc]
  rw[hfin];clear hfin;generalize jb m.t.lm m.ck=tv at *;obtain⟨hb1,hb2⟩:=hb;clear h hw
  go_enter Tryz.func163,Tryz.ntmps163
  go_wp2_with fail;refine HT.o.mono ?_;rintro _ w1 ⟨rfl,b1⟩;have h1:=hk.o.below b1;have o1:=af (iQ g b1);have e9:=h1.c9;have e15:=h1.c15;have f15:=h1.frozen 15;have h2:=af (h1.sTm (m.tm+(tv+m.dr))).drew;have o2:=af (o1.o.set 15 (.int .i64 (m.tm+(tv+m.dr)))).drew;clear HT hk o1 b1;go_wp2_with fail
  go_region
  clear h1 e9 e15 f15;go_wp2_with fail;refine h2.o.wB.mono ?_;rintro _ w3 ⟨rfl,h3,o3⟩;have o3:=o2.o.trans o3;have HA:=af h3.age;clear h2 o2 h3;go_wp2_with fail;refine HA.o.mono ?_;rintro _ w4 ⟨rfl,h4,o4⟩;have o4:=o3.trans o4;have HL:=af h4.drew.look;unfold qx at HL;clear HA o3 h4;go_wp2_with fail
  go_still_tail 7,(by kernel_rfl)
  change wpList _ _ _ _ _ w4.drew;go_wp2_with fail;refine HL.o.mono ?_;rintro _ w5 ⟨rfl,h5,o5⟩;go_wp2;exact aD (ax (by rfl) _ _ _) rfl ⟨rfl,h5,o4.drew.trans o5⟩
 ·have hw:wiB m.t.lm (avg m.ck)=false:=by simpa using hw
  rw[hw]at HT;have hfin:m.kr={({m with st:=5}:NM)with ck:=[],so:=m.so.age,an:=iR m.al m.so.age,ar:=λi=>m.ar i ||| iR m.al m.so.age i}:=by
   unfold NM.kr;rw[hw]
   rfl
  rw[hfin];clear hfin hb;generalize jb m.t.lm m.ck=tv at *;clear h hw
  go_enter Tryz.func163,Tryz.ntmps163
  go_wp2_with fail;refine HT.o.mono ?_;rintro _ w1 ⟨rfl,b1⟩;have h1:=hk.o.below b1;have o1:=af (iQ g b1);have e10:=h1.c10;have f10:=h1.frozen 10;have h2:=af (h1.sSt 5);have o2:=af (o1.o.set 10 (.int .i64 5));clear HT hk o1 b1;clear h1;go_wp2_with fail;refine h2.o.wB.mono ?_;rintro _ w3 ⟨rfl,h3,o3⟩;have o3:=o2.o.trans o3;have HA:=af h3.age;clear h2 o2 h3;go_wp2_with fail;refine HA.o.mono ?_;rintro _ w4 ⟨rfl,h4,o4⟩;have o4:=o3.trans o4;have HL:=af h4.drew.look;unfold qx at HL;clear HA o3 h4;go_wp2_with fail
  go_still_tail 7,(by kernel_rfl)
  change wpList _ _ _ _ _ w4.drew;go_wp2_with fail;refine HL.o.mono ?_;rintro _ w5 ⟨rfl,h5,o5⟩;go_wp2;exact aD (ax (by rfl) _ _ _) rfl ⟨rfl,h5,o4.drew.trans o5⟩
end
section
set_option maxRecDepth 100000
set_option maxHeartbeats 4000000
open Go.RowKit
structure NG(m:NM):Prop where
 e:NE m
 n:4<=m.t.ns.length/\m.t.ns.length<=8
 sl:m.sl<m.t.ns.length
 rd:0<=m.rd/\m.rd<=65535
theorem qU(b:Bool)(G:Nat->Prop)(g:Nat)(m:NM)(w:World)(h:NA b G w g m)(hG:NG m):
  Calls Tryz.prog 109 #[↑(g,0)] w λe w'=>e=.returned (.tuple #[])/\NA false G w' g m.goOn/\Only g w w':=by
 have hn:=hG.n;have hs:=hG.sl;have hr:=hG.rd;have hE:=hG.e;have HV:∀W,Below w w W->Hid (Calls Tryz.prog 79 #[↑(g,0)] W λe w'=>e=.returned (csV m.rd m.sl m.ty.m)/\Below W W w'/\Below w w w'):=λW hW=>af ((pX b G g m W (h.below hW)).mono λe w'⟨h1,h2⟩=>⟨h1,h2,hW.trans (h2.mono hW.size)⟩);obtain⟨A,c,c0,-⟩:=h.cV;have HS:∀W,Below w w W->Hid (W.cell? (g,0)=some (.slice A m.t.ns.length c)/\W.cell? (g,1)=some ↑m.t.dr/\W.cell? (g,2)=some ↑m.t.wi/\W.cell? (g,3)=some ↑m.t.lm):=λW hW=>af (by
  have h1:=h.below hW;exact⟨(hW.cell (p:=(g,0)) h.lt).trans c0,h1.c1,h1.c2,h1.c3⟩)
 obtain⟨-,c1,c2,c3⟩:=(HS w (ah _ _)).o;have HN:∀W,Below w w W->Hid (Calls Tryz.prog 162 #[.agg #[.slice A m.t.ns.length c,↑m.t.dr,↑m.t.wi,↑m.t.lm],csV m.rd m.sl m.ty.m] W λe w'=>e=.returned (csV (nxR m.t.ns.length m.rd m.sl) (nxS m.t.ns.length m.sl) m.ty.m)/\Below W W w'/\Below w w w'):=λW hW=>af ((LZ A m.t.ns.length c m.t.dr m.t.wi m.t.lm m.rd m.sl m.ty.m W ⟨by omega,by omega⟩ ⟨by omega,by omega⟩ hr).mono λe w'⟨h1,h2⟩=>⟨h1,h2,hW.trans (h2.mono hW.size)⟩);have hge:0<=nxS m.t.ns.length m.sl:=by unfold nxS;split<;>omega
 have hk:Hid (NA b G w g m):=af h;have hb0:=ah w w;have hgl:=h.lt;unfold csV at HV HN;generalize hR:nxR m.t.ns.length m.rd m.sl=R at *;generalize hS:nxS m.t.ns.length m.sl=S at *;have HR:=af (aL hR hS);clear hR hS h
 go_enter Tryz.func109,Tryz.ntmps109
 go_wp2_with fail
 go_cut [2]from 3 (λs2 W=>∃p:Nat,s2=↑(p,0)/\Blk W p #[↑R,↑S,↑(m.ty.m:Nat)] 96/\Below w w W/\w.heap.size<=p)
 case first=>
  go_region_held3 (λW=>W.cell? (g,0)=some (.slice A m.t.ns.length c)/\W.cell? (g,1)=some ↑m.t.dr/\W.cell? (g,2)=some ↑m.t.wi/\W.cell? (g,3)=some ↑m.t.lm)
   ((refine(HS _ ?_).o;(repeat' (first|exact hb0|exact b5|exact b6|(with_reducible refine bL ?_)|(with_reducible refine bE ?_ ?_ _)|exact b5.size|exact b6.size|exact aR _|(with_reducible refine aU ?_ ?_ _)|omega|(simp;done)|(simp;omega)))))
   (first
    |((go_at_call 79;with_reducible refine(HV _ ?_).o.mono ?_);(focus ((repeat' (first|exact hb0|exact b5|exact b6|(with_reducible refine bL ?_)|(with_reducible refine bE ?_ ?_ _)|exact aR _|exact b5.size|exact b6.size));done));rintro _ w5 ⟨rfl,b5',b5⟩;(first|(have hZ:Blk w5 w #[.int .i64 0,.int .i64 0,.int .i64 0] 96:=iy (Blk.drew (aJ w _ (by simp) _ _)) b5' (by simp))|(have hZ:Blk w5 w #[.int .i64 0,.int .i64 0,.int .i64 0] 96:=iy (aJ w.drew _ (by simp) _ _) b5' (by simp))|skip))
    |((go_at_call 162;with_reducible refine(HN _ ?_).o.mono ?_);(focus ((repeat' (first|exact hb0|exact b5|exact b6|(with_reducible refine bL ?_)|(with_reducible refine bE ?_ ?_ _)|exact aR _|exact b5.size|exact b6.size));done));rintro _ w6 ⟨rfl,b6',b6⟩;(first|(have hY:=hZ.below b6' hZ.lt)|(have hY:Blk w6 w5 #[.int .i64 0,.int .i64 0,.int .i64 0] 96:=iy (aJ _ _ (by simp) _ _) b6' (by simp))|skip);(first|(have y0:=hY.cell 0 (x:=.int .i64 0) rfl;have y1:=hY.cell 1 (x:=.int .i64 0) rfl;have y2:=hY.cell 2 (x:=.int .i64 0) rfl;have f0:=hY.frozen 0;have f1:=hY.frozen 1;have f2:=hY.frozen 2)|skip)))
  all_goals
   go_wp2_with fail
   go_meet
   first
    |exact⟨_,rfl,aJ _ _ rfl _ _,b6.alloc b6.size _,b6.size⟩
    |exact⟨_,rfl,(((hY.set 0 (.int .i64 R)).set 1 (.int .i64 S)).set 2 (.int .i64 (m.ty.m:Nat))).eq (by simp),((b6.setCell (by first|exact aR _|exact b5.size) _).setCell (by first|exact aR _|exact b5.size) _).setCell (by first|exact aR _|exact b5.size) _,by first|exact aR _|exact b5.size⟩
 case rest=>
  obtain⟨p,rfl,hX,b1,hp⟩:=hcut;have h1:=hk.o.below b1;have o1:=iQ g b1;obtain⟨S,rfl⟩:∃n:Nat,S=n:=⟨S.toNat,by omega⟩;have x0:=hX.cell 0 (x:=↑R) rfl;have x1:=hX.cell 1 (x:=↑(S:Nat)) rfl;have e11:=h1.c11;have e12:=h1.c12;have e14:=h1.c14;have f11:=h1.frozen 11;have f12:=h1.frozen 12;have f14:=h1.frozen 14;have hnx:m.nxt={m with rd:=R,sl:=S,se:=false}:=by
   unfold NM.nxt;rw[HR.o.1,HR.o.2,aQ]
  have h2:Hid (NA false G _ g {m with rd:=R,sl:=S,se:=false}):=af (((((h1.sRd R).sSl S).sSe false).drew).se_ false);have o2:=af ((((o1.set 11 ↑R).set 12 ↑(S:Nat)).set 14 ↑false).drew);rw[<-hnx]at h2;have L6:=h2.o.c12;rw[show m.nxt.sl=S by rw[hnx]]at L6;have hfin:=NM.qQ m;rw[HR.o.2]at hfin;have hE2:NE m.nxt:=⟨hE.ck,hE.lm,hE.tm,hE.dr⟩;generalize m.nxt=m2 at *;have tH:=af hfin;clear hfin hnx h1 o1 hX b1 hp HR hk hE hG;go_wp2_with fail
  go_region
  by_cases h0:S=0
  ·subst h0
   have HF:Hid (m.goOn=m2.kr):=af (by rw[tH.o];rfl);have HEn:=af (LY false G g m2 _ h2.o hE2);clear tH;go_wp2_with fail;refine HEn.o.mono ?_;rintro _ w3 ⟨rfl,h3,o3⟩;go_wp2;exact aD (ax (by rfl) _ _ _) rfl ⟨rfl,by rw[HF.o];exact h3,o2.o.trans o3⟩
  ·have HF:Hid (m.goOn=m2):=af (by rw[tH.o,au (by omega)])
   have q0:(((S:Nat):Int)==0)=false:=by rw[aB];omega
   clear tH h0;go_wp2;exact aD (ax (by rfl) _ _ _) rfl ⟨rfl,by rw[HF.o];exact h2.o,o2.o⟩
end
section
set_option maxRecDepth 100000
set_option maxHeartbeats 4000000
open Go.RowKit
open Fr (St F)
def mF(so:MS)(m k:Nat):MS:={so with g:=λi=>if i<k then isB m i else so.g i}
theorem L8(so:MS)(m:Nat):mF so m 0=so:=by
 unfold mF;simp
theorem L9(so:MS)(m:Nat):mF so m 8=NM.wD so m:=rfl
theorem Ma(so:MS)(m k:Nat)(hk:k<8):(mF so m k).member k (isB m k)=mF so m (k+1):=by
 unfold MS.member mF;rw[au (show isN k by unfold isN;omega)];simp only[aQ]
 congr 1
 funext i
 simp only[upd];rcases nX i k with h|h|h
 ·rw[ai (by omega),au h,au (by omega)]
 ·subst h;rw[au rfl,au (by omega)]
 ·rw[ai (by omega),ai (by omega),ai (by omega)]
theorem Mc(b:Bool)(G:Nat->Prop)(g:Nat)(m:NM)(f:F)(o:Int)(v:Value)(B:Nat)(w:World)(h:NA b G w g m)(hG:∀x,w.heap.size<=x->G x)(hv:iI w B v f.d)(hB:B<=w.heap.size)(hd:iK f.d)(hs:0<=f.st.s)(ht:-4611686018427387904<=m.tm/\m.tm<=4611686018427387904)(ho:-1099511627776<=o/\o<=1099511627776)(hvg:f.d≠[]->v.ownBlock≠some g):
  Calls Tryz.prog 160 #[↑(g,0),frV f v,↑o] w λe w'=>e=.returned (.tuple #[])/\NA false G w' g (m.knows f o)/\Only g w w':=by
 obtain⟨k,⟨r,s,mm⟩,d⟩:=f;obtain⟨s,rfl⟩:∃n:Nat,s=n:=⟨s.toNat,by simp only at hs;omega⟩;have hkn:m.knows ⟨k,⟨r,s,mm⟩,d⟩ o={m.anew 3 with rd:=r,sl:=s,ty:=(⟨(mm%256).toNat,0,0⟩:TS).right s,tm:=m.tm+o,so:=NM.wD (MS.new.put s d) ((⟨(mm%256).toNat,0,0⟩:TS).right s).m}:=by
  unfold NM.knows;rw[aQ]
 rw[hkn];clear hkn;simp only at hv hd hvg;obtain⟨A,c,rfl,-⟩:=hv.at_;unfold frV;simp only;have hl:=wM mm;have hX:=aJ w w rfl #[↑k,↑r,↑(s:Nat),↑mm,.slice A d.length c] 182;have hb0:=(ah w w).alloc lr (.cells #[↑k,↑r,↑(s:Nat),↑mm,.slice A d.length c] 182);have hD:Dat [g] w (.slice A d.length c) d:=⟨hv.more hB,λx hx hl=>by rw[bD]at hx;rw[hx];exact hvg hl⟩;have hD1:=hD.keep (ku hb0);have h1:=h.alloc (.cells #[↑k,↑r,↑(s:Nat),↑mm,.slice A d.length c] 182);have hgl:=h.lt;have HB:=af (oO b G g m 3 3 rfl _ h1);have HT:=λW=>af (CH mm W);have htm:(m.anew 3).tm=m.tm:=rfl;have hso:(m.anew 3).so=MS.new:=rfl;have hty:(m.anew 3).ty=⟨0,0,0⟩:=rfl;generalize(mm%256).toNat=M at *;generalize m.tm=T at *;obtain⟨ht1,ht2⟩:=ht;obtain⟨ho1,ho2⟩:=ho;clear h h1 hv hD hs;generalize m.anew 3=m1 at *
 go_enter Tryz.func160,Tryz.ntmps160
 go_wp2_with fail;refine HB.o.mono ?_;rintro _ w1 ⟨rfl,h1,o1⟩;have hX1:=hX.only o1 (by omega);have hD2:=hD1.keep (o1.kp (by simp));have oo:=(iQ g hb0).trans o1;clear HB hX hD1 o1 hb0;have x1:=hX1.cell 1 (x:=↑r) rfl;have x2:=hX1.cell 2 (x:=↑(s:Nat)) rfl;have e11:=h1.c11;have e12:=h1.c12;have f11:=h1.frozen 11;have f12:=h1.frozen 12;have h2:=((h1.sRd r).sSl s).drew;have k2:Only g w1 ((w1.setCell (g,11) ↑r).setCell (g,12) ↑(s:Nat)).drew:=(((aE g w1).set 11 ↑r).set 12 ↑(s:Nat)).drew;have H2:=af (aL h2 (aL (hX1.only k2 (by omega)) (aL (hD2.keep (k2.kp (by simp))) (oo.trans k2))));clear h1 h2 k2 hX1 hD2 oo;go_wp2_with fail
 go_region
 obtain⟨h2,hX2,hD2,o2⟩:=H2.o;clear H2 x1 x2 e11 e12 f11 f12;generalize((w1.setCell (g,11) ↑r).setCell (g,12) ↑(s:Nat)).drew=w2 at *;have x3:=hX2.cell 3 (x:=↑mm) rfl;generalize hm2:({m1 with rd:=r,sl:=s}:NM)=m2 at *;have hm2:({m1 with rd:=r,sl:=s}:NM)=m2:=hm2;have a1:m2.tm=T:=by rw[<-hm2];exact htm
 have a2:m2.so=MS.new:=by rw[<-hm2];exact hso
 have a3:m2.sl=s:=by rw[<-hm2]
 have HM2:=af hm2;clear hm2 htm hso;go_wp2_with fail;refine(HT _).o.mono ?_;rintro _ w3 ⟨rfl,hT,b3,-⟩;have h3:=h2.below b3;have hX3:=hX2.below b3 hX2.lt;have hD3:=hD2.keep (ku b3);have o3:=o2.trans (iQ g b3);have t0:=hT.c0;have t1:=hT.c1;have t2:=hT.c2;obtain⟨cc,hc,-⟩:=h3.tp;have c17:=hc.c0;have c18:=hc.c1;have c19:=hc.c2;have f17:=h3.frozen 17;have f18:=h3.frozen 18;have f19:=h3.frozen 19;have h4:=h3.sTy ⟨M,0,0⟩ hl;have k4:Only g w3 (((w3.setCell (g,17) ↑(M:Nat)).setCell (g,18) ↑(0:Int)).setCell (g,19) ↑(0:Int)):=(((aE g w3).set 17 ↑(M:Nat)).set 18 ↑(0:Int)).set 19 ↑(0:Int);have H4:=af (aL h4 (aL (hX3.only k4 (by omega)) (aL (hD3.keep (k4.kp (by simp))) (o3.trans k4))));clear h2 h3 h4 k4 hX2 hX3 hD2 hD3 o2 o3 hc hT b3 HT x3;go_wp2_with fail;obtain⟨h4,hX4,hD4,o4⟩:=H4.o;clear H4 c17 c18 c19 f17 f18 f19 t0 t1 t2;generalize(((w3.setCell (g,17) ↑(M:Nat)).setCell (g,18) ↑(0:Int)).setCell (g,19) ↑(0:Int))=w4 at *;have e12:=h4.c12;rw[show({m2 with ty:=⟨M,0,0⟩}:NM).sl=s from a3]at e12;have HRt:=af (h4.drew.right s (by show(0:Nat)<1000;decide));have hX5:=hX4.drew;have hD5:=hD4.keep (ku (ah _ w4).drew);have o5:=o4.drew;clear h4 hX4 hD4 o4
 go_still_tail 7,(by kernel_rfl)
 change wpList _ _ _ _ _ w4.drew;go_wp2_with fail;refine HRt.o.mono ?_;rintro _ w6 ⟨rfl,h6,k6⟩;change NA false G w6 g {m2 with ty:=(⟨M,0,0⟩:TS).right s}at h6;generalize hTY:(⟨M,0,0⟩:TS).right s=TY at *;have HTY:=af hTY;have hX6:=hX5.only k6 (by omega);have hD6:=hD5.keep (k6.kp (by simp));have o6:=o5.trans k6;clear hTY hX5 hD5 o5 k6 HRt e12;have e15:=h6.c15;rw[show({m2 with ty:=TY}:NM).tm=T from a1]at e15;have f15:=h6.frozen 15;have h7:=h6.sTm (T+o);have k7:Only g w6 (w6.setCell (g,15) ↑(T+o:Int)):=(aE g w6).set 15 _;have H7:=af (aL h7 (aL (hX6.only k7 (by omega)) (aL (hD6.keep (k7.kp (by simp))) (o6.trans k7))));clear h6 h7 k7 hX6 hD6 o6;go_wp2_with fail;obtain⟨h7,hX7,hD7,o7⟩:=H7.o;clear H7 e15 f15;generalize w6.setCell (g,15) ↑(T+o:Int)=w7 at *;have e12:=h7.c12;rw[show({m2 with ty:=TY,tm:=T+o}:NM).sl=s from a3]at e12;have x4:=hX7.cell 4 (x:=.slice A d.length c) rfl;have HP:=af (h7.drew.put s (λx hx=>hG x (aW o7.size hx)) (hD7.keep (ku (ah _ w7).drew)).1 hd);rw[show({m2 with ty:=TY,tm:=T+o}:NM).so=MS.new from a2]at HP;have o8:=o7.drew;clear h7 hX7 hD7 o7
 go_still_tail 9,(by kernel_rfl)
 change wpList _ _ _ _ _ w7.drew;go_wp2_with fail;refine HP.o.mono ?_;rintro _ w9 ⟨rfl,h9,k9⟩;have o9:=o8.trans k9;clear HP o8 k9 e12 x4;generalize hSO:MS.new.put s d=SO at *;have HSO:=af hSO;clear hSO;go_wp2_with fail
 go_loopw [56] (λi wr=>∃k:Nat,k<=8/\i=↑k/\NA false G wr g {m2 with ty:=TY,tm:=T+o,so:=mF SO TY.m k}/\Only g w wr) (λi _=>8-(intOf i).toNat)
 case atStart=>exact⟨0,by omega,rfl,by rw[L8];exact h9,o9⟩
 case round=>
  clear h9 o9;obtain⟨k,hk,rfl,h,oo⟩:=hrel;by_cases hlt:k<8
  ·have r1:decide ((k:Int)<8)=true:=av (by omega)
   have HI:=af (h.drew.is_ k);have HM:=af (h.drew.member k (isB TY.m k));rw[show({m2 with ty:=TY,tm:=T+o,so:=mF SO TY.m k}:NM).ty=TY from rfl]at HI;rw[show({m2 with ty:=TY,tm:=T+o,so:=mF SO TY.m k}:NM).so=mF SO TY.m k from rfl,Ma _ _ _ hlt]at HM;have o1:=oo.drew;clear h oo;go_wp2_with fail
   go_still_tail 9,(by kernel_rfl)
   still_call HI.o
   repeat still_step
   refine wpStill_nil ?_;change wpList _ _ _ _ _ wr.drew;go_wp2_with fail;refine HM.o.mono ?_;rintro _ wz ⟨rfl,hz,kz⟩;have oz:=o1.trans kz;clear HM HI o1 kz;go_wp2;go_roundw
   case rel=>exact⟨k+1,by omega,by go_num,hz,oz⟩
   case measure=>simp[intOf];omega
  ·obtain rfl:k=8:=by omega
   go_wp2;rw[L9]at h;refine aD (ax (by rfl) _ _ _) rfl ⟨rfl,?_,oo⟩;rw[HTY.o,HSO.o];have e:=HM2.o;rw[<-e]at h;exact h
end
section
set_option maxRecDepth 100000
set_option maxHeartbeats 4000000
open Go.RowKit
def Sd.strike(f:Ft)(s:Sd):Sd:=
 if f.k=1 then {s with n:=0}
 else if f.k=2 then {s with q:=gq s.n s.q f.a}
 else if f.k=3 then {s with df:=true}
 else if f.k=5 then {s with n:=rn f.d,q:=rq f.d,at_:=s.at_+f.a}
 else if f.k=6 then {s with at_:=s.at_+f.a}
 else s
def wide(x:Int):Prop:=-2305843009213693952<=x/\x<=2305843009213693952
theorem EO{α:Type}:∀(l:List α)(k:Nat)(x:α),l[k]?=some x->l.set k x=l
 |[],_,_,h=>by simp at h
 |y::l,0,x,h=>by simp at h;subst h;rfl
 |y::l,k+1,x,h=>by simp only[List.set];rw[EO l k x (by simpa using h)]
theorem Qs{α:Type}(l:List α)(k:Nat)(x y:α)(h:l[k]?=some y):(l.set k x)[k]?=some x:=by
 rw[dZ (fJ.1 h).1]
def ftV(f:Ft)(v:Value):Value:=.agg #[↑f.k,↑f.n,↑f.a,v]
theorem Qt(b:Nat)(k:Nat)(l:List (Value×Sd))(v dv:Value)(s:Sd)(n a:Int)(P:List Nat)(w:World)(h:jd w P b l)(hk:l[k]?=some (v,s)):
  Calls Tryz.prog 149 #[↑(b,k*3),.agg #[↑(1:Int),↑n,↑a,dv]] w λe w'=>∃u,e=.returned (.tuple #[])/\jd w' P b (l.set k (u,{s with n:=0}))/\Only b w w':=by
 have hb0:=(ah w w).alloc lr (.cells #[↑(1:Int),↑n,↑a,dv] 56);have hX:=aJ w _ rfl #[↑(1:Int),↑n,↑a,dv] 56;have x0:=hX.cell 0 (x:=↑(1:Int)) rfl;have H:=h.below hb0;have hO:=af (iQ b hb0);obtain⟨y0,-,-⟩:=H.cells hk;have f0:=H.blk.frozen (k*3);have HH:=af (H.v_ (t:={s with n:=0}) hk rfl rfl (Row.nil _ P _ _ (h.row _ (bO hk)).one));clear hX h H
 go_enter Tryz.func149,Tryz.ntmps149
 go_wp2
 first
  |exact aD (ax (by rfl) _ _ _) rfl ⟨_,rfl,HH.o,hO.o.set _ _⟩
  |exact aK (ax (by rfl) _ _ _) rfl ⟨_,rfl,HH.o,hO.o.set _ _⟩
theorem Qu(b:Nat)(k:Nat)(l:List (Value×Sd))(v dv:Value)(s:Sd)(n a:Int)(P:List Nat)(w:World)(h:jd w P b l)(hk:l[k]?=some (v,s)):
  Calls Tryz.prog 149 #[↑(b,k*3),.agg #[↑(3:Int),↑n,↑a,dv]] w λe w'=>∃u,e=.returned (.tuple #[])/\jd w' P b (l.set k (u,{s with df:=true}))/\Only b w w':=by
 have hb0:=(ah w w).alloc lr (.cells #[↑(3:Int),↑n,↑a,dv] 56);have hX:=aJ w _ rfl #[↑(3:Int),↑n,↑a,dv] 56;have x0:=hX.cell 0 (x:=↑(3:Int)) rfl;have H:=h.below hb0;have hO:=af (iQ b hb0);obtain⟨-,-,y0⟩:=H.cells hk;have f0:=H.blk.frozen (k*3+2);have HH:=af (H.d_ hk true);clear hX h H
 go_enter Tryz.func149,Tryz.ntmps149
 go_wp2
 first
  |exact aD (ax (by rfl) _ _ _) rfl ⟨_,rfl,HH.o,hO.o.set _ _⟩
  |exact aK (ax (by rfl) _ _ _) rfl ⟨_,rfl,HH.o,hO.o.set _ _⟩
theorem Qv(b:Nat)(k:Nat)(l:List (Value×Sd))(v dv:Value)(s:Sd)(n a:Int)(P:List Nat)(w:World)(h:jd w P b l)(hk:l[k]?=some (v,s))(ha:-1000<=a/\a<=1000)(hs:wide s.at_):
  Calls Tryz.prog 149 #[↑(b,k*3),.agg #[↑(6:Int),↑n,↑a,dv]] w λe w'=>∃u,e=.returned (.tuple #[])/\jd w' P b (l.set k (u,{s with at_:=s.at_+a}))/\Only b w w':=by
 have hb0:=(ah w w).alloc lr (.cells #[↑(6:Int),↑n,↑a,dv] 56);have hX:=aJ w _ rfl #[↑(6:Int),↑n,↑a,dv] 56;have x0:=hX.cell 0 (x:=↑(6:Int)) rfl;have x2:=hX.cell 2 (x:=↑a) rfl;have H:=h.below hb0;have hO:=af (iQ b hb0);obtain⟨-,y0,-⟩:=H.cells hk;have f0:=H.blk.frozen (k*3+1);have z1:IntKind.i64.wrap (s.at_+a)=s.at_+a:=aO _ (by unfold wide at hs;omega);have HH:=af (H.a_ hk (s.at_+a));clear hX h H
 go_enter Tryz.func149,Tryz.ntmps149
 go_wp2
 go_region
 go_wp2
 first
  |exact aD (ax (by rfl) _ _ _) rfl ⟨_,rfl,HH.o.drew,(hO.o.set _ _).drew⟩
  |exact aK (ax (by rfl) _ _ _) rfl ⟨_,rfl,HH.o.drew,(hO.o.set _ _).drew⟩
theorem Qw(b:Nat)(k:Nat)(l:List (Value×Sd))(v dv:Value)(s:Sd)(n a:Int)(P:List Nat)(w:World)(h:jd w P b l)(hk:l[k]?=some (v,s))(ha:-1000<=a/\a<=1000)(hP:∀i∈P,i<w.heap.size):
  Calls Tryz.prog 149 #[↑(b,k*3),.agg #[↑(2:Int),↑n,↑a,dv]] w λe w'=>∃u,e=.returned (.tuple #[])/\jd w' P b (l.set k (u,{s with q:=gq s.n s.q a}))/\Only b w w':=by
 have hb0:=(ah w w).alloc lr (.cells #[↑(2:Int),↑n,↑a,dv] 56);have hX:=aJ w _ rfl #[↑(2:Int),↑n,↑a,dv] 56;have x0:=hX.cell 0 (x:=↑(2:Int)) rfl;have x2:=hX.cell 2 (x:=↑a) rfl;have H:=h.below hb0;obtain⟨y0,-,-⟩:=H.cells hk;have HX:Hid (∀W,Below (w.heap.size+1) (w.alloc (.cells #[↑(2:Int),↑n,↑a,dv] 56)) W->W.cell? (w,2)=some ↑a/\W.cell? (b,k*3)=some v/\W.frozen? (b,k*3)=false/\jd W P b l/\Only b w W):=af λW hW=>by
  have H2:=H.below (hW.mono (by simp));exact⟨(hX.below hW (by omega)).cell 2 rfl,(H2.cells hk).1,H2.blk.frozen _,H2,iQ b (hb0.trans (hW.mono (by omega)))⟩
 have hG:=λW(hW:Below (w.heap.size+1) (w.alloc (.cells #[↑(2:Int),↑n,↑a,dv] 56)) W)=>af (Qr v s.n s.q a P W ((H.row _ (bO hk)).kp (fG P (hW.mono (by simp)))) (λi hi=>by have:=hP i hi;have:=hW.size;simp at this;omega) ha);have f0:=H.blk.frozen (k*3);have hz:(w.alloc (.cells #[↑(2:Int),↑n,↑a,dv] 56)).heap.size=w.heap.size+1:=by simp
 have hB:=ah (w.heap.size+1) (w.alloc (.cells #[↑(2:Int),↑n,↑a,dv] 56));clear hX h H hb0
 go_enter Tryz.func149,Tryz.ntmps149
 go_wp2_with fail;generalize hW0:w.alloc (.cells #[↑(2:Int),↑n,↑a,dv] 56)=w0 at *;clear hW0
 go_region_with (first
  |(go_at_call 194;refine(hG w0.drew hB.drew).o.mono ?_;rintro e w2 ⟨u,rfl,hr2,hb2⟩;obtain⟨A2,d2,rfl,-,-,-⟩:=hr2.sees;obtain⟨y2,y0,f0,H2,O2⟩:=HX.o w2 (hB.drew.trans (hb2.mono (Nat.le_of_eq hz.symm))))
  |fail)
 all_goals
  have HH:=af (H2.v_ (t:={s with q:=gq s.n s.q a}) hk rfl rfl hr2);have O2:=af O2;clear H2 hr2 HX hG;go_wp2;exact aD (ax (by rfl) _ _ _) rfl ⟨_,rfl,HH.o,O2.o.set _ _⟩
theorem Qx(b:Nat)(k:Nat)(l:List (Value×Sd))(v dv:Value)(s:Sd)(n a:Int)(d:List Int)(P:List Nat)(w:World)(h:jd w P b l)(hk:l[k]?=some (v,s))(ha:-1000<=a/\a<=1000)(hs:wide s.at_)(hP:∀i∈P,i<w.heap.size)(hd:iI w w dv d)(hy:iK d):
  Calls Tryz.prog 149 #[↑(b,k*3),.agg #[↑(5:Int),↑n,↑a,dv]] w λe w'=>∃u,e=.returned (.tuple #[])/\jd w' P b (l.set k (u,{s with n:=rn d,q:=rq d,at_:=s.at_+a}))/\Only b w w':=by
 have hb0:=(ah w w).alloc lr (.cells #[↑(5:Int),↑n,↑a,dv] 56);have hX:=aJ w _ rfl #[↑(5:Int),↑n,↑a,dv] 56;have x0:=hX.cell 0 (x:=↑(5:Int)) rfl;have x2:=hX.cell 2 (x:=↑a) rfl;obtain⟨Ad,cd,rfl,-⟩:=hd.at_;have x3:=hX.cell 3 (x:=.slice Ad d.length cd) rfl;have H:=h.below hb0;have hz:(w.alloc (.cells #[↑(5:Int),↑n,↑a,.slice Ad d.length cd] 56)).heap.size=w.heap.size+1:=by simp
 have hD:=af (Fp _ d _ ((hd.below hb0).more (by rw[hz];omega)) hy);have z1:IntKind.i64.wrap (s.at_+a)=s.at_+a:=aO _ (by unfold wide at hs;omega)
 go_enter Tryz.func149,Tryz.ntmps149
 go_wp2_with fail;generalize hW0:w.alloc (.cells #[↑(5:Int),↑n,↑a,.slice Ad d.length cd] 56)=w0 at *;clear hW0;refine hD.o.mono ?_;rintro e w2 ⟨u,rfl,ho,hb2⟩;have hr:Row w2 P u (rn d) (rq d) (rq d):=iC ho (λi hi=>by have:=hP i hi;omega) (wX d) (λk=>⟨uK d k,uK d k⟩);have H2:=H.below hb2;have hX2:=hX.below hb2 (by rw[hz];omega);have O2:=iQ b (hb0.trans (hb2.mono (by rw[hz];omega)));obtain⟨y0,y1,y2⟩:=H2.cells hk;have f0:=H2.blk.frozen (k*3);have H3:=H2.v_ (t:={s with n:=rn d,q:=rq d}) hk rfl rfl hr;obtain⟨A2,d2,rfl,-,-,-⟩:=hr.sees;have hkl:=Qs l k (Value.slice A2 (rn d) d2,({s with n:=rn d,q:=rq d}:Sd)) _ hk;have HH:=af (H3.a_ hkl (s.at_+a));obtain⟨-,y3,-⟩:=H3.cells hkl;have f3:=H3.blk.frozen (k*3+1);have hne:b≠w.heap.size:=by have:=h.lt;omega
 have hX3:=hX2.other (b,k*3) (by show w.heap.size≠b;omega) (Value.slice A2 (rn d) d2);have x2':=hX3.cell 2 (x:=↑a) rfl;have O3:=af (O2.set (k*3) (Value.slice A2 (rn d) d2));have hS:Hid ((l.set k (Value.slice A2 (rn d) d2,({s with n:=rn d,q:=rq d}:Sd))).set k (Value.slice A2 (rn d) d2,({s with n:=rn d,q:=rq d,at_:=s.at_+a}:Sd))=l.set k (Value.slice A2 (rn d) d2,({s with n:=rn d,q:=rq d,at_:=s.at_+a}:Sd))):=af (by simp);clear h H H2 H3 hX hX2 hX3 hr ho hb2 O2 hD hkl hd hb0;go_wp2_with fail
 go_region
 go_wp2;exact aD (ax (by rfl) _ _ _) rfl ⟨_,rfl,by rw[<-hS.o];exact HH.o.drew,(O3.o.set _ _).drew⟩
theorem Qy(b:Nat)(k:Nat)(l:List (Value×Sd))(v dv:Value)(s:Sd)(f:Ft)(P:List Nat)(w:World)(h:jd w P b l)(hk:l[k]?=some (v,s))(ha:-1000<=f.a/\f.a<=1000)(hs:wide s.at_)(hP:∀i∈P,i<w.heap.size)(hd:iI w w dv f.d)(hy:iK f.d)
  (hf:f.k=1\/f.k=2\/f.k=3\/f.k=5\/f.k=6):
  Calls Tryz.prog 149 #[↑(b,k*3),ftV f dv] w λe w'=>∃u,e=.returned (.tuple #[])/\jd w' P b (l.set k (u,s.strike f))/\Only b w w':=by
 obtain⟨fk,fn,fa,fd⟩:=f;unfold ftV Sd.strike;simp only at *;rcases hf with rfl|rfl|rfl|rfl|rfl
 ·simpa using Qt b k l v dv s fn fa P w h hk
 ·simpa using Qw b k l v dv s fn fa P w h hk ha hP
 ·simpa using Qu b k l v dv s fn fa P w h hk
 ·simpa using Qx b k l v dv s fn fa fd P w h hk ha hs hP hd hy
 ·simpa using Qv b k l v dv s fn fa P w h hk ha hs
structure Ch where
 bl:Bool
 lk:Bool
 v:Value
 fr:Int
def xcs(b N:Nat)(c d:Ch):Array Value:=#[.slice (some (b,0)) N N,↑c.bl,↑c.lk,c.v,↑c.fr,↑d.bl,↑d.lk,d.v,↑d.fr]
structure XAt(W:World)(P:List Nat)(x b:Nat)(l:List (Value×Sd))(c d:Ch):Prop where
 blk:Blk W x (xcs b l.length c d) 189
 sd:jd W P b l
 mem:x∈P
 ne:x≠b
theorem XAt.below{W W':World}{P:List Nat}{x b:Nat}{l:List (Value×Sd)}{c d:Ch}(h:XAt W P x b l c d)(k:Below W W W'):XAt W' P x b l c d:=⟨h.blk.below k h.blk.lt,h.sd.below k,h.mem,h.ne⟩
theorem XAt.drew{W:World}{P:List Nat}{x b:Nat}{l:List (Value×Sd)}{c d:Ch}(h:XAt W P x b l c d):XAt W.drew P x b l c d:=h.below ((ah _ _).drew)
theorem XAt.drewN{W:World}{P:List Nat}{x b:Nat}{l:List (Value×Sd)}{c d:Ch}(h:XAt W P x b l c d)(n:Nat):XAt (W.drewN n) P x b l c d:=h.below (aC (ah _ _) n)
theorem XAt.put{W:World}{P:List Nat}{x b:Nat}{l:List (Value×Sd)}{c d c' d':Ch}(h:XAt W P x b l c d)(i:Nat)(u:Value)(e:(xcs b l.length c d).setIfInBounds i u=xcs b l.length c' d'):XAt (W.setCell (x,i) u) P x b l c' d':=
 ⟨(h.blk.set i u).eq e,h.sd.kp ((fU P W).set (x,i) h.mem u) (dR W (x,i) u b (λe=>h.ne e.symm)),h.mem,h.ne⟩
theorem XAt.only{W W':World}{P:List Nat}{x b:Nat}{l l':List (Value×Sd)}{c d:Ch}(h:XAt W P x b l c d)(k:Only b W W')(hs:jd W' P b l')(hl:l'.length=l.length):XAt W' P x b l' c d:=
 ⟨hl▸h.blk.only k h.ne,hs,h.mem,h.ne⟩
def kS(f:Ft)(m:List Sd):List Sd:=if f.k=4 then m else match m[f.n.toNat]? with
 |some s=>m.set f.n.toNat (s.strike f)
 |none=>m
theorem Qz(f:Ft)(m:List Sd):(kS f m).length=m.length:=by
 unfold kS
 split
 ·rfl
 ·split<;>simp
def blocks(f:Ft)(i:Nat):Bool:=decide (f.k=4/\f.n=i)
theorem P5(x b:Nat)(l:List (Value×Sd))(c d:Ch)(dv:Value)(f:Ft)(P:List Nat)(w:World)(h:XAt w P x b l c d)(hm:f.may=true)(h7:f.k≠7)(hs:∀s∈l,wide s.2.at_)(hP:∀i∈P,i<w.heap.size)(hd:iI w w dv f.d)(hy:iK f.d)(_hl:l.length<=8):
  Calls Tryz.prog 102 #[↑(x,0),ftV f dv] w λe w'=>e=.returned (.tuple #[])/\∃l':List (Value×Sd),l'.map Prod.snd=kS f (l.map Prod.snd)/\XAt w' P x b l' {c with bl:=c.bl||blocks f 0} {d with bl:=d.bl||blocks f 1}/\Kw [x,b] w w':=by
 obtain⟨fk,fn,fa,fd⟩:=f;unfold Ft.may at hm;rw[nu]at hm;simp only at hm h7 hd hy;unfold ftV blocks kS;simp only;have hb0:=(ah w w).alloc lr (.cells #[↑fk,↑fn,↑fa,dv] 56);have hX:=aJ w _ rfl #[↑fk,↑fn,↑fa,dv] 56;obtain⟨Ad,cd,rfl,-⟩:=hd.at_;have H:=h.below hb0;have kp0:=fG [x,b] hb0;have hz:(w.alloc (.cells #[↑fk,↑fn,↑fa,.slice Ad fd.length cd] 56)).heap.size=w.heap.size+1:=by simp
 by_cases h4:fk=4
 ·subst h4
  have hj:fn=0\/fn=1:=by simp at hm;omega
  rcases hj with rfl|rfl
  ·have x0:=hX.cell 0 (x:=↑(4:Int)) rfl
   have x1:=hX.cell 1 (x:=↑(0:Int)) rfl;have y:=H.blk.cell 1 (x:=↑c.bl) rfl;have fz:=H.blk.frozen 1;have HH:=af ((H.put 1 ↑true (c':={c with bl:=true}) (d':=d) rfl).drew);have KK:=af ((kp0.set (x,1) (by simp) ↑true).drew);clear hX h H hb0 hd kp0
   go_enter Tryz.func102,Tryz.ntmps102
   go_wp2_with fail
   go_region
   go_wp2;exact aD (ax (by rfl) _ _ _) rfl ⟨rfl,l,by simp,by simpa using HH.o,KK.o⟩
  ·have x0:=hX.cell 0 (x:=↑(4:Int)) rfl
   have x1:=hX.cell 1 (x:=↑(1:Int)) rfl;have y:=H.blk.cell 5 (x:=↑d.bl) rfl;have fz:=H.blk.frozen 5;have HH:=af ((H.put 5 ↑true (c':=c) (d':={d with bl:=true}) rfl).drew);have KK:=af ((kp0.set (x,5) (by simp) ↑true).drew);clear hX h H hb0 hd kp0
   go_enter Tryz.func102,Tryz.ntmps102
   go_wp2_with fail
   go_region
   go_wp2;exact aD (ax (by rfl) _ _ _) rfl ⟨rfl,l,by simp,by simpa using HH.o,KK.o⟩
 ·obtain⟨j,rfl⟩:∃j:Nat,fn=j:=⟨fn.toNat,by omega⟩
  simp only[aQ];have q4:(fk==4)=false:=by rw[aB];exact h4
  have q7:(fk==7)=false:=by rw[aB];exact h7
  have x0:=hX.cell 0 (x:=↑fk) rfl;have x1:=hX.cell 1 (x:=↑j) rfl;have x2:=hX.cell 2 (x:=↑fa) rfl;have x3:=hX.cell 3 (x:=.slice Ad fd.length cd) rfl;have y0:=H.blk.cell 0 (x:=.slice (some (b,0)) l.length l.length) rfl;by_cases hj:j<l.length
  ·have q1:decide ((j:Int)<(l.length:Nat))=true:=by simp;omega
   obtain⟨⟨v,s⟩,hk⟩:∃y,l[j]?=some y:=⟨_,aP hj⟩;have hk2:(l.map Prod.snd)[j]?=some s:=by simp[hk]
   rw[hk2];have hwd:=hs _ (bO hk);have hsz:∀W,Below (w.alloc (.cells #[↑fk,↑j,↑fa,.slice Ad fd.length cd] 56)).heap.size (w.alloc (.cells #[↑fk,↑j,↑fa,.slice Ad fd.length cd] 56)) W->w.heap.size<=W.heap.size:=λW hW=>by have:=hW.size;omega
   have hd1:∀W,Below (w.alloc (.cells #[↑fk,↑j,↑fa,.slice Ad fd.length cd] 56)).heap.size (w.alloc (.cells #[↑fk,↑j,↑fa,.slice Ad fd.length cd] 56)) W->iI W W (.slice Ad fd.length cd) fd:=λW hW=>(hd.below (hb0.trans (hW.mono (by omega)))).more (hsz W hW);have hC:=λW hW=>af (Qy b j l v (.slice Ad fd.length cd) s ⟨fk,j,fa,fd⟩ P W (H.sd.below hW) hk (by simp only;omega) hwd (λi hi=>by have:=hP i hi;have:=hsz W hW;omega) (hd1 W hW) hy (by simp only;omega));have HN:Hid (∀W,Below (w.alloc (.cells #[↑fk,↑j,↑fa,.slice Ad fd.length cd] 56)).heap.size (w.alloc (.cells #[↑fk,↑j,↑fa,.slice Ad fd.length cd] 56)) W->XAt W P x b l c d/\Kw [x,b] w W/\W.cell? (x,0)=some (.slice (some (b,0)) l.length l.length)/\W.cell? (w,0)=some ↑fk/\W.cell? (w,1)=some ↑j/\W.cell? (w,2)=some ↑fa/\W.cell? (w,3)=some (.slice Ad fd.length cd)):=af λW hW=>by
    have hX2:=hX.below hW hX.lt;exact⟨H.below hW,kp0.below hW,(H.below hW).blk.cell 0 rfl,hX2.cell 0 rfl,hX2.cell 1 rfl,hX2.cell 2 rfl,hX2.cell 3 rfl⟩
   unfold ftV at hC;simp only at hC;have hS:=af (show kS ⟨fk,j,fa,fd⟩ (l.map Prod.snd)=(l.map Prod.snd).set j (s.strike ⟨fk,j,fa,fd⟩) by unfold kS;simp only;rw[ai h4];simp only[aQ];rw[hk2]);have e4:∀i:Nat,decide (fk=4/\(j:Int)=i)=false:=λi=>by simp[h4]
   simp only[h4,false_and,decide_false,gX,dB]
   go_enter Tryz.func102,Tryz.ntmps102
   go_wp2_with fail;generalize(w.alloc (.cells #[↑fk,↑j,↑fa,.slice Ad fd.length cd] 56))=w0 at *;have HB:Hid (∀n,Below w0 w0 (w0.drewN n)):=af λn=>aC (ah _ _) n;clear h H hX hb0 kp0 hd hd1 hsz
   go_quiet (fail)
   clear x0 x1 x2 x3 y0;have hB:=HB.o nq;clear HB;generalize w0.drewN nq=w1 at *;obtain⟨-,-,y0,x0,x1,x2,x3⟩:=HN.o w1 hB;go_wp2_with fail
   go_region_with (first
    |(go_at_call 149;refine(hC w1.drew hB.drew).o.mono ?_;rintro e w2 ⟨u,rfl,hs2,hO2⟩)
    |fail)
   all_goals
    obtain⟨H2,K2,-⟩:=HN.o w1.drew hB.drew;have H3:=af (H2.only hO2 hs2 (by simp));have K3:=af (K2.trans (Kw.only hO2 (by simp)));clear H2 K2 hs2 hO2 hC HN;go_wp2;exact aD (ax (by rfl) _ _ _) rfl ⟨rfl,_,by simp,H3.o,K3.o⟩
  ·have q1:decide ((j:Int)<(l.length:Nat))=false:=by simp;omega
   have hk2:(l.map Prod.snd)[j]?=none:=by simp;omega
   rw[hk2];simp only[h4,false_and,decide_false,gX,dB];have HN:Hid (∀n,XAt ((w.alloc (.cells #[↑fk,↑j,↑fa,.slice Ad fd.length cd] 56)).drewN n) P x b l c d/\Kw [x,b] w ((w.alloc (.cells #[↑fk,↑j,↑fa,.slice Ad fd.length cd] 56)).drewN n)):=af λn=>⟨H.drewN n,kp0.below (aC (ah _ _) n)⟩
   go_enter Tryz.func102,Tryz.ntmps102
   go_wp2_with fail
   go_quiet (fail)
   all_goals
    go_wp2;exact aD (ax (by rfl) _ _ _) rfl ⟨rfl,l,rfl,(HN.o _).1,(HN.o _).2⟩
end
end Go.Proofs.YteadkhigkmijiaaGreat
