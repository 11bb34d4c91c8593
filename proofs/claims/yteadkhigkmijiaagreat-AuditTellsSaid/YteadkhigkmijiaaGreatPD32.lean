/- Texts QgB, RaS, RaE, RaN in one. -/
import Derived.Deep.RegionWith
import Derived.Deep.RegionHeld3
import Derived.Test.YteadkhigkmijiaaGreatPD1
import Derived.Test.YteadkhigkmijiaaGreatPD18
import Derived.Test.YteadkhigkmijiaaGreatPD23
import Derived.Test.YteadkhigkmijiaaGreatPD25
import Derived.Test.YteadkhigkmijiaaGreatPD29
import Derived.Test.YteadkhigkmijiaaGreatPD31
set_option linter.all false
namespace Go.Proofs.YteadkhigkmijiaaGreat
section
set_option maxRecDepth 100000
set_option maxHeartbeats 4000000
open Go.RowKit
open Clk (avg)
def rgc(t:Tb.T)(V L:Value)(kn:Bool)(sl now si:Int):Array Value:=#[V,↑t.dr,↑t.wi,↑t.lm,↑kn,↑sl,↑now,↑t.lm,L,↑si]
structure RC(Q:GS)(W:World)(g:Nat)(t:Tb.T)(kn:Bool)(sl now si:Int)(L:Value)(l:List Int):Prop where
 ex:∃V,Blk W g (rgc t V L kn sl now si) 176/\jh W W V t.ns/\(t.ns≠[]->V.ownBlock≠some g)/\Nar (λk=>Q k\/Q.ro k) V t.ns
 ls:ja W W L l
 lf:jv L≠some g
 ln:l≠[]->∀b,jv L=some b->Q b
 q:Q g
section
variable {Q:GS}{W W':World}{g:Nat}{t:Tb.T}{kn:Bool}{sl now si:Int}{L:Value}{l:List Int}
theorem RC.lt(h:RC Q W g t kn sl now si L l):g<W.heap.size:=by
 obtain⟨V,hB,-⟩:=h.ex;exact hB.lt
theorem RC.below(h:RC Q W g t kn sl now si L l)(b:Below W W W'):RC Q W' g t kn sl now si L l:=by
 obtain⟨V,hB,hT,hf,hn⟩:=h.ex;exact⟨⟨V,hB.below b hB.lt,(hT.below b).more b.size,hf,hn⟩,(h.ls.below b).more b.size,h.lf,h.ln,h.q⟩
theorem RC.drew(h:RC Q W g t kn sl now si L l):RC Q W.drew g t kn sl now si L l:=h.below (ah _ W).drew
theorem RC.drewN(h:RC Q W g t kn sl now si L l)(n:Nat):RC Q (W.drewN n) g t kn sl now si L l:=h.below (aC (ah _ W) n)
theorem RC.alloc(h:RC Q W g t kn sl now si L l)(o:Obj):RC Q (W.alloc o) g t kn sl now si L l:=h.below ((ah _ W).alloc lr o)
theorem RC.up(h:RC Q W g t kn sl now si L l)(k:Nat)(y:Value){kn':Bool}{sl' now' si':Int}(e:∀V,(rgc t V L kn sl now si).setIfInBounds k y=rgc t V L kn' sl' now' si'):RC Q (W.setCell (g,k) y) g t kn' sl' now' si' L l:=by
 obtain⟨V,hB,hT,hf,hn⟩:=h.ex;have o:Only g W (W.setCell (g,k) y):=(aE g W).set k y;have kk:Kp [g] W (W.setCell (g,k) y):=o.kp (by simp);exact⟨⟨V,(hB.set k y).eq (e V),hT.p9 (λf hf' h0=>by rw[bD.1 hf'];exact hf h0) kk,hf,hn⟩,h.ls.p9 (λf hf' _=>by rw[bD.1 hf'];exact h.lf) kk,h.lf,h.ln,h.q⟩
theorem RC.clock(h:RC Q W g t kn sl now si L l):∃c:Cx 7,RKg c W g t.lm L l/\
  ∀W' v' l',RKg c W' g t.lm v' l'->Only g W W'->(l'≠[]->∀k,jv v'=some k->Q k)->RC Q W' g t kn sl now si v' l':=by
 obtain⟨V,hB,hT,hf,hn⟩:=h.ex;refine⟨⟨#[V,↑t.dr,↑t.wi,↑t.lm,↑kn,↑sl,↑now],#[↑si],176,rfl⟩,⟨hB,h.ls,h.lf⟩,λW' v' l' hk o hq=>?_⟩;exact⟨⟨V,hk.blk,hT.p9 (λf hf' h0=>by rw[bD.1 hf'];exact hf h0) (o.kp (F:=[g]) (by simp)),hf,hn⟩,hk.sees,hk.far,hq,h.q⟩
theorem RC.frozen(h:RC Q W g t kn sl now si L l)(o:Nat):W.frozen? (g,o)=false:=by
 obtain⟨V,hB,-⟩:=h.ex;exact hB.frozen o
theorem RC.c2(h:RC Q W g t kn sl now si L l):W.cell? (g,2)=some ↑t.wi:=by obtain⟨V,hB,-⟩:=h.ex;exact hB.cell 2 rfl
theorem RC.c4(h:RC Q W g t kn sl now si L l):W.cell? (g,4)=some ↑kn:=by obtain⟨V,hB,-⟩:=h.ex;exact hB.cell 4 rfl
theorem RC.c5(h:RC Q W g t kn sl now si L l):W.cell? (g,5)=some ↑sl:=by obtain⟨V,hB,-⟩:=h.ex;exact hB.cell 5 rfl
theorem RC.c6(h:RC Q W g t kn sl now si L l):W.cell? (g,6)=some ↑now:=by obtain⟨V,hB,-⟩:=h.ex;exact hB.cell 6 rfl
theorem RC.c9(h:RC Q W g t kn sl now si L l):W.cell? (g,9)=some ↑si:=by obtain⟨V,hB,-⟩:=h.ex;exact hB.cell 9 rfl
theorem RC.c0(h:RC Q W g t kn sl now si L l):∃A c,W.cell? (g,0)=some (.slice A t.ns.length c)/\jh W W (.slice A t.ns.length c) t.ns:=by
 obtain⟨V,hB,hT,-⟩:=h.ex;obtain⟨A,c,rfl,-⟩:=hT.at_;exact⟨A,c,hB.cell 0 rfl,hT⟩
theorem RC.lV(h:RC Q W g t kn sl now si L l){j:Nat}(hj:j<t.ns.length):∃bl off c,W.cell? (g,0)=some (.slice (some ⟨bl,off,none⟩) t.ns.length c)/\W.cell? ⟨bl,off+j*4,none⟩=some ↑(t.ns.getD j default).sy/\t.ns.length<=c:=by
 obtain⟨A,c,h0,hs⟩:=h.c0;obtain⟨A',c',e,h1,-,h3,-⟩:=hs.at_
 cases e
 obtain⟨bl,off,rfl,hb,hd⟩:=h3 (by omega);exact⟨bl,off,c,h0,(hd j hj).1,h1⟩
end
def nxt(N k:Nat):Nat:=if k+1=N then 0 else k+1
theorem MF(Q:GS)(g:Nat)(t:Tb.T)(kn:Bool)(k:Nat)(now si:Int)(L:Value)(l:List Int)(w:World)(h:RC Q w g t kn (k:Nat) now si L l)(hk:k<t.ns.length)(h8:t.ns.length<=8)(hsm:small l)(h4:l.length<=4)(hlm:0<=t.lm/\t.lm<=1099511627776)(jz:-2251799813685248<=now/\now<=2251799813685248):
  Calls Tryz.prog 210 #[↑(g,0)] w λe w'=>e=.returned (.tuple #[])/\(∃L',RC Q w' g t kn (nxt t.ns.length k:Nat) (if k+1=t.ns.length then now+jb t.lm l else now) si L' (if k+1=t.ns.length then []else l))/\Only g w w':=by
 have x5:=h.c5;have f5:=h.frozen 5;have h1:=h.up 5 ↑((k:Int)+1:Int) (sl':=(k:Int)+1) (λ_=>rfl);have o1:=(aE g w).set 5 ↑((k:Int)+1:Int);have wk:IntKind.i64.wrap ((k:Int)+1)=(k:Int)+1:=aO _ (by omega);have H:=af (aL h h1);by_cases hN:k+1=t.ns.length
 ·rw[au hN,au hN,show nxt t.ns.length k=0 by unfold nxt;rw[au hN]]
  have q1:decide ((k:Int)+1<((t.ns.length:Nat):Int))=false:=aj (by omega);obtain⟨A,c,x0,-⟩:=h1.c0;have y5:=h1.c5;obtain⟨T,hT0⟩:∃T,now+jb t.lm l=T:=⟨_,rfl⟩;rw[hT0];have hT1:=af hT0;clear h h1 hT0
  go_enter Tryz.func210,Tryz.ntmps210
  go_wp2_with fail;generalize w.setCell (g,5) ↑((k:Int)+1:Int)=w1 at *
  go_quiet (fail)
  have h2:=H.o.2.drewN nq;have o2:=o1.trans (iQ g (aC (ah _ w1) nq));clear x0 y5 H o1 x5 f5;generalize w1.drewN nq=w2 at *;have x5:=h2.c5;have f5:=h2.frozen 5;have h3:=h2.up 5 ↑(0:Int) (sl':=0) (λ_=>rfl);have o3:=o2.set 5 ↑(0:Int);obtain⟨cx,hc,hup⟩:=h3.clock;have hT:=af (MD cx g t.lm L l _ hc hsm h4 hlm);have h3:=af h3;clear h2 hc hup;go_wp2_with fail;refine hT.o.mono ?_;rintro _ w4 ⟨rfl,b4⟩;have h4':=h3.o.below b4;have o4:=o3.trans (iQ g b4);clear hT h3 o3 x5 f5 o2;have tv:=sX t.lm l hlm.1;have tn:wiB t.lm (avg l)=false->jb t.lm l=0:=λe=>by unfold jb;rw[e];rfl
  have x6:=h4'.c6;have f6:=h4'.frozen 6
  cases hw:wiB t.lm (avg l)
  ·obtain rfl:now=T:=by have:=hT1.o;rw[tn hw]at this;omega
   obtain⟨cy,hc,hup⟩:=h4'.clock;have hC:=af (wR cy g t.lm L l _ hc);have hup:=af hup;clear h4' hc;go_wp2_with fail;refine hC.o.mono ?_;rintro _ w5 ⟨rfl,hk5,o5⟩;have h6:=af (hup.o _ _ _ hk5 o5 (λh=>absurd rfl h));go_wp2;exact aD (ax (by rfl) _ _ _) rfl ⟨rfl,⟨_,by simpa using h6.o⟩,o4.trans o5⟩
  ·have w6:IntKind.i64.wrap (now+jb t.lm l)=T:=(aO _ (by omega)).trans hT1.o
   have h5:=h4'.up 6 ↑T (now':=T) (λ_=>rfl);have o5:=o4.set 6 ↑T;obtain⟨cy,hc,hup⟩:=h5.clock;have hC:=af (wR cy g t.lm L l _ hc);have hup:=af hup;clear h4' hc h5 tn;go_wp2_with fail;refine hC.o.mono ?_;rintro _ w5 ⟨rfl,hk5,o6⟩;have h6:=af (hup.o _ _ _ hk5 o6 (λh=>absurd rfl h));go_wp2;exact aD (ax (by rfl) _ _ _) rfl ⟨rfl,⟨_,by simpa using h6.o⟩,o5.trans o6⟩
 ·rw[ai hN,ai hN,show nxt t.ns.length k=k+1 by unfold nxt;rw[ai hN]]
  have q1:decide ((k:Int)+1<((t.ns.length:Nat):Int))=true:=av (by omega);obtain⟨A,c,x0,-⟩:=h1.c0;have y5:=h1.c5;clear h h1
  go_enter Tryz.func210,Tryz.ntmps210
  go_wp2_with fail;generalize w.setCell (g,5) ↑((k:Int)+1:Int)=w1 at *
  go_quiet (fail)
  have h2:=af (H.o.2.drewN nq);have o2:=af (o1.trans (iQ g (aC (ah _ w1) nq)));go_wp2;exact aK (ax (by rfl) _ _ _) rfl ⟨rfl,⟨L,by have:=h2.o;simpa using this⟩,o2.o⟩
end
section
set_option maxRecDepth 100000
set_option maxHeartbeats 2000000
open Go.RowKit
open Fr (St F)
theorem Ea(b:Bool)(G:GS)(g:Nat)(m:NM)(x:RX)(k:Int)(w:World)(h:RA b G w g m x)(hd:iK m.da):
  Calls Tryz.prog 117 #[↑(g,0),↑k] w λe w'=>∃v,e=.returned v/\iJ w' w v (kJ (m.frm k))/\RA true G w' g m x/\KG G w w':=by
 have c17:=h.c17;have f17:=h.frozen 17;have hg:=h.G_;have h1:=h.sSe true;have hk1:Hid (KG G w (w.setCell (g,17) ↑true)):=af (((aE g w).set 17 _).kg hg);have hz:(w.setCell (g,17) ↑true).heap.size=w.heap.size:=by simp[World.setCell]
 clear h
 go_enter Tryz.func117,Tryz.ntmps117
 go_wp2_with fail;clear c17 f17;generalize w.setCell (g,17) _=w1 at *;obtain⟨A,c,c15,hD⟩:=h1.c15;have HV:=λW(hW:Below w1 w1 W)=>af (show Calls Tryz.prog 43 #[↑(g,0)] W λe w'=>e=.returned (.agg #[↑m.rd,↑(m.sl:Nat),↑(m.ty.m:Nat)])/\Below W W w' from ug true G g m x W (h1.below hW));have HE:=λW(hW:Below w1 w1 W)=>af (JZ (m.frm k) (.slice A m.da.length c) W ((hD.1.1.below hW).more hW.size) hd);unfold Enc at HE;have HS:∀W,Below w1 w1 W->W.cell? (g,15)=some (.slice A m.da.length c):=λW hW=>(hW.cell (p:=(g,15)) h1.lt).trans c15;have h1:=af h1;have b0:=(ah w1 w1).drew;have S0:=af (HS _ b0);have HH:=af HS;clear HS hD;go_wp2_with fail;clear c15
 go_region_held3 (λW=>W.cell? (g,15)=some (.slice A m.da.length c)) ((first|exact S0.o|exact S1.o|exact S2.o))
  (first
   |(go_at_call 43;refine(HV _ b0).o.mono ?_;rintro _ w2 ⟨rfl,b2⟩;(have b3:=b0.trans (b2.mono (by simp)));(have S1:=af (HH.o _ b3)))
   |(go_at_call 173;refine(HE _ b3).o.mono ?_;rintro _ w4 ⟨v,rfl,ho,b4⟩;(have b5:=b3.trans (b4.mono b3.size));(have S2:=af (HH.o _ b5)))
   |fail)
 have h5:=af (h1.o.below b5);have hk5:=af (hk1.o.trans (iZ b5));have hz2:w.heap.size<=w2.heap.size:=by have:=b3.size;omega
 have hf:=af (ho.base hz2);clear S0 S1 S2 HH HV HE h1 ho;go_wp2;go_ret;exact⟨v,rfl,hf.o,h5.o,hk5.o⟩
theorem Oq(b:Bool)(G:GS)(g:Nat)(m:NM)(x:RX)(w:World)(h:RA b G w g m x)(hG:GN G w)(hi:m.i<m.t.ns.length)(hi8:m.i<8)(hd:iK m.da)(hw:(m.wt:Int)+1<m.me.li)(hw0:(m.wt:Int)<m.me.li)(hl:m.me.li<=1000):
  Calls Tryz.prog 113 #[↑(g,0)] w λe w'=>e=.returned (.slice none 0 0)/\RA b G w' g {m with wt:=m.wt+1} x/\KG G w w':=by
 have c16:=h.c16;have f16:=h.frozen 16;have hg:=h.G_;have hwr:IntKind.i64.wrap (((m.wt:Nat):Int)+1)=((m.wt:Nat):Int)+1:=aO _ (by omega);have h1:=h.sWt (m.wt+1);have q1:decide (((m.wt:Nat):Int)+1<m.me.li)=true:=av (by omega);rw[show(((m.wt+1:Nat)):Int)=((m.wt:Nat):Int)+1 by push_cast;rfl]at h1;have hk1:Hid (KG G w (w.setCell (g,16) ↑(((m.wt:Nat):Int)+1:Int))):=af (((aE g w).set 16 _).kg hg);obtain⟨N,hN⟩:∃N,m.t.ns.length=N:=⟨_,rfl⟩;obtain⟨i,hii⟩:∃i,m.i=i:=⟨_,rfl⟩;obtain⟨li,hli⟩:∃li,m.me.li=li:=⟨_,rfl⟩;obtain⟨bl,off,cn,e0,hbl,⟨-,-,e2,-⟩,hcn⟩:=h1.lV hi;have c0:_=some (Value.slice (some (bl,off)) m.t.ns.length cn):=e0;have d2:(w.setCell (g,16) ↑(((m.wt:Nat):Int)+1:Int)).cell? (bl,off+m.i*4+2)=some (Value.int .i64 m.me.li):=e2;have c4:_=some (Value.int .i64 (m.i:Nat)):=h1.c4;have um:=h1.c16;rw[show(((m.wt+1:Nat)):Int)=((m.wt:Nat):Int)+1 by push_cast;rfl]at um;clear e0 e2;rw[hN]at c0;rw[hii]at c4;rw[hli,hii]at d2;rw[hli]at q1;have hiN:i<N:=by rw[<-hii,<-hN];exact hi
 have hcN:N<=cn:=by rw[<-hN];exact hcn
 clear hii hli hi hcn hw hw0 hl;have h1:=af h1;have hGw:=hG.up hk1.o.size;clear hN;clear h
 go_enter Tryz.func113,Tryz.ntmps113
 go_wp2_with fail;clear c16 f16;generalize w.setCell (g,16) _=w1 at *
 go_quiet (fail)
 go_wp2;go_ret;exact⟨rfl,h1.o.drewN _,hk1.o.trans (iZ (aC (ah _ _) _))⟩
theorem Ou(b:Bool)(G:GS)(g:Nat)(m:NM)(x:RX)(w:World)(h:RA b G w g m x)(hG:GN G w)(hi:m.i<m.t.ns.length)(hi8:m.i<8)(hd:iK m.da)(hw:¬(m.wt:Int)+1<m.me.li)(hw0:(m.wt:Int)<m.me.li)(hl:m.me.li<=1000):
  Calls Tryz.prog 113 #[↑(g,0)] w λe w'=>∃v,e=.returned v/\iJ w' w v (kJ (({m.begun with se:=true}:NM).frm 3))/\RS true G w' g {m.begun with se:=true}/\KG G w w':=by
 have c16:=h.c16;have f16:=h.frozen 16;have hg:=h.G_;have hwr:IntKind.i64.wrap (((m.wt:Nat):Int)+1)=((m.wt:Nat):Int)+1:=aO _ (by omega);have h1:=h.sWt (m.wt+1);have q1:decide (((m.wt:Nat):Int)+1<m.me.li)=false:=aj (by omega);rw[show(((m.wt+1:Nat)):Int)=((m.wt:Nat):Int)+1 by push_cast;rfl]at h1;have hk1:Hid (KG G w (w.setCell (g,16) ↑(((m.wt:Nat):Int)+1:Int))):=af (((aE g w).set 16 _).kg hg);obtain⟨N,hN⟩:∃N,m.t.ns.length=N:=⟨_,rfl⟩;obtain⟨i,hii⟩:∃i,m.i=i:=⟨_,rfl⟩;obtain⟨li,hli⟩:∃li,m.me.li=li:=⟨_,rfl⟩;obtain⟨bl,off,cn,e0,hbl,⟨-,-,e2,-⟩,hcn⟩:=h1.lV hi;have c0:_=some (Value.slice (some (bl,off)) m.t.ns.length cn):=e0;have d2:(w.setCell (g,16) ↑(((m.wt:Nat):Int)+1:Int)).cell? (bl,off+m.i*4+2)=some (Value.int .i64 m.me.li):=e2;have c4:_=some (Value.int .i64 (m.i:Nat)):=h1.c4;have um:=h1.c16;rw[show(((m.wt+1:Nat)):Int)=((m.wt:Nat):Int)+1 by push_cast;rfl]at um;clear e0 e2;rw[hN]at c0;rw[hii]at c4;rw[hli,hii]at d2;rw[hli]at q1;have hiN:i<N:=by rw[<-hii,<-hN];exact hi
 have hcN:N<=cn:=by rw[<-hN];exact hcn
 clear hii hli hi hcn hw hw0 hl;have h1:=af h1;have hGw:=hG.up hk1.o.size;clear hN;clear h
 go_enter Tryz.func113,Tryz.ntmps113
 go_wp2_with fail;clear c16 f16;generalize w.setCell (g,16) _=w1 at *
 go_quiet (fail)
 clear c0 c4 um d2;have hA:=af (λn=>qi b G g {m with wt:=m.wt+1} x 2 (w1.drewN n) (h1.o.drewN n) (hGw.up (by simp)));clear h1;go_wp2_with fail;refine(hA.o _).mono ?_;rintro _ w2 ⟨rfl,⟨x2,h2⟩,k2⟩;have h2:RA false G w2 g (m.anew 2) x2:=h2;have c4:_=some (Value.int .i64 (m.i:Nat)):=h2.c4;have c8:=h2.c8;have f8:=h2.frozen 8;have h3:RA false G _ g ({m.anew 2 with sl:=m.i}:NM) x2:=h2.sSl m.i;have k3:Hid (KG G w (w2.setCell (g,8) ↑(m.i:Nat))):=af (((hk1.o.trans (iZ (aC (ah _ _) _))).trans k2).trans (((aE g w2).set 8 _).kg hg));clear h2 k2 hA;go_wp2_with fail;clear c4 c8 f8;generalize w2.setCell (g,8) _=w3 at *;have HS:∀W,RA false G W g ({m.anew 2 with sl:=m.i}:NM) x2->W.cell? (g,9)=some ↑(x2.m,0)/\W.cell? (g,4)=some ↑(m.i:Nat):=λW h=>⟨h.c9,h.c4⟩;have hd3:=h3.drew;have S0:=af (HS _ hd3);have hJ:=af (xE x2.m ⟨0,0,0⟩ (m.i:Nat) w3.drew hd3.ty);have hgm:=h3.gs x2.m (by simp[RX.own]);have hUp:=af (λw4(hT:TAt 164 w4 x2.m ((⟨0,0,0⟩:TS).join (m.i:Nat)))(o:Only x2.m w3.drew w4)=>(show RA false G w4 g m.begun x2 from hd3.upM hT o));have hne:=h3.ne.2.2.2.2.2.1;have HT:=af (λw4(o:Only x2.m w3.drew w4)=>(show w4.cell? (g,9)=some ↑(x2.m,0)/\w4.cell? (g,4)=some ↑(m.i:Nat)from by
  obtain⟨p0,p1⟩:=HS _ hd3;have e1:w4.heap[g]?=w3.drew.heap[g]?:=o.block g hd3.lt (by simpa using hne);exact⟨gQ (by simp only[World.cell?,e1]) p0,gQ (by simp only[World.cell?,e1]) p1⟩))
 clear h3 hd3 HS
 go_region_held3 (λW=>W.cell? (g,9)=some ↑(x2.m,0)/\W.cell? (g,4)=some ↑(m.i:Nat)) ((first|exact S0.o|exact S1.o))
  (first
   |(go_at_call 115;refine hJ.o.mono ?_;rintro _ w4 ⟨rfl,hT,o4⟩;(have S1:=af (HT.o w4 o4));(have h5:=af (hUp.o w4 hT o4));(have k5:=af ((k3.o.trans (iZ (ah _ w3).drew)).trans (o4.kg hgm))))
   |fail)
 clear S0 S1 hJ hUp HT hT o4 k3;have hM:=af (Ea false G g m.begun x2 3 w4 h5.o hd);go_wp2_with fail;refine hM.o.mono ?_;rintro _ w6 ⟨v,rfl,hv,h6,k6⟩;have hf:=af (hv.base k5.o.size);have h7:=af (h6.se_ true);have k7:=af (k5.o.trans k6);clear hM h5 k5 h6 k6 hv;go_wp2;go_ret;exact⟨v,rfl,hf.o,⟨x2,h7.o⟩,k7.o⟩
end
section
set_option maxRecDepth 100000
set_option maxHeartbeats 2000000
open Go.RowKit
def Ent(G:GS)(g:Nat)(m:NM)(w:World):Prop:=Calls Tryz.prog 114 #[↑(g,0)] w λe w'=>e=.returned ↑(decide (m.enter.st=4))/\RS false G w' g m.enter/\KG G w w'
theorem Nv(G:GS)(g:Nat)(m:NM)(x:RX)(w:World)(h:RA false G w g m x)(hG:GN G w)(hst:m.st=2)(ha:m.ty.a<1000)(h0:m.ty.a=0):Ent G g m w:=by
 unfold Ent;have e:m.enter=m.anew 1:=by
  have ka:m.alone↔m.ty.a=0:=fS;have kc:m.clique↔m.ty.f<=m.ty.a:=fS;unfold NM.enter;rw[au hst,au (ka.2 h0)]
 have c6:_=some (Value.int .i64 ((m.st:Nat):Int)):=h.c6;rw[hst]at c6;have c6:w.cell? (g,6)=some ↑(2:Int):=c6;have c9:=h.c9;have hg:=h.G_;have ca:=h.ty.c1;rw[h0]at ca;have ca:w.cell? (x.m,1)=some ↑(0:Int):=ca;have hA:=af (λW(hr:RA false G W g m x)(hgn:GN G W)=>qi false G g m x 1 W hr hgn);have hk:=af h;clear h
 go_enter Tryz.func114,Tryz.ntmps114
 go_wp2_with fail;refine(hA.o w hk.o hG).mono ?_;rintro _ w2 ⟨rfl,⟨x2,h2⟩,k2⟩;have d6:w2.cell? (g,6)=some ↑(1:Int):=h2.c6;have h2:=af h2;clear hA c6 c9 ca;go_wp2;go_ret;rw[e];exact⟨rfl,⟨x2,h2.o⟩,k2⟩
theorem Nw(G:GS)(g:Nat)(m:NM)(x:RX)(w:World)(h:RA false G w g m x)(hG:GN G w)(hst:m.st=2)(ha:m.ty.a<1000)(h0:m.ty.a≠0):Ent G g m w:=by
 unfold Ent;have e:m.enter={m with st:=4}:=by
  have ka:m.alone↔m.ty.a=0:=fS;have kc:m.clique↔m.ty.f<=m.ty.a:=fS;unfold NM.enter;rw[au hst,ai (λh=>h0 (ka.1 h))]
 have c6:_=some (Value.int .i64 ((m.st:Nat):Int)):=h.c6;rw[hst]at c6;have c6:w.cell? (g,6)=some ↑(2:Int):=c6;have c9:=h.c9;have hg:=h.G_;have ca:=h.ty.c1;have qa:(((m.ty.a:Nat):Int)==0)=false:=by rw[aB];omega
 have f6:=h.frozen 6;have h2:=af (h.sSt 4);have k2:Hid (KG G w (w.setCell (g,6) ↑(4:Nat))):=af (((aE g w).set 6 _).kg hg);clear h
 go_enter Tryz.func114,Tryz.ntmps114
 go_wp2;go_ret;rw[e];exact⟨rfl,⟨x,h2.o⟩,k2.o⟩
theorem Ny(G:GS)(g:Nat)(m:NM)(x:RX)(w:World)(h:RA false G w g m x)(hG:GN G w)(hst:m.st=3)(ha:m.ty.a<1000)(h0:m.ty.a≠0)(hc:m.ty.f<=m.ty.a):Ent G g m w:=by
 unfold Ent;have e:m.enter={m with st:=4}:=by
  have ka:m.alone↔m.ty.a=0:=fS;have kc:m.clique↔m.ty.f<=m.ty.a:=fS;unfold NM.enter;rw[ai (by omega),au hst,au ⟨λh=>h0 (ka.1 h),kc.2 hc⟩]
 have c6:_=some (Value.int .i64 ((m.st:Nat):Int)):=h.c6;rw[hst]at c6;have c6:w.cell? (g,6)=some ↑(3:Int):=c6;have c9:=h.c9;have hg:=h.G_;have ca:=h.ty.c1;have qa:(((m.ty.a:Nat):Int)==0)=false:=by rw[aB];omega
 have hC:=af (λW(hr:RA false G W g m x)=>ru x.m m.ty W hr.ty ha);rw[av hc]at hC;have hk:=af h;have H2:=af (λn=>aL ((h.drewN n).c6) (aL ((h.drewN n).frozen 6) (aL ((h.drewN n).sSt 4) ((iZ (G:=G) (aC (ah _ w) n)).trans (((aE g (w.drewN n)).set 6 ↑(4:Nat)).kg hg)))));clear h
 go_enter Tryz.func114,Tryz.ntmps114
 go_wp2_with fail;refine(hC.o w hk.o).mono ?_;rintro _ w2 ⟨rfl,n,rfl⟩;obtain⟨d6,f6,h2,k2⟩:=H2.o n;have h2:=af h2;have k2:=af k2;go_wp2;go_ret;rw[e];exact⟨rfl,⟨x,h2.o⟩,k2.o⟩
theorem Nz(G:GS)(g:Nat)(m:NM)(x:RX)(w:World)(h:RA false G w g m x)(hG:GN G w)(hst:m.st=3)(ha:m.ty.a<1000)(h0:m.ty.a=0):Ent G g m w:=by
 unfold Ent;have e:m.enter={m with ty:=m.ty.clear}:=by
  have ka:m.alone↔m.ty.a=0:=fS;have kc:m.clique↔m.ty.f<=m.ty.a:=fS;unfold NM.enter;rw[ai (by omega),au hst,ai (λh=>h.1 (ka.2 h0))]
 have c6:_=some (Value.int .i64 ((m.st:Nat):Int)):=h.c6;rw[hst]at c6;have c6:w.cell? (g,6)=some ↑(3:Int):=c6;have c9:=h.c9;have hg:=h.G_;have ca:=h.ty.c1;rw[h0]at ca;have ca:w.cell? (x.m,1)=some ↑(0:Int):=ca;have hL:=af (xw x.m m.ty w h.ty);have hk:=af h;have hgm:=h.gs x.m (by simp[RX.own]);clear h
 go_enter Tryz.func114,Tryz.ntmps114
 go_wp2_with fail;refine hL.o.mono ?_;rintro _ w3 ⟨rfl,hT,o3⟩;have h3:RA false G w3 g {m with ty:=m.ty.clear} x:=hk.o.upM hT o3;have k3:=af ((o3.kg hgm));have d6:w3.cell? (g,6)=some ↑((m.st:Nat):Int):=h3.c6;rw[hst]at d6;have d6:w3.cell? (g,6)=some ↑(3:Int):=d6;have h3:=af h3;clear hT o3;go_wp2;go_ret;rw[e];exact⟨by show _=Ending.returned ↑(decide (m.st=4));rw[hst];rfl,⟨x,h3.o⟩,k3.o⟩
theorem NC(G:GS)(g:Nat)(m:NM)(x:RX)(w:World)(h:RA false G w g m x)(hG:GN G w)(hst:m.st=3)(ha:m.ty.a<1000)(h0:m.ty.a≠0)(hc:¬m.ty.f<=m.ty.a):Ent G g m w:=by
 unfold Ent;have e:m.enter={m with ty:=m.ty.clear}:=by
  have ka:m.alone↔m.ty.a=0:=fS;have kc:m.clique↔m.ty.f<=m.ty.a:=fS;unfold NM.enter;rw[ai (by omega),au hst,ai (λh=>hc (kc.1 h.2))]
 have c6:_=some (Value.int .i64 ((m.st:Nat):Int)):=h.c6;rw[hst]at c6;have c6:w.cell? (g,6)=some ↑(3:Int):=c6;have c9:=h.c9;have hg:=h.G_;have ca:=h.ty.c1;have qa:(((m.ty.a:Nat):Int)==0)=false:=by rw[aB];omega
 have hC:=af (λW(hr:RA false G W g m x)=>ru x.m m.ty W hr.ty ha);rw[aj hc]at hC;have hL:=af (λn=>xw x.m m.ty (w.drewN n) (h.drewN n).ty);have hk:=af h;have hgm:=h.gs x.m (by simp[RX.own]);have C:=af (λn=>aL ((h.drewN n).c6) ((h.drewN n).c9));clear h
 go_enter Tryz.func114,Tryz.ntmps114
 go_wp2_with fail;refine(hC.o w hk.o).mono ?_;rintro _ w2 ⟨rfl,n,rfl⟩;obtain⟨d6,d9⟩:=C.o n;rw[hst]at d6;go_wp2_with fail;refine(hL.o n).mono ?_;rintro _ w3 ⟨rfl,hT,o3⟩;have h3:RA false G w3 g {m with ty:=m.ty.clear} x:=(hk.o.drewN n).upM hT o3;have k3:=af ((iZ (aC (ah _ w) n)).trans (o3.kg hgm));have d6:w3.cell? (g,6)=some ↑((m.st:Nat):Int):=h3.c6;rw[hst]at d6;have d6:w3.cell? (g,6)=some ↑(3:Int):=d6;have h3:=af h3;clear hT o3;go_wp2;go_ret;rw[e];exact⟨by show _=Ending.returned ↑(decide (m.st=4));rw[hst];rfl,⟨x,h3.o⟩,k3.o⟩
theorem ND(G:GS)(g:Nat)(m:NM)(x:RX)(w:World)(h:RA false G w g m x)(hG:GN G w)(hst:m.st=4)(ha:m.ty.a<1000)(hc:¬m.ty.f<=m.ty.a):Ent G g m w:=by
 unfold Ent;have e:m.enter={m with st:=5}:=by
  have ka:m.alone↔m.ty.a=0:=fS;have kc:m.clique↔m.ty.f<=m.ty.a:=fS;unfold NM.enter;rw[ai (by omega),ai (by omega),au (λh=>hc (kc.1 h))]
 have c6:_=some (Value.int .i64 ((m.st:Nat):Int)):=h.c6;rw[hst]at c6;have c6:w.cell? (g,6)=some ↑(4:Int):=c6;have c9:=h.c9;have hg:=h.G_;have ca:=h.ty.c1;have hC:=af (λW(hr:RA false G W g m x)=>ru x.m m.ty W hr.ty ha);rw[aj hc]at hC;have hk:=af h;have H2:=af (λn=>aL ((h.drewN n).c6) (aL ((h.drewN n).frozen 6) (aL ((h.drewN n).sSt 5) ((iZ (G:=G) (aC (ah _ w) n)).trans (((aE g (w.drewN n)).set 6 ↑(5:Nat)).kg hg)))));clear h;generalize(m.ty.a:Nat)=aa at ca
 go_enter Tryz.func114,Tryz.ntmps114
 go_wp2_with fail;refine(hC.o w hk.o).mono ?_;rintro _ w2 ⟨rfl,n,rfl⟩;obtain⟨d6,f6,h2,k2⟩:=H2.o n;have h2:=af h2;have k2:=af k2;go_wp2;go_ret;rw[e];exact⟨rfl,⟨x,h2.o⟩,k2.o⟩
theorem NH(G:GS)(g:Nat)(m:NM)(x:RX)(w:World)(h:RA false G w g m x)(hG:GN G w)(hst:m.st=4)(ha:m.ty.a<1000)(h0:m.ty.a=0)(hc:m.ty.f<=m.ty.a):Ent G g m w:=by
 unfold Ent;have e:m.enter=m.anew 1:=by
  have ka:m.alone↔m.ty.a=0:=fS;have kc:m.clique↔m.ty.f<=m.ty.a:=fS;unfold NM.enter;rw[ai (by omega),ai (by omega),ai (λh=>h (kc.2 hc)),au (ka.2 h0)]
 have c6:_=some (Value.int .i64 ((m.st:Nat):Int)):=h.c6;rw[hst]at c6;have c6:w.cell? (g,6)=some ↑(4:Int):=c6;have c9:=h.c9;have hg:=h.G_;have ca:=h.ty.c1;rw[h0]at ca;have ca:w.cell? (x.m,1)=some ↑(0:Int):=ca;have hC:=af (λW(hr:RA false G W g m x)=>ru x.m m.ty W hr.ty ha);rw[av hc]at hC;have hA:=af (λW(hr:RA false G W g m x)(hgn:GN G W)=>qi false G g m x 1 W hr hgn);have hk:=af h;clear h
 go_enter Tryz.func114,Tryz.ntmps114
 go_wp2_with fail;refine(hC.o w hk.o).mono ?_;rintro _ w1 ⟨rfl,n,rfl⟩;go_wp2_with fail;refine(hA.o _ (hk.o.drewN n) (hG.up (by simp))).mono ?_;rintro _ w2 ⟨rfl,⟨x2,h2⟩,k2⟩;have d6:w2.cell? (g,6)=some ↑(1:Int):=h2.c6;have h2:=af h2;clear hA c6 c9 ca;go_wp2;go_ret;rw[e];exact⟨rfl,⟨x2,h2.o⟩,(iZ (aC (ah _ w) n)).trans k2⟩
theorem NK(G:GS)(g:Nat)(m:NM)(x:RX)(w:World)(h:RA false G w g m x)(hG:GN G w)(hst:m.st=4)(ha:m.ty.a<1000)(h0:m.ty.a≠0)(hc:m.ty.f<=m.ty.a):Ent G g m w:=by
 unfold Ent;have e:m.enter=m:=by
  have ka:m.alone↔m.ty.a=0:=fS;have kc:m.clique↔m.ty.f<=m.ty.a:=fS;unfold NM.enter;rw[ai (by omega),ai (by omega),ai (λh=>h (kc.2 hc)),ai (λh=>h0 (ka.1 h))]
 have c6:_=some (Value.int .i64 ((m.st:Nat):Int)):=h.c6;rw[hst]at c6;have c6:w.cell? (g,6)=some ↑(4:Int):=c6;have c9:=h.c9;have hg:=h.G_;have ca:=h.ty.c1;have qa:(((m.ty.a:Nat):Int)==0)=false:=by rw[aB];omega
 have hC:=af (λW(hr:RA false G W g m x)=>ru x.m m.ty W hr.ty ha);rw[av hc]at hC;have hk:=af h;have C:=af (λn=>(h.drewN n).c6);clear h
 go_enter Tryz.func114,Tryz.ntmps114
 go_wp2_with fail;refine(hC.o w hk.o).mono ?_;rintro _ w2 ⟨rfl,n,rfl⟩;have d6:=C.o n;rw[hst]at d6;go_wp2;go_ret;rw[e,hst];exact⟨rfl,⟨x,hk.o.drewN n⟩,iZ (aC (ah _ w) n)⟩
theorem DW(G:GS)(g:Nat)(m:NM)(x:RX)(w:World)(h:RA false G w g m x)(hG:GN G w)(hst:m.st=2\/m.st=3\/m.st=4)(ha:m.ty.a<1000):Ent G g m w:=by
 rcases hst with hs|hs|hs
 ·by_cases h0:m.ty.a=0
  ·exact Nv G g m x w h hG hs ha h0
  ·exact Nw G g m x w h hG hs ha h0
 ·by_cases h0:m.ty.a=0
  ·exact Nz G g m x w h hG hs ha h0
  ·by_cases hc:m.ty.f<=m.ty.a
   ·exact Ny G g m x w h hG hs ha h0 hc
   ·exact NC G g m x w h hG hs ha h0 hc
 ·by_cases hc:m.ty.f<=m.ty.a
  ·by_cases h0:m.ty.a=0
   ·exact NH G g m x w h hG hs ha h0 hc
   ·exact NK G g m x w h hG hs ha h0 hc
  ·exact ND G g m x w h hG hs ha hc
end
section
set_option maxRecDepth 100000
set_option maxHeartbeats 4000000
open Go.RowKit
def Snd(G:GS)(g:Nat)(m m':NM)(k:Int)(w:World):Prop:=Calls Tryz.prog 74 #[↑(g,0)] w λe w'=>∃v,e=.returned v/\iJ w' w v (if k=0 then []else kJ (m'.frm k))/\RS m'.se G w' g m'/\KG G w w'
theorem rB{b:Bool}{G:GS}{g:Nat}{m:NM}{x:RX}{w:World}(h:RA b G w g m x):RA false G (w.setCell (g,17) ↑false) g m x/\KG G w (w.setCell (g,17) ↑false):=⟨h.sSe false,((aE g w).set 17 _).kg h.G_⟩
theorem Oo(b:Bool)(G:GS)(g:Nat)(m:NM)(x:RX)(w:World)(h:RA b G w g m x)(hG:GN G w)(hj:NJ m)(hst:m.st=1)(hw:(m.wt:Int)+1<m.me.li):Snd G g m {m with wt:=m.wt+1,se:=false} 0 w:=by
 unfold Snd;have c17:=h.c17;have f17:=h.frozen 17;obtain⟨h1,k1⟩:=rB h;have c6:_=some (Value.int .i64 ((m.st:Nat):Int)):=h1.c6;rw[hst]at c6;have c6:(w.setCell (g,17) ↑false).cell? (g,6)=some ↑(1:Int):=c6;have hL:=af (Oq false G g m x _ h1 (hG.up k1.size) hj.i (by have:=hj.may.n8;have:=hj.i;omega) hj.da.2 hw hj.wt (by have:=hj.meB;omega));have k1:=af k1;clear h h1 hw hj hst
 go_enter Tryz.func74,Tryz.ntmps74
 go_wp2_with fail;refine hL.o.mono ?_;rintro _ w2 ⟨rfl,h2,k2⟩;have h2:=af (h2.se_ false);have k2:=af (k1.o.trans k2);clear c17 f17 c6 hL k1;go_wp2;go_ret;exact⟨.slice none 0 0,rfl,bR,⟨x,h2.o⟩,k2.o⟩
theorem Ot(b:Bool)(G:GS)(g:Nat)(m:NM)(x:RX)(w:World)(h:RA b G w g m x)(hG:GN G w)(hj:NJ m)(hst:m.st=1)(hw:¬(m.wt:Int)+1<m.me.li):Snd G g m {m.begun with se:=true} 3 w:=by
 unfold Snd;have c17:=h.c17;have f17:=h.frozen 17;obtain⟨h1,k1⟩:=rB h;have c6:_=some (Value.int .i64 ((m.st:Nat):Int)):=h1.c6;rw[hst]at c6;have c6:(w.setCell (g,17) ↑false).cell? (g,6)=some ↑(1:Int):=c6;have hL:=af (Ou false G g m x _ h1 (hG.up k1.size) hj.i (by have:=hj.may.n8;have:=hj.i;omega) hj.da.2 hw hj.wt (by have:=hj.meB;omega));have hz:=k1.size;have k1:=af k1;clear h h1 hw hj hst
 go_enter Tryz.func74,Tryz.ntmps74
 go_wp2_with fail;refine hL.o.mono ?_;rintro _ w2 ⟨v,rfl,hv,⟨x2,h2⟩,k2⟩;have h2:=af h2;have k2:=af (k1.o.trans k2);have hf:=af (hv.base hz);clear c17 f17 c6 hL k1 hv;go_wp2;go_ret;exact⟨v,rfl,hf.o,⟨x2,h2.o⟩,k2.o⟩
theorem Ov(b:Bool)(G:GS)(g:Nat)(m:NM)(x:RX)(w:World)(h:RA b G w g m x)(h5:m.st<=5)(h1':m.st≠1)(hst:m.st=0\/m.st=5\/m.sl≠m.i):Snd G g m {m with se:=false} 0 w:=by
 unfold Snd;have c17:=h.c17;have f17:=h.frozen 17;obtain⟨h1,k1⟩:=rB h;have c6:_=some (Value.int .i64 ((m.st:Nat):Int)):=h1.c6;have c8:=h1.c8;have c4:=h1.c4;have hF:Hid (∀n,RA false G ((w.setCell (g,17) ↑false).drewN n) g {m with se:=false} x/\KG G w ((w.setCell (g,17) ↑false).drewN n)):=af λn=>⟨(h1.drewN n).se_ false,k1.trans (iZ (aC (ah _ _) n))⟩;clear h h1 k1;have hcase:m.st=0\/m.st=5\/(m.sl≠m.i/\(m.st=2\/m.st=3\/m.st=4)):=by omega
 clear hst h5 h1';rcases hcase with e|e|⟨e',e|e|e⟩
 all_goals
  rw[e]at c6;clear e
  try have q:((((m.sl:Nat):Int)) != (((m.i:Nat):Int)))=true:=by rw[bV];omega
  try clear e'
  generalize((m.sl:Nat):Int)=y at *;generalize((m.i:Nat):Int)=z at *
  go_enter Tryz.func74,Tryz.ntmps74
  go_wp2_with fail
  go_quiet (fail)
  go_wp2;go_ret;exact⟨.slice none 0 0,rfl,bR,⟨x,(hF.o _).1⟩,(hF.o _).2⟩
theorem Ow(b:Bool)(G:GS)(g:Nat)(m:NM)(x:RX)(w:World)(h:RA b G w g m x)(hG:GN G w)(hst:m.st=2\/m.st=3\/m.st=4)(hs:m.sl=m.i)(ha:m.ty.a<1000)(he:m.enter.st≠4):Snd G g m {m.enter with se:=false} 0 w:=by
 unfold Snd;have c17:=h.c17;have f17:=h.frozen 17;obtain⟨h1,k1⟩:=rB h;have c6:_=some (Value.int .i64 ((m.st:Nat):Int)):=h1.c6;have c8:=h1.c8;have c4:=h1.c4;rw[hs]at c8;have hE:=af (λn=>DW G g m x ((w.setCell (g,17) ↑false).drewN n) (h1.drewN n) (hG.up (by have:=k1.size;simp)) hst ha);unfold Ent at hE;rw[aj he]at hE;have D:=af (λn=>aL ((h1.drewN n).c6) (k1.trans (iZ (G:=G) (aC (ah _ _) n))));clear h h1 k1 hs ha he;rcases hst with e|e|e
 all_goals
  rw[e]at c6 D;clear e;generalize((m.i:Nat):Int)=z at *
  go_enter Tryz.func74,Tryz.ntmps74
  go_wp2_with fail
  go_quiet (fail)
  obtain⟨d6,k2⟩:=D.o _;have k2:=af k2;go_wp2_with fail;refine(hE.o _).mono ?_;rintro _ w3 ⟨rfl,⟨x3,h3⟩,k3⟩;have h3:=af (h3.se_ false);have k3:=af (k2.o.trans k3);clear c17 f17 c6 c8 c4 d6 D hE k2;go_wp2;go_ret;exact⟨.slice none 0 0,rfl,bR,⟨x3,h3.o⟩,k3.o⟩
theorem Ox{m:NM}(h:m.enter.st=4):m.enter={m with st:=4}:=by
 have key:m.enter={m with st:=4}\/m.enter.st≠4:=by
  unfold NM.enter
  split
  ·split
   ·exact .inr (by show(1:Nat)≠4;omega)
   ·exact .inl rfl
  ·split
   ·split
    ·exact .inl rfl
    ·rename_i h3 _;exact .inr (by show m.st≠4;omega)
   ·split
    ·exact .inr (by show(5:Nat)≠4;omega)
    ·split
     ·exact .inr (by show(1:Nat)≠4;omega)
     ·by_cases e:m.st=4
      ·exact .inl (by rw[<-e])
      ·exact .inr e
 rcases key with k|k
 ·exact k
 ·exact absurd h k
def NM.kd(m:NM):Int:=if m.me.inf=true\/m.st≠4\/m.rd%2=0 then 2 else 1
theorem Oy(b:Bool)(G:GS)(g:Nat)(m:NM)(x:RX)(w:World)(h:RA b G w g m x)(hG:GN G w)(hj:NJ m)(hst:m.st=2\/m.st=3\/m.st=4)(hs:m.sl=m.i)(ha:m.ty.a<1000)(he:m.enter.st=4):Snd G g m {m.enter.joined with se:=true} m.kd w:=by
 unfold Snd;rw[ai (by unfold NM.kd;split<;>decide)];have c17:=h.c17;have f17:=h.frozen 17;obtain⟨h1,k1⟩:=rB h;have c6:_=some (Value.int .i64 ((m.st:Nat):Int)):=h1.c6;have c8:=h1.c8;have c4:=h1.c4;rw[hs]at c8;have hE:=af (λn=>DW G g m x ((w.setCell (g,17) ↑false).drewN n) (h1.drewN n) (hG.up (by have:=k1.size;simp)) hst ha);unfold Ent at hE;rw[av he]at hE;have D:=af (λn=>aL ((h1.drewN n).c6) (k1.trans (iZ (G:=G) (aC (ah _ _) n))));have hes:=Ox he;have hme:m.enter.i=m.i:=by rw[hes]
 have ekd:m.kd=if m.me.inf=true\/m.st≠4\/m.rd%2=0 then 2 else 1:=rfl;have hin:m.enter.joined.i<m.enter.joined.t.ns.length:=by show m.enter.i<m.enter.t.ns.length;rw[hes];exact hj.i
 have hdef:m.enter.joined.t.ns.getD m.enter.joined.i default=m.me:=by show m.enter.t.ns.getD m.enter.i default=m.me;rw[hes];rfl
 have hda:iK m.enter.joined.da:=by show iK m.enter.da;rw[hes];exact hj.da.2
 have hrd:m.enter.joined.rd=m.rd:=by show m.enter.rd=m.rd;rw[hes]
 have hrb:=hj.rd;clear h h1 k1 hs ha he hj hes;generalize hm1:m.enter=m1 at *;generalize hm2:m1.joined=m2 at *;generalize hk:m.kd=kd at *;rcases hst with e|e|e
 all_goals
  rw[e]at c6 D
  go_enter Tryz.func74,Tryz.ntmps74
  go_wp2_with fail
  go_quiet (fail)
  obtain⟨d6,k2⟩:=D.o _;have k2:=af k2;go_wp2_with fail;refine(hE.o _).mono ?_;rintro _ w3 ⟨rfl,⟨x3,h3⟩,k3⟩;have k3:=af (k2.o.trans k3);clear c17 f17 c6 c8 c4 d6 D hE k2;go_wp2_with fail;have HS:∀W,RA false G W g m1 x3->W.cell? (g,9)=some ↑(x3.m,0)/\W.cell? (g,4)=some ↑(m1.i:Nat):=λW h=>⟨h.c9,h.c4⟩;have hd3:=h3.drew;have S0:=af (HS _ hd3);have hJ:=af (xE x3.m m1.ty (m1.i:Nat) w3.drew hd3.ty);have hgm:=h3.gs x3.m (by simp[RX.own]);have hUp:=af (λw4(hT:TAt 164 w4 x3.m (m1.ty.join (m1.i:Nat)))(o:Only x3.m w3.drew w4)=>hd3.upM hT o);have hne:=h3.ne.2.2.2.2.2.1;have HT:=af (λw4(o:Only x3.m w3.drew w4)=>(show w4.cell? (g,9)=some ↑(x3.m,0)/\w4.cell? (g,4)=some ↑(m1.i:Nat)from by
   obtain⟨p0,p1⟩:=HS _ hd3;have e1:w4.heap[g]?=w3.drew.heap[g]?:=o.block g hd3.lt (by simpa using hne);exact⟨gQ (by simp only[World.cell?,e1]) p0,gQ (by simp only[World.cell?,e1]) p1⟩))
  clear h3 hd3 HS hme
  go_region_held3 (λW=>W.cell? (g,9)=some ↑(x3.m,0)/\W.cell? (g,4)=some ↑(m1.i:Nat)) ((first|exact S0.o|exact S1.o))
   (first
    |(go_at_call 115;refine hJ.o.mono ?_;rintro _ w4 ⟨rfl,hT,o4⟩;(have S1:=af (HT.o w4 o4));(have h5:=hUp.o w4 hT o4);(have k5:=af ((k3.o.trans (iZ (ah _ w3).drew)).trans (o4.kg hgm))))
    |fail)
  clear S0 S1 hJ hUp HT hT o4 k3;have c9:w4.cell? (g,9)=some ↑(x3.m,0):=h5.c9;have hC:=af (xw x3.m _ w4 h5.ty);have h5:=af h5;go_wp2_with fail;refine hC.o.mono ?_;rintro _ w5 ⟨rfl,hT,o5⟩;have h6:RA false G w5 g m1.joined x3:=h5.o.upM hT o5;rw[hm2]at h6;have k6:=af (k5.o.trans (o5.kg hgm));clear h5 hC k5 hT o5 c9;obtain⟨bl,off,cn,c0,hbl,⟨-,d1,-,-⟩,hcn⟩:=h6.lV hin;rw[hdef]at d1;have c4:=h6.c4;have c7:=h6.c7;rw[hrd]at c7;have hm':Int.tmod m.rd 2=m.rd%2:=dA hrb.1;have hM:=af (λn k=>Ea false G g m2 x3 k (w5.drewN n) (h6.drewN n) hda);have hiN:m2.i<m2.t.ns.length:=hin;clear h6 hin hdef hda hm1 hm2 hrd hk;generalize m2.t.ns.length=N at *;generalize m2.i=i at *;generalize m.me.inf=q at *;generalize m.rd=r at *;rw[e]at ekd;clear e;rcases(by omega:r%2=0\/r%2=1)with hp|hp
  all_goals
   cases q
   all_goals
    have hkd:kd=2\/kd=1:=by rw[ekd];split<;>simp
    rcases hkd with rfl|rfl
    all_goals try (exfalso;simp[hp]at ekd;done)
    clear ekd;go_wp2_with fail
    go_quiet (fail)
    go_wp2_with fail;refine(hM.o _ _).mono ?_;rintro _ w7 ⟨v,rfl,hv,h7,k7⟩;have h8:=af (h7.se_ true);have hz6:=k6.o.size;have hf:=af (hv.base (B:=w.heap.size) (by simpa using hz6));have k8:=af (k6.o.trans ((iZ (aC (ah _ w5) _)).trans k7));clear hv h7 k7 hz6 c0 c4 c7 d1 hM k6;go_wp2;go_ret;exact⟨v,rfl,hf.o,⟨x3,h8.o⟩,k8.o⟩
end
end Go.Proofs.YteadkhigkmijiaaGreat
