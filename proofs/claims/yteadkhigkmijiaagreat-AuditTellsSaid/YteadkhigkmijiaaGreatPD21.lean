/- Texts NdK, NdX, LineJ, LineK, LineO in one. -/
import Derived.ScopeJumps
import Derived.WalkMore
import Derived.Deep.RegionHeld3
import Derived.Deep.RegionWith
import Derived.Deep.RegionLaw
import Derived.RegionTactic
import Derived.IntWalk
import Derived.StillTailTactics
import Derived.Test.YteadkhigkmijiaaGreatPD1
import Derived.Test.YteadkhigkmijiaaGreatPD12
import Derived.Test.YteadkhigkmijiaaGreatPD14
import Derived.Test.YteadkhigkmijiaaGreatPD15
import Derived.Test.YteadkhigkmijiaaGreatPD16
import Derived.Test.YteadkhigkmijiaaGreatPD20
set_option linter.all false
namespace Go.Proofs.YteadkhigkmijiaaGreat
section
set_option maxRecDepth 100000
set_option maxHeartbeats 4000000
open Go.RowKit
open Fr (St F)
theorem qO{P:Program}{Q:Exit->Act->World->Prop}{a:Act}{w:World}{c rest:Code}(l:Nat)(hf:findLabel c l=some rest)(first:c.wp P (Exit.jump l (λa w=>rest.wp P (Exit.jump l (λ_ _=>False) Q) a w) Q) a w):(Code.scope c).wp P Q a w:=
 wp_scope_jumps l _ (λ_ _=>0) hf first λa w h=>Code.wp_mono (λe a w hq=>by
  cases e
  case goto l'=>exact hq.2.elim
  all_goals exact hq) h
theorem NM.LN(m:NM):m.up.da=m.da:=by
 unfold NM.up NM.enter NM.anew
 repeat' split
 all_goals rfl
def NM.o(m:NM):NM:={m with ty:=(m.ty.join m.i).clear}
theorem ne1{n:Nat}(h:n≠1):∃s:Int,(s==1)=false/\((n:Nat):Int)=s:=by
 refine⟨n,?_,rfl⟩;rw[aB];omega
theorem LO(b:Bool)(G:Nat->Prop)(g:Nat)(m:NM)(w:World)(h:NA b G w g m)(h5:m.st<=5)(hr:0<=m.rd/\m.rd<=65535)(hst:m.st=1)(hw:(m.wt:Int)+1<m.me.li)(hl:m.me.li<=1000):
  Calls Tryz.prog 67 #[↑(g,0)] w λe w'=>e=.returned (.slice none 0 0)/\NA b G w' g {m with wt:=m.wt+1}/\Only g w w':=by
 have HK:=af (qN b G g m w h h5 hr);generalize m.kL=kv at *;have c10:=h.c10;have c12:=h.c12;have c8:=h.c8;rw[hst]at c10;have HW:=af (LA b G g m w h hw hl);clear h c12 c8 h5 hr hw hl hst
 go_enter Tryz.func67,Tryz.ntmps67
 go_wp2_with fail;refine qO 0 rfl ?_;go_wp2_with fail;refine HK.o.mono ?_;rintro _ _ ⟨rfl,rfl⟩;go_wp2_with fail;refine HW.o.mono ?_;rintro _ w1 ⟨rfl,h1,o1⟩;go_wp2;simp only[Exit.jump];go_ret;exact⟨rfl,h1,o1⟩
theorem LP(b:Bool)(G:Nat->Prop)(g:Nat)(m:NM)(w:World)(h:NA b G w g m)(h5:m.st<=5)(hr:0<=m.rd/\m.rd<=65535)(hst:m.st≠1)(hs:m.sl≠m.i):
  Calls Tryz.prog 67 #[↑(g,0)] w λe w'=>e=.returned (.slice none 0 0)/\NA b G w' g m/\Only g w w':=by
 have HK:=af (qN b G g m w h h5 hr);generalize m.kL=kv at *;have c10:=h.c10;have c12:=h.c12;have c8:=h.c8;obtain⟨s0,e1,es⟩:=ne1 hst;rw[es]at c10;have q:(((m.sl:Nat):Int)==((m.i:Nat):Int))=false:=by rw[aB];omega
 have h1:=af h;clear h h5 hr es hst hs;generalize((m.sl:Nat):Int)=y at *;generalize((m.i:Nat):Int)=z at *
 go_enter Tryz.func67,Tryz.ntmps67
 go_wp2_with fail;refine qO 0 rfl ?_;go_wp2_with fail;refine HK.o.mono ?_;rintro _ _ ⟨rfl,rfl⟩;go_wp2_with fail
 go_quiet (fail)
 go_wp2;simp only[Exit.jump];go_ret;exact⟨rfl,h1.o.drewN _,iQ g (aC (ah _ _) _)⟩
theorem CJ(b:Bool)(G:Nat->Prop)(g:Nat)(m:NM)(w:World)(h:NA b G w g m)(h5:m.st<=5)(hr:0<=m.rd/\m.rd<=65535)(hst:m.st≠1)(hs:m.sl=m.i)(hu:m.up.st≠4):
  Calls Tryz.prog 67 #[↑(g,0)] w λe w'=>e=.returned (.slice none 0 0)/\NA (m.upB b) G w' g m.up/\Only g w w':=by
 have HK:=af (qN b G g m w h h5 hr);generalize m.kL=kv at *;have c10:=h.c10;have c12:=h.c12;have c8:=h.c8;obtain⟨s0,e1,es⟩:=ne1 hst;rw[es]at c10;have HU:=λn=>af (CI b G g m (w.drewN n) (h.drewN n) h5 (by omega));rw[aj hu]at HU;rw[hs]at c12;generalize hq:m.up=m2 at *;generalize hq2:m.upB b=b2 at *;have HQ:=af (aL hq hq2);clear h h5 hr es hst hs hq hu hq2;generalize((m.i:Nat):Int)=z at *
 go_enter Tryz.func67,Tryz.ntmps67
 go_wp2_with fail;refine qO 0 rfl ?_;go_wp2_with fail;refine HK.o.mono ?_;rintro _ _ ⟨rfl,rfl⟩;go_wp2_with fail
 go_quiet (fail)
 go_wp2_with fail;refine(HU _).o.mono ?_;rintro _ w1 ⟨rfl,h1,o1⟩;go_wp2;simp only[Exit.jump];go_ret;exact⟨rfl,h1,(iQ g (aC (ah _ _) _)).trans o1⟩
theorem LQ(b:Bool)(G:Nat->Prop)(g:Nat)(m:NM)(w:World)(h:NA b G w g m)(h5:m.st<=5)(hr:0<=m.rd/\m.rd<=65535)(hst:m.st=1)(hw:m.me.li=(m.wt:Int)+1)(hl:m.me.li<=1000)(hb:iK m.da):
  Calls Tryz.prog 67 #[↑(g,0)] w λe w'=>∃v,e=.returned v/\iJ w' w v (kJ ⟨m.kL,(({m.anew 2 with sl:=m.i}:NM).o).view,(({m.anew 2 with sl:=m.i}:NM).o).da⟩)/\NA true G w' g (({m.anew 2 with sl:=m.i}:NM).o)/\Only g w w':=by
 have HK:=af (qN b G g m w h h5 hr);generalize m.kL=kv at *;have c10:=h.c10;have c12:=h.c12;have c8:=h.c8;rw[hst]at c10;have HW:=af (LB b G g m w h hw hl);have hb:iK (({m.anew 2 with sl:=m.i}:NM).o).da:=hb;generalize({m.anew 2 with sl:=m.i}:NM)=m1 at *;clear h c12 c8 h5 hr hw hl hst
 go_enter Tryz.func67,Tryz.ntmps67
 go_wp2_with fail;refine qO 0 rfl ?_;go_wp2_with fail;refine HK.o.mono ?_;rintro _ _ ⟨rfl,rfl⟩;go_wp2_with fail;refine HW.o.mono ?_;rintro _ w1 ⟨rfl,h1,o1⟩;have e8:=h1.c8;have HJ:=λW(hW:NA false G W g m1)=>af (hW.join m1.i);clear HK c10;go_wp2_with fail
 go_step3
 refine⟨rfl,?_⟩;go_wp2_with fail
 go_still_tail 7,(by kernel_rfl)
 change wpList _ _ _ _ _ w1.drew;go_wp2_with fail;refine(HJ _ h1.drew).o.mono ?_;rintro _ w2 ⟨rfl,h2,o2⟩;have o2:=(o1.trans ((aE g w1).drew)).trans o2;have HC:=af h2.clear;clear h1 HJ e8 o1;go_wp2_with fail;refine HC.o.mono ?_;rintro _ w3 ⟨rfl,h3,o3⟩;have o3:=o2.trans o3;have f14:=h3.frozen 14;have e14:=h3.c14;have h4:=h3.sSe true;have o4:=o3.set 14 ↑true;change NA true G _ g m1.o at h4;clear h2 h3 HC o2 o3;go_wp2_with fail;generalize w3.setCell (g,14) ↑true=w4 at *;clear f14 e14;obtain⟨A,c,e16,hD⟩:=h4.cD;have HV:=λW(hW:Below w4 w4 W)=>af (pX true G g m1.o W (h4.below hW));have HD:=λW(hW:Below w4 w4 W)=>af (hW.cell (p:=(g,16)) h4.lt |>.trans e16);have HE:=λW(hW:Below w4 w4 W)=>af (Bl ⟨kv,m1.o.view,m1.o.da⟩ (.slice A m1.o.da.length c) W ((hD.keep (ku hW)).1) hb);unfold Enc frV NM.view at HE;unfold csV at HV;have hb0:=ah w4 w4;clear hD
 go_region_held3 (λW=>W.cell? (g,16)=some (.slice A m1.o.da.length c))
  ((first|exact e16|exact y16|exact z16|exact(HD _ hb0.drew).o))
  (first
   |((go_at_call 79;with_reducible refine(HV _ ?_).o.mono ?_);(focus (first|exact hb0.drew|exact hb0));rintro _ w5 ⟨rfl,b5⟩;have b5:Below w4 w4 w5:=hb0.drew.trans b5;have y16:=(HD _ b5).o)
   |((go_at_call 100;with_reducible refine(HE _ ?_).o.mono ?_);(focus (first|exact b5.drew|exact b5));rintro _ w6 ⟨v6,rfl,hv6,b6⟩;have b6:=b5.trans (b6.mono b5.size);have z16:=(HD _ b6).o))
 all_goals
  have hv7:=af hv6;have hsz:=aW o4.size b5.size;obtain⟨A6,c6,rfl,-⟩:=hv6.sees.at_;have hf:=af (aL (h4.below b6) (o4.trans (iQ g b6)));clear hv6 HV HD HE h4 o4;go_wp2;simp only[Exit.jump];go_ret;refine⟨_,rfl,?_,hf.o.1,hf.o.2⟩;exact hv7.o.base hsz
theorem LR(b:Bool)(G:Nat->Prop)(g:Nat)(m:NM)(w:World)(h:NA b G w g m)(h5:m.st<=5)(hr:0<=m.rd/\m.rd<=65535)(hst:m.st≠1)(hs:m.sl=m.i)(hu:m.up.st=4)(hb:iK m.da):
  Calls Tryz.prog 67 #[↑(g,0)] w λe w'=>∃v,e=.returned v/\iJ w' w v (kJ ⟨m.kL,m.up.o.view,m.up.o.da⟩)/\NA true G w' g m.up.o/\Only g w w':=by
 have HK:=af (qN b G g m w h h5 hr);generalize m.kL=kv at *;have c10:=h.c10;have c12:=h.c12;have c8:=h.c8;obtain⟨s0,e1,es⟩:=ne1 hst;rw[es]at c10;have HU:=λn=>af (CI b G g m (w.drewN n) (h.drewN n) h5 (by omega));rw[av hu]at HU;rw[hs]at c12;have hb:iK m.up.o.da:=by rw[show m.up.o.da=m.da from NM.LN m];exact hb
 generalize m.up=m1 at *;generalize m.upB b=b1 at *;clear h h5 hr es hst hs hu;generalize((m.i:Nat):Int)=z at *
 go_enter Tryz.func67,Tryz.ntmps67
 go_wp2_with fail;refine qO 0 rfl ?_;go_wp2_with fail;refine HK.o.mono ?_;rintro _ _ ⟨rfl,rfl⟩;go_wp2_with fail
 go_quiet (fail)
 go_wp2_with fail;refine(HU _).o.mono ?_;rintro _ w1 ⟨rfl,h1,o1⟩;have o1:=(iQ g (aC (ah _ _) _)).trans o1;have e8:=h1.c8;have HJ:=λW(hW:NA b1 G W g m1)=>af (hW.join m1.i);clear HK c10 c12 c8 HU;go_wp2_with fail
 go_step3
 refine⟨rfl,?_⟩;go_wp2_with fail
 go_still_tail 7,(by kernel_rfl)
 change wpList _ _ _ _ _ w1.drew;go_wp2_with fail;refine(HJ _ h1.drew).o.mono ?_;rintro _ w2 ⟨rfl,h2,o2⟩;have o2:=(o1.trans ((aE g w1).drew)).trans o2;have HC:=af h2.clear;clear h1 HJ e8 o1;go_wp2_with fail;refine HC.o.mono ?_;rintro _ w3 ⟨rfl,h3,o3⟩;have o3:=o2.trans o3;have f14:=h3.frozen 14;have e14:=h3.c14;have h4:=h3.sSe true;have o4:=o3.set 14 ↑true;change NA true G _ g m1.o at h4;clear h2 h3 HC o2 o3;go_wp2_with fail;generalize w3.setCell (g,14) ↑true=w4 at *;clear f14 e14;obtain⟨A,c,e16,hD⟩:=h4.cD;have HV:=λW(hW:Below w4 w4 W)=>af (pX true G g m1.o W (h4.below hW));have HD:=λW(hW:Below w4 w4 W)=>af (hW.cell (p:=(g,16)) h4.lt |>.trans e16);have HE:=λW(hW:Below w4 w4 W)=>af (Bl ⟨kv,m1.o.view,m1.o.da⟩ (.slice A m1.o.da.length c) W ((hD.keep (ku hW)).1) hb);unfold Enc frV NM.view at HE;unfold csV at HV;have hb0:=ah w4 w4;clear hD
 go_region_held3 (λW=>W.cell? (g,16)=some (.slice A m1.o.da.length c))
  ((first|exact e16|exact y16|exact z16|exact(HD _ hb0.drew).o))
  (first
   |((go_at_call 79;with_reducible refine(HV _ ?_).o.mono ?_);(focus (first|exact hb0.drew|exact hb0));rintro _ w5 ⟨rfl,b5⟩;have b5:Below w4 w4 w5:=hb0.drew.trans b5;have y16:=(HD _ b5).o)
   |((go_at_call 100;with_reducible refine(HE _ ?_).o.mono ?_);(focus (first|exact b5.drew|exact b5));rintro _ w6 ⟨v6,rfl,hv6,b6⟩;have b6:=b5.trans (b6.mono b5.size);have z16:=(HD _ b6).o))
 all_goals
  have hv7:=af hv6;have hsz:=aW o4.size b5.size;obtain⟨A6,c6,rfl,-⟩:=hv6.sees.at_;have hf:=af (aL (h4.below b6) (o4.trans (iQ g b6)));clear hv6 HV HD HE h4 o4;go_wp2;simp only[Exit.jump];go_ret;refine⟨_,rfl,?_,hf.o.1,hf.o.2⟩;exact hv7.o.base hsz
end
section
set_option maxRecDepth 100000
set_option maxHeartbeats 2000000
open Go.RowKit
abbrev hB(h:Hn)(Ax Ay:Option Addr)(nx ny cx cy:Nat):Array Value:=#[↑h.a,↑h.b,.slice Ax nx cx,.slice Ay ny cy,↑h.o]
theorem tN{n:Nat}(h:n=2\/n=3\/n=4):∃s:Int,(s==0)=false/\(s==1)=false/\(s==5)=false/\((n:Nat):Int)=s:=by
 refine⟨n,?_,?_,?_,rfl⟩<;>rw[aB]<;>omega
theorem Mf(b:Bool)(G:Nat->Prop)(g:Nat)(m:NM)(h:Hn)(Ax Ay:Option Addr)(nx ny cx cy:Nat)(w:World)(hm:NA b G w g m)(hst:m.st=0\/m.st=5):
  Calls Tryz.prog 70 #[↑(g,0),hdV h (.slice Ax nx cx) (.slice Ay ny cy)] w λe w'=>e=.returned (.tuple #[])/\NA b G w' g m/\Only g w w':=by
 have hb0:=(ah w w).alloc lr (.cells (hB h Ax Ay nx ny cx cy) 153);have h1:=hm.below hb0;have hX:=aJ w w rfl (hB h Ax Ay nx ny cx cy) 153;have hgl:=hm.lt;have c10:=h1.c10;have hk:=af h1;unfold hdV;clear h1 hm hX;rcases hst with e|e
 all_goals
  rw[e]at c10;clear e
  go_enter Tryz.func70,Tryz.ntmps70
  go_wp2;exact aD (ax (by rfl) _ _ _) rfl ⟨rfl,hk.o,iQ g hb0⟩
theorem C8(b:Bool)(G:Nat->Prop)(g:Nat)(m:NM)(h:Hn)(Ax Ay:Option Addr)(nx ny cx cy:Nat)(b2:Bool)(m2:NM)(w:World)(hm:NA b G w g m)(hst:m.st=1)(HL:∀W,Below w w W->Calls Tryz.prog 107 #[↑(g,0),hdV h (.slice Ax nx cx) (.slice Ay ny cy)] W λe w'=>e=.returned (.tuple #[])/\NA b2 G w' g m2/\Only g W w'):
  Calls Tryz.prog 70 #[↑(g,0),hdV h (.slice Ax nx cx) (.slice Ay ny cy)] w λe w'=>e=.returned (.tuple #[])/\NA b2 G w' g m2/\Only g w w':=by
 have hb0:=(ah w w).alloc lr (.cells (hB h Ax Ay nx ny cx cy) 153);have h1:=hm.below hb0;have hX:=aJ w w rfl (hB h Ax Ay nx ny cx cy) 153;have hgl:=hm.lt;have c10:=h1.c10;rw[hst]at c10;have HL1:=af (HL _ hb0);unfold hdV at HL1 ⊢;clear h1 hm hst hX HL
 go_enter Tryz.func70,Tryz.ntmps70
 go_wp2_with fail;refine HL1.o.mono ?_;rintro _ w2 ⟨rfl,h2,o2⟩;go_wp2;exact aD (ax (by rfl) _ _ _) rfl ⟨rfl,h2,(iQ g hb0).trans o2⟩
theorem Mg(b:Bool)(G:Nat->Prop)(g:Nat)(m:NM)(h:Hn)(Ax Ay:Option Addr)(nx ny cx cy:Nat)(w:World)(hm:NA b G w g m)(hst:m.st=2\/m.st=3\/m.st=4)(hs:m.sl=m.i)(hb:b=true)(hsy:m.me.sy=true)(hg:NG {m with ck:=iT m.ck 0}):
  Calls Tryz.prog 70 #[↑(g,0),hdV h (.slice Ax nx cx) (.slice Ay ny cy)] w λe w'=>e=.returned (.tuple #[])/\NA false G w' g (({m with ck:=iT m.ck 0}:NM).goOn)/\Only g w w':=by
 have hb0:=(ah w w).alloc lr (.cells (hB h Ax Ay nx ny cx cy) 153);have h1:=hm.below hb0;have hX:=aJ w w rfl (hB h Ax Ay nx ny cx cy) 153;have hgl:=hm.lt;have c10:=h1.c10;obtain⟨s0,e0,e1,e5,es⟩:=tN hst;rw[es]at c10;have c12:=h1.c12;have c8:=h1.c8;have c14:=h1.c14;have c4:=h1.c4;rw[hb]at c14;rw[hs]at c12;rw[hsy]at c4;have HM:=λn=>af ((h1.drewN n).measure 0);have HG:=λW(hW:NA b G W g {m with ck:=iT m.ck 0})=>af (qU b G g _ W hW hg);have C14:=λn=>(aC (ah _ (w.alloc (.cells (hB h Ax Ay nx ny cx cy) 153))) n).cell (p:=(g,14)) h1.lt |>.trans c14;have C4:=λn=>(aC (ah _ (w.alloc (.cells (hB h Ax Ay nx ny cx cy) 153))) n).cell (p:=(g,4)) h1.lt |>.trans c4;have o0:=λn=>af ((iQ g hb0).trans (iQ g (aC (ah _ (w.alloc (.cells (hB h Ax Ay nx ny cx cy) 153))) n)));unfold hdV;clear h1 hm hst es hX hs hb hsy hg c14 c4 hb0;generalize((m.i:Nat):Int)=z at *
 go_enter Tryz.func70,Tryz.ntmps70
 go_wp2_with fail
 go_quiet (fail)
 have c14:=C14 nq;have c4:=C4 nq;have o0:=o0 nq;have HM:=HM nq;clear C14 C4;go_wp2_with fail;refine HM.o.mono ?_;rintro _ w2 ⟨rfl,h2,o2⟩;have o2:=o0.o.trans o2;have HG2:=HG _ h2;clear HM HG h2 o0 c14 c4;go_wp2_with fail;refine HG2.o.mono ?_;rintro _ w3 ⟨rfl,h3,o3⟩;go_wp2;exact aD (ax (by rfl) _ _ _) rfl ⟨rfl,h3,o2.trans o3⟩
theorem Mh(b:Bool)(G:Nat->Prop)(g:Nat)(m:NM)(h:Hn)(Ax Ay:Option Addr)(nx ny cx cy:Nat)(w:World)(hm:NA b G w g m)(hst:m.st=2\/m.st=3\/m.st=4)(hs:m.sl=m.i)(hb:b=true)(hsy:m.me.sy=false)(hg:NG m):
  Calls Tryz.prog 70 #[↑(g,0),hdV h (.slice Ax nx cx) (.slice Ay ny cy)] w λe w'=>e=.returned (.tuple #[])/\NA false G w' g m.goOn/\Only g w w':=by
 have hb0:=(ah w w).alloc lr (.cells (hB h Ax Ay nx ny cx cy) 153);have h1:=hm.below hb0;have hX:=aJ w w rfl (hB h Ax Ay nx ny cx cy) 153;have hgl:=hm.lt;have c10:=h1.c10;obtain⟨s0,e0,e1,e5,es⟩:=tN hst;rw[es]at c10;have c12:=h1.c12;have c8:=h1.c8;have c14:=h1.c14;have c4:=h1.c4;rw[hb]at c14;rw[hs]at c12;rw[hsy]at c4;have HG:=λn=>af (qU b G g m _ (h1.drewN n) hg);have C14:=λn=>(aC (ah _ (w.alloc (.cells (hB h Ax Ay nx ny cx cy) 153))) n).cell (p:=(g,14)) h1.lt |>.trans c14;have C4:=λn=>(aC (ah _ (w.alloc (.cells (hB h Ax Ay nx ny cx cy) 153))) n).cell (p:=(g,4)) h1.lt |>.trans c4;have o0:=λn=>af ((iQ g hb0).trans (iQ g (aC (ah _ (w.alloc (.cells (hB h Ax Ay nx ny cx cy) 153))) n)));unfold hdV;clear h1 hm hst es hX hs hb hsy hg c14 c4 hb0;generalize((m.i:Nat):Int)=z at *
 go_enter Tryz.func70,Tryz.ntmps70
 go_wp2_with fail
 go_quiet (fail)
 have c14:=C14 nq;have c4:=C4 nq;have o0:=o0 nq;have HG2:=HG nq;have o2:=o0.o;clear C14 C4 HG o0;go_wp2_with fail;refine HG2.o.mono ?_;rintro _ w3 ⟨rfl,h3,o3⟩;go_wp2;exact aD (ax (by rfl) _ _ _) rfl ⟨rfl,h3,o2.trans o3⟩
theorem Mi(b:Bool)(G:Nat->Prop)(g:Nat)(m:NM)(h:Hn)(Ax Ay:Option Addr)(nx ny cx cy:Nat)(w:World)(hm:NA b G w g m)(hst:m.st=2\/m.st=3\/m.st=4)(hs:m.sl=m.i)(hb:b=false)(hg:NG m):
  Calls Tryz.prog 70 #[↑(g,0),hdV h (.slice Ax nx cx) (.slice Ay ny cy)] w λe w'=>e=.returned (.tuple #[])/\NA false G w' g m.goOn/\Only g w w':=by
 have hb0:=(ah w w).alloc lr (.cells (hB h Ax Ay nx ny cx cy) 153);have h1:=hm.below hb0;have hX:=aJ w w rfl (hB h Ax Ay nx ny cx cy) 153;have hgl:=hm.lt;have c10:=h1.c10;obtain⟨s0,e0,e1,e5,es⟩:=tN hst;rw[es]at c10;have c12:=h1.c12;have c8:=h1.c8;have c14:=h1.c14;have c4:=h1.c4;rw[hb]at c14;rw[hs]at c12;have HG:=λn=>af (qU b G g m _ (h1.drewN n) hg);have C14:=λn=>(aC (ah _ (w.alloc (.cells (hB h Ax Ay nx ny cx cy) 153))) n).cell (p:=(g,14)) h1.lt |>.trans c14;have C4:=λn=>(aC (ah _ (w.alloc (.cells (hB h Ax Ay nx ny cx cy) 153))) n).cell (p:=(g,4)) h1.lt |>.trans c4;have o0:=λn=>af ((iQ g hb0).trans (iQ g (aC (ah _ (w.alloc (.cells (hB h Ax Ay nx ny cx cy) 153))) n)));unfold hdV;clear h1 hm hst es hX hs hb hg c14 c4 hb0;generalize((m.i:Nat):Int)=z at *
 go_enter Tryz.func70,Tryz.ntmps70
 go_wp2_with fail
 go_quiet (fail)
 have c14:=C14 nq;have c4:=C4 nq;have o0:=o0 nq;have HG2:=HG nq;have o2:=o0.o;clear C14 C4 HG o0;go_wp2_with fail;refine HG2.o.mono ?_;rintro _ w3 ⟨rfl,h3,o3⟩;go_wp2;exact aD (ax (by rfl) _ _ _) rfl ⟨rfl,h3,o2.trans o3⟩
theorem Mj(b:Bool)(G:Nat->Prop)(g:Nat)(m:NM)(h:Hn)(Ax Ay:Option Addr)(nx ny cx cy:Nat)(m2:NM)(w:World)(hm:NA b G w g m)(hst:m.st=2\/m.st=3\/m.st=4)(hs:m.sl≠m.i)(HJ:∀W,Below w w W->Calls Tryz.prog 110 #[↑(g,0),hdV h (.slice Ax nx cx) (.slice Ay ny cy)] W λe w'=>e=.returned (.tuple #[])/\NA b G w' g m2/\Only g W w')(hg:NG m2):
  Calls Tryz.prog 70 #[↑(g,0),hdV h (.slice Ax nx cx) (.slice Ay ny cy)] w λe w'=>e=.returned (.tuple #[])/\NA false G w' g m2.goOn/\Only g w w':=by
 have hb0:=(ah w w).alloc lr (.cells (hB h Ax Ay nx ny cx cy) 153);have h1:=hm.below hb0;have hX:=aJ w w rfl (hB h Ax Ay nx ny cx cy) 153;have hgl:=hm.lt;have c10:=h1.c10;obtain⟨s0,e0,e1,e5,es⟩:=tN hst;rw[es]at c10;have c12:=h1.c12;have c8:=h1.c8;have q:(((m.sl:Nat):Int)==((m.i:Nat):Int))=false:=by rw[aB];omega
 have HG:=λW(hW:NA b G W g m2)=>af (qU b G g _ W hW hg);have B0:=λn=>aC hb0 n;have HJ1:=λn=>af (HJ _ (B0 n));have X0:=λn=>hX.drewN n;unfold hdV at HJ1 ⊢;clear h1 hm hst es hX hs hg HJ hb0;generalize((m.sl:Nat):Int)=y at *;generalize((m.i:Nat):Int)=z at *
 go_enter Tryz.func70,Tryz.ntmps70
 go_wp2_with fail
 go_quiet (fail)
 have hX:=X0 nq;have x0:=hX.cell 0 (x:=↑h.a) rfl;have x1:=hX.cell 1 (x:=↑h.b) rfl;have x2:=hX.cell 2 (x:=.slice Ax nx cx) rfl;have x3:=hX.cell 3 (x:=.slice Ay ny cy) rfl;have x4:=hX.cell 4 (x:=↑h.o) rfl;have HJ2:=HJ1 nq;have b1:=B0 nq;clear X0 HJ1 B0 hX;go_wp2_with fail;refine HJ2.o.mono ?_;rintro _ w2 ⟨rfl,h2,o2⟩;have o2:=(iQ g b1).trans o2;have HG2:=HG _ h2;clear HJ2 HG h2 x0 x1 x2 x3 x4;go_wp2_with fail;refine HG2.o.mono ?_;rintro _ w3 ⟨rfl,h3,o3⟩;go_wp2;exact aD (ax (by rfl) _ _ _) rfl ⟨rfl,h3,o2.trans o3⟩
end
section
open Go.RowKit
def prs(a b:Nat->Int)(k:Nat):Value:=.int .i64 (if k%2=0 then a (k / 2)else b (k / 2))
theorem mY(a b:Nat->Int)(k:Nat):prs a b (k*2)=.int .i64 (a k):=by
 unfold prs;rw[au (by omega),show k*2 / 2=k by omega]
theorem mZ(a b:Nat->Int)(k:Nat):prs a b (k*2+1)=.int .i64 (b k):=by
 unfold prs;rw[ai (by omega),show(k*2+1) / 2=k by omega]
theorem Cq:(Tryz.prog.info? 250).map (λi=>(i.zero,i.size,i.bytes))=some (some (.agg #[.int .i64 0,.int .i64 0]),2,16):=by kernel_rfl
def jJ(w:World)(base:Nat)(e:TypeId)(v:Value)(n:Nat)(V:Nat->Value):Prop:=w.ownsRow base e 2 v n ((List.range (n*2)).map V)
theorem jJ.form{w:World}{e:TypeId}{base n:Nat}{v:Value}{V:Nat->Value}(h:jJ w base e v n V):∃A c,v=.slice A n c/\n<=c/\c<=maxLen/\iY w w A (2*n) V:=by
 obtain⟨hl,hh⟩:=h;rcases hh with⟨rfl,rfl⟩|⟨g,cap,cur,rfl,hb,hg,hn,hc,hs,ht⟩
 ·exact⟨_,_,rfl,aR _,bH _,iH⟩
 ·refine⟨_,_,rfl,hn,hc,λ_=>⟨g,0,rfl,(bT.1 hg).1,λk hk=>?_⟩⟩
  rw[bU,cell_of_row w g k cur e (0,0) hg];have:=dn (λl=>l[k]?) ht;simp only[List.getElem?_take,dF,bW (show k<n*2 by omega)]at this;rw[au (by omega)]at this;simpa using this
theorem jJ.alike{w:World}{e:TypeId}{base n:Nat}{v:Value}{V V':Nat->Value}(h:jJ w base e v n V)(hV:∀k,k<n*2->V k=V' k):jJ w base e v n V':=by
 unfold jJ at h ⊢;have:(List.range (n*2)).map V'=(List.range (n*2)).map V:=dK λk hk=>(hV k (cA.1 hk)).symm;rw[this];exact h
theorem KC{B:Nat}{W wx w1:World}{e:TypeId}{v:Value}{k:Nat}{xs:List Value}{o:Obj}(hb:Below B W wx)(hW:B<=wx.heap.size)(hown:wx.ownsRow B e 2 v k xs)(hg:(wx.alloc o).grownBy w1 v.ownBlock):Below B W w1:=
 (hb.alloc hW o).grown hg (by simp;omega) (λg h=>(hown.lt g h).1)
theorem KD(w:World)(u0 u1:Value)(e:TypeId):∀j u,[u0,u1][j]?=some u->(w.alloc (.cells #[u0,u1] e)).cell? (((w.heap.size,0):Addr).add j)=some u:=by
 intro j u hj;have:j=0\/j=1:=by
  rcases j with _|_|j
  ·exact .inl rfl
  ·exact .inr rfl
  ·simp at hj
 rcases this with rfl|rfl
 ·simp at hj;subst hj
  simp[Addr.add,aZ _ _ _ _ rfl]
 ·simp at hj;subst hj
  simp[Addr.add,aZ _ _ _ _ rfl]
theorem KE{P:Program}(w:World){o:Oper}{a:Act}{K:Act->World->Prop}{Q:Exit->Act->World->Prop}(s x:Operand)(t:TypeId)
  (ho:o.op=.call {callee:=.builtin .append,args:=#[s,x],argTypes:=#[t,t]})
  (B:Nat) (e:TypeId) (z:Value) (bytes:Nat) (jM:(P.info? e).map (λi=>(i.zero,i.size,i.bytes))=some (some z,2,bytes)) (hzs:z.cells.size=2) (ht:P.underlying t=some (.slice e))
  (v:Value) (n:Nat) (V:Nat->Value) (W:World) (hown:jJ w B e v n V) (hbel:Below B W w) (hs:a.eval s=v) (u0 u1:Value) (hx:a.eval x=.slice (some (w,0)) 1 1)
  (hu:u0.oneCell'=true/\u1.oneCell'=true) (hB:B<=w.heap.size) (h63:n+1<=maxLen) (hroom:(n+1)*bytes<=140737488355328) (hV:u0=V (n*2)/\u1=V (n*2+1))
  (h:∀v' w',jJ w' B e v' (n+1) V->Below B W w'->K (a.put o.dst v') w'):Oper.wp P o a (w.alloc (.cells #[u0,u1] e)) K Q:=by
 obtain⟨i0,hi,hz0,hz1,hz2⟩:=fV jM;refine wp_append_own _ s x t ho B e i0 z 2 bytes ht hi hz0 hz1 hz2 hzs (by omega) v n _ hs (eH hown _) (w,0) 1 1 [u0,u1] hx rfl (KD _ _ _ _) (by simpa using hu) h63 hroom (by simp;omega) ?_;intro v' w' h1 h2 _;refine h v' w' ?_ (KC hbel hB hown h2);unfold jJ;have:(List.range ((n+1)*2)).map V=(List.range (n*2)).map V++[u0,u1]:=by
  rw[show(n+1)*2=n*2+1+1 by omega,cZ,cZ,hV.1,hV.2];simp
 rw[this];exact h1
theorem KF{P:Program}(w:World){ops:Array Oper}{rest:List Oper}{o:Oper}{a:Act}{Q:Exit->Act->World->Prop}(hgd:o.guard=none)(s x:Operand)(t:TypeId)
  (ho:o.op=.call {callee:=.builtin .append,args:=#[s,x],argTypes:=#[t,t]})
  (B:Nat) (e:TypeId) (z:Value) (bytes:Nat) (jM:(P.info? e).map (λi=>(i.zero,i.size,i.bytes))=some (some z,2,bytes)) (hzs:z.cells.size=2) (ht:P.underlying t=some (.slice e))
  (v:Value) (n:Nat) (V:Nat->Value) (W:World) (hown:jJ w B e v n V) (hbel:Below B W w) (hs:a.eval s=v) (u0 u1:Value) (hx:a.eval x=.slice (some (w,0)) 1 1)
  (hu:u0.oneCell'=true/\u1.oneCell'=true) (hB:B<=w.heap.size) (h63:n+1<=maxLen) (hroom:(n+1)*bytes<=140737488355328) (hV:u0=V (n*2)/\u1=V (n*2+1))
  (h:∀v' w',jJ w' B e v' (n+1) V->Below B W w'->wpList P ops Q rest (a.put o.dst v') w'):wpList P ops Q (o::rest) a (w.alloc (.cells #[u0,u1] e)):=
 wpList_plain hgd λ_ hK=>KE w s x t ho B e z bytes jM hzs ht v n V W hown hbel hs u0 u1 hx hu hB h63 hroom hV λv' w' h1 h2=>hK _ _ (h v' w' h1 h2)
end
section
set_option maxRecDepth 100000
set_option maxHeartbeats 8000000
open Go.RowKit
theorem jJ.cells{w:World}{e:TypeId}{base g c n:Nat}{V:Nat->Value}(h:jJ w base e (.slice (some (g,0)) n c) n V){k:Nat}(hk:k<n*2):w.cell? (g,k)=some (V k):=by
 rw[gO h k (by omega)];simp[hk]
theorem jJ.frozen{w:World}{e:TypeId}{base g c n:Nat}{V:Nat->Value}(h:jJ w base e (.slice (some (g,0)) n c) n V)(k:Nat):w.frozen? (g,k)=false:=World.ownsRow.frozenAt h k
theorem jJ.set1{w:World}{e:TypeId}{base g c n:Nat}{V:Nat->Value}(h:jJ w base e (.slice (some (g,0)) n c) n V)(j:Nat)(u:Value){V':Nat->Value}(hj:V' j=u)(ho:∀i,i<n*2->i≠j->V' i=V i):
  jJ (w.setCell (g,j) u) base e (.slice (some (g,0)) n c) n V':=by
 have h1:=(World.ownsRow.stored h j u).1;unfold jJ;have:(List.range (n*2)).map V'=((List.range (n*2)).map V).set j u:=by
  apply fo
  intro i;rw[List.getElem?_set];by_cases hi:i<n*2
  ·by_cases hij:j=i
   ·subst hij
    simp[hi,hj]
   ·simp[hi,hij,ho i hi (dH hij)]
  ·by_cases hij:j=i
   ·subst hij
    simp[hi]
   ·simp[hi,hij]
 rw[this];exact h1
theorem jJ.j5{w:World}{e:TypeId}{base g c n:Nat}{V:Nat->Value}(h:jJ w base e (.slice (some (g,0)) n c) n V)(k:Nat)(u0 u1:Value){V':Nat->Value}(h0:V' (k*2)=u0)(h1:V' (k*2+1)=u1)(ho:∀i,i<n*2->i≠k*2->i≠k*2+1->V' i=V i):
  jJ ((w.setCell (g,k*2) u0).setCell (g,k*2+1) u1) base e (.slice (some (g,0)) n c) n V':=
 (h.set1 (V':=λi=>if i=k*2 then u0 else V i) (k*2) u0 (by simp) (λi _ hi=>by simp[hi])).set1 (k*2+1) u1 h1 (λi hi hne=>by
  by_cases hk:i=k*2
  ·subst hk;simp[h0]
  ·simp only[hk,dB];exact ho i hi hk hne)
theorem oN{a b a' b':Nat->Int}{k:Nat}(ha:a (k / 2)=a' (k / 2))(hb:b (k / 2)=b' (k / 2)):prs a b k=prs a' b' k:=by
 unfold prs;rw[ha,hb]
theorem KO{P:Program}(w:World){ops:Array Oper}{rest:List Oper}{o:Oper}{a:Act}{Q:Exit->Act->World->Prop}(hgd:o.guard=none)(l c:Operand)(t:TypeId)(hop:o.op=Op.makeSlice t l c)
  (B:Nat) (W:World) (hbel:Below B W w) (hB:B<=w.heap.size) (e:TypeId) (z:Value) (u:Value) (bytes:Nat) (jM:(P.info? e).map (λi=>(i.zero,i.size,i.bytes))=some (some z,2,bytes)) (hzs:z.cells=#[u,u]) (ht:P.underlying t=some (.slice e))
  (kl kc:IntKind) (L C:Int) (n:Nat) (hl:a.eval l=.int kl L) (hc:a.eval c=.int kc C) (hL:L=n) (hC:C=n) (hroom:bytes*n<=281474976710656) (h63:n<=maxLen)
  (h:∀w',jJ w' B e (.slice (some (w,0)) n n) n (λ_=>u)->Below B W w'->w.heap.size<w'.heap.size->wpList P ops Q rest (a.put o.dst (.slice (some (w,0)) n n)) w'):
  wpList P ops Q (o::rest) a w:=by
 obtain⟨i0,hi,hz0,hz1,hz2⟩:=fV jM;refine wpList_make_full w hgd l c t hop B e i0 z 2 ht hi hz0 hz1 kl kc L C n hl hc hL hC (by rw[hz2];exact hroom) h63 hB ?_;intro w' h1 h2;refine h w' ?_ (hbel.grown h2 hB (λk h=>by cases h)) (h1.lt _ rfl).2;unfold jJ;have e1:(madeCells z.cells (n*2)).toList=(List.range (n*2)).map λ_=>u:=by
  rw[hzs];unfold madeCells;simp only[Array.toList_map,Array.toList_range];refine dK λk _=>?_;have:k%2=0\/k%2=1:=by omega
  rcases this with h|h<;>simp[h]
 rw[e1]at h1;exact h1
def stage(G:Nat->Int)(k:Nat)(x:Int)(j:Nat):Int:=if j<k then G j else if j=k then x else 0
theorem pU(G:Nat->Int)(k:Nat)(x:Int):stage G k x k=x:=by simp[stage]
theorem Cv(G:Nat->Int)(k j:Nat):(if j<k then G j else 0)=stage G k 0 j:=by
 unfold stage
 split
 ·rfl
 ·split<;>rfl
theorem Cw(G:Nat->Int)(k:Nat)(x y:Int){j:Nat}(h:j≠k):stage G k x j=stage G k y j:=by simp[stage,h]
theorem pV{G:Nat->Int}{k:Nat}{x:Int}(h:x=G k)(j:Nat):stage G k x j=if j<k+1 then G j else 0:=by
 unfold stage;by_cases h1:j<k
 ·rw[au h1,au (by omega)]
 ·by_cases h2:j=k
  ·subst h2;simp[h]
  ·rw[ai h1,ai h2,ai (by omega)]
theorem jJ.tF{w:World}{e:TypeId}{base g c n:Nat}{G F:Nat->Int}{k:Nat}{x y:Int}(h:jJ w base e (.slice (some (g,0)) n c) n (prs (stage G k x) (stage F k y)))(x' y':Int):
  jJ ((w.setCell (g,k*2) ↑x').setCell (g,k*2+1) ↑y') base e (.slice (some (g,0)) n c) n (prs (stage G k x') (stage F k y')):=
 h.j5 k _ _ (by rw[mY,pU]) (by rw[mZ,pU]) λi _ h0 h1=>oN (Cw G k x' x (by omega)) (Cw F k y' y (by omega))
theorem KP(A0:Option Addr)(n0 c0:Nat)(A1:Option Addr)(n1 c1:Nat)(a0 b0 a1 b1:Nat->Int)(w:World)(h0:iY w w A0 (2*n0) (prs a0 b0))(h1:iY w w A1 (2*n1) (prs a1 b1))
  (s0:∀k,k<n0->(-9<=a0 k/\a0 k<=9)/\(-9<=b0 k/\b0 k<=9)) (s1:∀k,k<n1->(-9<=a1 k/\a1 k<=9)/\(-9<=b1 k/\b1 k<=9)) (hn0:n0<=1000) (hn1:n1<=1000):
  Calls Tryz.prog 121 #[.slice A0 n0 c0,.slice A1 n1 c1] w λe w'=>
   ∃v,e=.returned v/\jJ w' w 250 v (max n0 n1) (prs (λk=>(if k<n0 then a0 k else 0)+(if k<n1 then a1 k else 0)) (λk=>(if k<n0 then b0 k else 0)+(if k<n1 then b1 k else 0)))/\Below w w w':=by
 obtain⟨m,hm⟩:∃m,m=max n0 n1:=⟨_,rfl⟩;rw[<-hm];have hm0:n0<=m:=by omega
 have hm1:n1<=m:=by omega
 obtain⟨G,hG⟩:∃G:Nat->Int,G=λk=>(if k<n0 then a0 k else 0)+(if k<n1 then a1 k else 0):=⟨_,rfl⟩;obtain⟨F,hF⟩:∃F:Nat->Int,F=λk=>(if k<n0 then b0 k else 0)+(if k<n1 then b1 k else 0):=⟨_,rfl⟩;rw[<-hG,<-hF];have hg:∀k,G k=(if k<n0 then a0 k else 0)+(if k<n1 then a1 k else 0):=λk=>by rw[hG]
 have hf:∀k,F k=(if k<n0 then b0 k else 0)+(if k<n1 then b1 k else 0):=λk=>by rw[hF]
 have HG:=af hg;have HF:=af hf;have hmm:m<=n0\/m<=n1:=by omega
 clear hG hF hm hg hf
 go_enter Tryz.func121,Tryz.ntmps121
 go_wp2_with (at_make;go_loud (refine KO _ rfl _ _ 202 rfl w w (ah _ _) lr 250 (.agg #[↑(0:Int),↑(0:Int)]) ↑(0:Int) 16 Cq rfl Tryz.underlying202 _ _ _ _ m rfl rfl (by omega) (by omega) (by omega) (by unfold maxLen;omega) ?_))
 all_goals
  intro w1 ho1 hb1 hs1;go_wp2
  go_loopw [6] (λi wr=>∃k:Nat,k<=m/\i=↑k/\jJ wr w 250 (.slice (some (w,0)) m m) m (prs (λj=>if j<k then G j else 0) (λj=>if j<k then F j else 0))/\Below w w wr) (λi _=>m-(intOf i).toNat)
  case atStart=>exact⟨0,by omega,rfl,ho1.alike λk _=>by simp[prs],hb1⟩
  case round=>
   obtain⟨k,hk,rfl,hown,hbel⟩:=hrel;clear ho1 hb1 hs1;by_cases hlt:k<m
   ·have hown:=hown.alike (V':=prs (stage G k 0) (stage F k 0)) λj _=>oN (Cv G k _) (Cv F k _)
    have z0:=hown.cells (k:=k*2) (by omega);have z1:=hown.cells (k:=k*2+1) (by omega);rw[mY,pU]at z0;rw[mZ,pU]at z1;have y0:=hown.frozen (k*2);have y1:=hown.frozen (k*2+1);have q3:(k:Int)<m:=by omega
    have q2:decide (k<m)=true:=by simp;omega
    have hg:=HG.o k;have hf:=HF.o k;have hcase:(k<n0/\k<n1)\/(k<n0/\¬k<n1)\/(¬k<n0/\k<n1):=by omega
    rcases hcase with⟨p0,p1⟩|⟨p0,p1⟩|⟨p0,p1⟩
    ·try (exfalso;omega)
     all_goals
      obtain⟨x0,off,rfl,hbb,hcell⟩:=h0 (by omega);have e0:wr.cell? (x0,off+k*2)=some ↑(a0 k):=by rw[<-mY a0 b0 k];exact(hbel.cell hbb).trans (hcell (k*2) (by omega))
      have e1:wr.cell? (x0,off+k*2+1)=some ↑(b0 k):=by rw[<-mZ a0 b0 k];exact(hbel.cell hbb).trans (hcell (k*2+1) (by omega))
      have hs0:=s0 k p0;have q4:(k:Int)<n0:=by omega
      have q5:decide (k<n0)=true:=by simp;omega
      have hst:=hown.tF (a0 k) (b0 k);have hbt:=(hbel.setCell (p:=(w.heap.size,k*2)) lr ↑(a0 k)).setCell (p:=(w.heap.size,k*2+1)) lr ↑(b0 k);rw[au p0]at hg hf;clear hcell;obtain⟨x1,off1,rfl,mK,hcell1⟩:=h1 (by omega);have hs1:=s1 k p1;have q6:(k:Int)<n1:=by omega
      have q7:decide (k<n1)=true:=by simp;omega
      rw[au p1]at hg hf;have HX:=af (show a0 k+a1 k=G k by rw[hg]);have HY:=af (show b0 k+b1 k=F k by rw[hf]);have f0:w.cell? (x1,off1+k*2)=some ↑(a1 k):=by rw[<-mY a1 b1 k];exact hcell1 (k*2) (by omega)
      have f1:w.cell? (x1,off1+k*2+1)=some ↑(b1 k):=by rw[<-mZ a1 b1 k];exact hcell1 (k*2+1) (by omega)
      have r0:IntKind.i64.wrap (a0 k)=a0 k:=aO _ (by omega);have r1:IntKind.i64.wrap (b0 k)=b0 k:=aO _ (by omega);have r2:=af (show IntKind.i64.wrap (a0 k+a1 k)=a0 k+a1 k from aO _ (by omega));have r3:=af (show IntKind.i64.wrap (b0 k+b1 k)=b0 k+b1 k from aO _ (by omega));have F0:=af f0;have F1:=af f1;clear hg hf hs0 hs1 p0 p1 hown hcell1 f0 f1;go_wp2_with fail
      go_still_tail 26,(by kernel_rfl)
      go_wp2_with fail;have pW:jJ ((wr.setCell (w,k*2) ↑(a0 k)).setCell (w,k*2+1) ↑(b0 k)).drew w 250 (.slice (some (w,0)) m m) m (prs (stage G k (a0 k)) (stage F k (b0 k))):=hst;have tG:=hbt.drew;clear hst hbt z0 z1 y0 y1 e0 e1 hbel r0 r1;generalize((wr.setCell (w,k*2) ↑(a0 k)).setCell (w,k*2+1) ↑(b0 k)).drew=wt at *;have g0:=(tG.cell mK).trans F0.o;have g1:=(tG.cell mK).trans F1.o;have v0:=pW.cells (k:=k*2) (by omega);have v1:=pW.cells (k:=k*2+1) (by omega);rw[mY,pU]at v0;rw[mZ,pU]at v1;have u0:=pW.frozen (k*2);have u1:=pW.frozen (k*2+1);have r2':=r2.o;have r3':=r3.o;have mg:=pW.tF (a0 k+a1 k) (b0 k+b1 k);have KQ:=(tG.setCell (p:=(w.heap.size,k*2)) lr ↑(a0 k+a1 k:Int)).setCell (p:=(w.heap.size,k*2+1)) lr ↑(b0 k+b1 k:Int);clear pW tG
      go_still_tail 26,(by kernel_rfl)
      go_wp2;go_roundw
      case rel=>exact⟨k+1,by omega,by go_num,mg.alike λj _=>oN (pV HX.o _) (pV HY.o _),KQ.drew⟩
      case measure=>simp[intOf];omega
    ·try (exfalso;omega)
     all_goals
      obtain⟨x0,off,rfl,hbb,hcell⟩:=h0 (by omega);have e0:wr.cell? (x0,off+k*2)=some ↑(a0 k):=by rw[<-mY a0 b0 k];exact(hbel.cell hbb).trans (hcell (k*2) (by omega))
      have e1:wr.cell? (x0,off+k*2+1)=some ↑(b0 k):=by rw[<-mZ a0 b0 k];exact(hbel.cell hbb).trans (hcell (k*2+1) (by omega))
      have hs0:=s0 k p0;have q4:(k:Int)<n0:=by omega
      have q5:decide (k<n0)=true:=by simp;omega
      have hst:=hown.tF (a0 k) (b0 k);have hbt:=(hbel.setCell (p:=(w.heap.size,k*2)) lr ↑(a0 k)).setCell (p:=(w.heap.size,k*2+1)) lr ↑(b0 k);rw[au p0]at hg hf;clear hcell;have q6:¬(k:Int)<n1:=by omega
      have q7:decide (k<n1)=false:=by simp;omega
      rw[ai p1]at hg hf;have HX:=af (show a0 k=G k by rw[hg];omega);have HY:=af (show b0 k=F k by rw[hf];omega);have r0:IntKind.i64.wrap (a0 k)=a0 k:=aO _ (by omega);have r1:IntKind.i64.wrap (b0 k)=b0 k:=aO _ (by omega);clear hg hf hs0 p0 p1 hown;go_wp2_with fail
      go_still_tail 26,(by kernel_rfl)
      go_wp2;go_roundw
      case rel=>exact⟨k+1,by omega,by go_num,hst.alike λj _=>oN (pV HX.o _) (pV HY.o _),hbt.drew⟩
      case measure=>simp[intOf];omega
    ·try (exfalso;omega)
     all_goals
      have q4:¬(k:Int)<n0:=by omega
      have q5:decide (k<n0)=false:=by simp;omega
      rw[ai p0]at hg hf;obtain⟨x1,off1,rfl,mK,hcell1⟩:=h1 (by omega);have hs1:=s1 k p1;have q6:(k:Int)<n1:=by omega
      have q7:decide (k<n1)=true:=by simp;omega
      rw[au p1]at hg hf;have HX:=af (show a1 k=G k by rw[hg];omega);have HY:=af (show b1 k=F k by rw[hf];omega);have g0:wr.cell? (x1,off1+k*2)=some ↑(a1 k):=by rw[<-mY a1 b1 k];exact(hbel.cell mK).trans (hcell1 (k*2) (by omega))
      have g1:wr.cell? (x1,off1+k*2+1)=some ↑(b1 k):=by rw[<-mZ a1 b1 k];exact(hbel.cell mK).trans (hcell1 (k*2+1) (by omega))
      have hst:=hown.tF (a1 k) (b1 k);have hbt:=(hbel.setCell (p:=(w.heap.size,k*2)) lr ↑(a1 k)).setCell (p:=(w.heap.size,k*2+1)) lr ↑(b1 k);have r0:IntKind.i64.wrap (a1 k)=a1 k:=aO _ (by omega);have r1:IntKind.i64.wrap (b1 k)=b1 k:=aO _ (by omega);clear hg hf hs1 p0 p1 hown hcell1;go_wp2_with fail
      go_still_tail 26,(by kernel_rfl)
      go_wp2;go_roundw
      case rel=>exact⟨k+1,by omega,by go_num,hst.alike λj _=>oN (pV HX.o _) (pV HY.o _),hbt.drew⟩
      case measure=>simp[intOf];omega
   ·obtain rfl:k=m:=by omega
    go_wp2;go_ret;exact⟨_,rfl,hown.alike λj hj=>oN (by rw[au (by omega)]) (by rw[au (by omega)]),hbel⟩
end
end Go.Proofs.YteadkhigkmijiaaGreat
