/- Texts NdK, NdX, NdO in one. -/
import Derived.ScopeJumps
import Derived.WalkMore
import Derived.Deep.RegionHeld3
import Derived.Deep.RegionWith
import Derived.Test.YteadkhigkmijiaaGreatPC1
import Derived.Test.YteadkhigkmijiaaGreatPC11
import Derived.Test.YteadkhigkmijiaaGreatPC12
import Derived.Test.YteadkhigkmijiaaGreatPC14
import Derived.Test.YteadkhigkmijiaaGreatPC15
set_option linter.all false
namespace Go.Proofs.YteadkhigkmijiaaGreat
section
set_option maxRecDepth 100000
set_option maxHeartbeats 4000000
open Go.RowKit
open Fr (St F)
theorem qO{P:Program}{Q:Exit->Act->World->Prop}{a:Act}{w:World}{c rest:Code}(l:Nat)(hf:findLabel c l=some rest)(first:c.wp P (Exit.jump l (λa w=>rest.wp P (Exit.jump l (λ_ _=>False) Q) a w) Q) a w):(Code.scope c).wp P Q a w:=
 wp_scope_jumps l _ (λ_ _=>0) hf first λa w h=>Code.wp_mono (λe a w hq=>by
  cases e
  case goto l'=>exact hq.2.elim
  all_goals exact hq) h
theorem NM.LN(m:NM):m.up.da=m.da:=by
 unfold NM.up NM.enter NM.anew
 repeat' split
 all_goals rfl
def NM.o(m:NM):NM:={m with ty:=(m.ty.join m.i).clear}
theorem ne1{n:Nat}(h:n≠1):∃s:Int,(s==1)=false/\((n:Nat):Int)=s:=by
 refine⟨n,?_,rfl⟩;rw[aB];omega
theorem LO(b:Bool)(G:Nat->Prop)(g:Nat)(m:NM)(w:World)(h:NA b G w g m)(h5:m.st<=5)(hr:0<=m.rd/\m.rd<=65535)(hst:m.st=1)(hw:(m.wt:Int)+1<m.me.li)(hl:m.me.li<=1000):
  Calls Tryz.prog 67 #[↑(g,0)] w λe w'=>e=.returned (.slice none 0 0)/\NA b G w' g {m with wt:=m.wt+1}/\Only g w w':=by
 have HK:=af (qN b G g m w h h5 hr);generalize m.kL=kv at *;have c10:=h.c10;have c12:=h.c12;have c8:=h.c8;rw[hst]at c10;have HW:=af (LA b G g m w h hw hl);clear h c12 c8 h5 hr hw hl hst
 go_enter Tryz.func67,Tryz.ntmps67
 go_wp2_with fail;refine qO 0 rfl ?_;go_wp2_with fail;refine HK.o.mono ?_;rintro _ _ ⟨rfl,rfl⟩;go_wp2_with fail;refine HW.o.mono ?_;rintro _ w1 ⟨rfl,h1,o1⟩;go_wp2;simp only[Exit.jump];go_ret;exact⟨rfl,h1,o1⟩
theorem LP(b:Bool)(G:Nat->Prop)(g:Nat)(m:NM)(w:World)(h:NA b G w g m)(h5:m.st<=5)(hr:0<=m.rd/\m.rd<=65535)(hst:m.st≠1)(hs:m.sl≠m.i):
  Calls Tryz.prog 67 #[↑(g,0)] w λe w'=>e=.returned (.slice none 0 0)/\NA b G w' g m/\Only g w w':=by
 have HK:=af (qN b G g m w h h5 hr);generalize m.kL=kv at *;have c10:=h.c10;have c12:=h.c12;have c8:=h.c8;obtain⟨s0,e1,es⟩:=ne1 hst;rw[es]at c10;have q:(((m.sl:Nat):Int)==((m.i:Nat):Int))=false:=by rw[aB];omega
 have h1:=af h;clear h h5 hr es hst hs;generalize((m.sl:Nat):Int)=y at *;generalize((m.i:Nat):Int)=z at *
 go_enter Tryz.func67,Tryz.ntmps67
 go_wp2_with fail;refine qO 0 rfl ?_;go_wp2_with fail;refine HK.o.mono ?_;rintro _ _ ⟨rfl,rfl⟩;go_wp2_with fail
 go_quiet (fail)
 go_wp2;simp only[Exit.jump];go_ret;exact⟨rfl,h1.o.drewN _,iQ g (aC (ah _ _) _)⟩
theorem CJ(b:Bool)(G:Nat->Prop)(g:Nat)(m:NM)(w:World)(h:NA b G w g m)(h5:m.st<=5)(hr:0<=m.rd/\m.rd<=65535)(hst:m.st≠1)(hs:m.sl=m.i)(hu:m.up.st≠4):
  Calls Tryz.prog 67 #[↑(g,0)] w λe w'=>e=.returned (.slice none 0 0)/\NA (m.upB b) G w' g m.up/\Only g w w':=by
 have HK:=af (qN b G g m w h h5 hr);generalize m.kL=kv at *;have c10:=h.c10;have c12:=h.c12;have c8:=h.c8;obtain⟨s0,e1,es⟩:=ne1 hst;rw[es]at c10;have HU:=λn=>af (CI b G g m (w.drewN n) (h.drewN n) h5 (by omega));rw[aj hu]at HU;rw[hs]at c12;generalize hq:m.up=m2 at *;generalize hq2:m.upB b=b2 at *;have HQ:=af (aL hq hq2);clear h h5 hr es hst hs hq hu hq2;generalize((m.i:Nat):Int)=z at *
 go_enter Tryz.func67,Tryz.ntmps67
 go_wp2_with fail;refine qO 0 rfl ?_;go_wp2_with fail;refine HK.o.mono ?_;rintro _ _ ⟨rfl,rfl⟩;go_wp2_with fail
 go_quiet (fail)
 go_wp2_with fail;refine(HU _).o.mono ?_;rintro _ w1 ⟨rfl,h1,o1⟩;go_wp2;simp only[Exit.jump];go_ret;exact⟨rfl,h1,(iQ g (aC (ah _ _) _)).trans o1⟩
theorem LQ(b:Bool)(G:Nat->Prop)(g:Nat)(m:NM)(w:World)(h:NA b G w g m)(h5:m.st<=5)(hr:0<=m.rd/\m.rd<=65535)(hst:m.st=1)(hw:m.me.li=(m.wt:Int)+1)(hl:m.me.li<=1000)(hb:iK m.da):
  Calls Tryz.prog 67 #[↑(g,0)] w λe w'=>∃v,e=.returned v/\iJ w' w v (kJ ⟨m.kL,(({m.anew 2 with sl:=m.i}:NM).o).view,(({m.anew 2 with sl:=m.i}:NM).o).da⟩)/\NA true G w' g (({m.anew 2 with sl:=m.i}:NM).o)/\Only g w w':=by
 have HK:=af (qN b G g m w h h5 hr);generalize m.kL=kv at *;have c10:=h.c10;have c12:=h.c12;have c8:=h.c8;rw[hst]at c10;have HW:=af (LB b G g m w h hw hl);have hb:iK (({m.anew 2 with sl:=m.i}:NM).o).da:=hb;generalize({m.anew 2 with sl:=m.i}:NM)=m1 at *;clear h c12 c8 h5 hr hw hl hst
 go_enter Tryz.func67,Tryz.ntmps67
 go_wp2_with fail;refine qO 0 rfl ?_;go_wp2_with fail;refine HK.o.mono ?_;rintro _ _ ⟨rfl,rfl⟩;go_wp2_with fail;refine HW.o.mono ?_;rintro _ w1 ⟨rfl,h1,o1⟩;have e8:=h1.c8;have HJ:=λW(hW:NA false G W g m1)=>af (hW.join m1.i);clear HK c10;go_wp2_with fail
 go_step3
 refine⟨rfl,?_⟩;go_wp2_with fail
 go_still_tail 7,(by kernel_rfl)
 change wpList _ _ _ _ _ w1.drew;go_wp2_with fail;refine(HJ _ h1.drew).o.mono ?_;rintro _ w2 ⟨rfl,h2,o2⟩;have o2:=(o1.trans ((aE g w1).drew)).trans o2;have HC:=af h2.clear;clear h1 HJ e8 o1;go_wp2_with fail;refine HC.o.mono ?_;rintro _ w3 ⟨rfl,h3,o3⟩;have o3:=o2.trans o3;have f14:=h3.frozen 14;have e14:=h3.c14;have h4:=h3.sSe true;have o4:=o3.set 14 ↑true;change NA true G _ g m1.o at h4;clear h2 h3 HC o2 o3;go_wp2_with fail;generalize w3.setCell (g,14) ↑true=w4 at *;clear f14 e14;obtain⟨A,c,e16,hD⟩:=h4.cD;have HV:=λW(hW:Below w4 w4 W)=>af (pX true G g m1.o W (h4.below hW));have HD:=λW(hW:Below w4 w4 W)=>af (hW.cell (p:=(g,16)) h4.lt |>.trans e16);have HE:=λW(hW:Below w4 w4 W)=>af (Bl ⟨kv,m1.o.view,m1.o.da⟩ (.slice A m1.o.da.length c) W ((hD.keep (ku hW)).1) hb);unfold Enc frV NM.view at HE;unfold csV at HV;have hb0:=ah w4 w4;clear hD
 go_region_held3 (λW=>W.cell? (g,16)=some (.slice A m1.o.da.length c))
  ((first|exact e16|exact y16|exact z16|exact(HD _ hb0.drew).o))
  (first
   |((go_at_call 79;with_reducible refine(HV _ ?_).o.mono ?_);(focus (first|exact hb0.drew|exact hb0));rintro _ w5 ⟨rfl,b5⟩;have b5:Below w4 w4 w5:=hb0.drew.trans b5;have y16:=(HD _ b5).o)
   |((go_at_call 100;with_reducible refine(HE _ ?_).o.mono ?_);(focus (first|exact b5.drew|exact b5));rintro _ w6 ⟨v6,rfl,hv6,b6⟩;have b6:=b5.trans (b6.mono b5.size);have z16:=(HD _ b6).o))
 all_goals
  have hv7:=af hv6;have hsz:=aW o4.size b5.size;obtain⟨A6,c6,rfl,-⟩:=hv6.sees.at_;have hf:=af (aL (h4.below b6) (o4.trans (iQ g b6)));clear hv6 HV HD HE h4 o4;go_wp2;simp only[Exit.jump];go_ret;refine⟨_,rfl,?_,hf.o.1,hf.o.2⟩;exact hv7.o.base hsz
theorem LR(b:Bool)(G:Nat->Prop)(g:Nat)(m:NM)(w:World)(h:NA b G w g m)(h5:m.st<=5)(hr:0<=m.rd/\m.rd<=65535)(hst:m.st≠1)(hs:m.sl=m.i)(hu:m.up.st=4)(hb:iK m.da):
  Calls Tryz.prog 67 #[↑(g,0)] w λe w'=>∃v,e=.returned v/\iJ w' w v (kJ ⟨m.kL,m.up.o.view,m.up.o.da⟩)/\NA true G w' g m.up.o/\Only g w w':=by
 have HK:=af (qN b G g m w h h5 hr);generalize m.kL=kv at *;have c10:=h.c10;have c12:=h.c12;have c8:=h.c8;obtain⟨s0,e1,es⟩:=ne1 hst;rw[es]at c10;have HU:=λn=>af (CI b G g m (w.drewN n) (h.drewN n) h5 (by omega));rw[av hu]at HU;rw[hs]at c12;have hb:iK m.up.o.da:=by rw[show m.up.o.da=m.da from NM.LN m];exact hb
 generalize m.up=m1 at *;generalize m.upB b=b1 at *;clear h h5 hr es hst hs hu;generalize((m.i:Nat):Int)=z at *
 go_enter Tryz.func67,Tryz.ntmps67
 go_wp2_with fail;refine qO 0 rfl ?_;go_wp2_with fail;refine HK.o.mono ?_;rintro _ _ ⟨rfl,rfl⟩;go_wp2_with fail
 go_quiet (fail)
 go_wp2_with fail;refine(HU _).o.mono ?_;rintro _ w1 ⟨rfl,h1,o1⟩;have o1:=(iQ g (aC (ah _ _) _)).trans o1;have e8:=h1.c8;have HJ:=λW(hW:NA b1 G W g m1)=>af (hW.join m1.i);clear HK c10 c12 c8 HU;go_wp2_with fail
 go_step3
 refine⟨rfl,?_⟩;go_wp2_with fail
 go_still_tail 7,(by kernel_rfl)
 change wpList _ _ _ _ _ w1.drew;go_wp2_with fail;refine(HJ _ h1.drew).o.mono ?_;rintro _ w2 ⟨rfl,h2,o2⟩;have o2:=(o1.trans ((aE g w1).drew)).trans o2;have HC:=af h2.clear;clear h1 HJ e8 o1;go_wp2_with fail;refine HC.o.mono ?_;rintro _ w3 ⟨rfl,h3,o3⟩;have o3:=o2.trans o3;have f14:=h3.frozen 14;have e14:=h3.c14;have h4:=h3.sSe true;have o4:=o3.set 14 ↑true;change NA true G _ g m1.o at h4;clear h2 h3 HC o2 o3;go_wp2_with fail;generalize w3.setCell (g,14) ↑true=w4 at *;clear f14 e14;obtain⟨A,c,e16,hD⟩:=h4.cD;have HV:=λW(hW:Below w4 w4 W)=>af (pX true G g m1.o W (h4.below hW));have HD:=λW(hW:Below w4 w4 W)=>af (hW.cell (p:=(g,16)) h4.lt |>.trans e16);have HE:=λW(hW:Below w4 w4 W)=>af (Bl ⟨kv,m1.o.view,m1.o.da⟩ (.slice A m1.o.da.length c) W ((hD.keep (ku hW)).1) hb);unfold Enc frV NM.view at HE;unfold csV at HV;have hb0:=ah w4 w4;clear hD
 go_region_held3 (λW=>W.cell? (g,16)=some (.slice A m1.o.da.length c))
  ((first|exact e16|exact y16|exact z16|exact(HD _ hb0.drew).o))
  (first
   |((go_at_call 79;with_reducible refine(HV _ ?_).o.mono ?_);(focus (first|exact hb0.drew|exact hb0));rintro _ w5 ⟨rfl,b5⟩;have b5:Below w4 w4 w5:=hb0.drew.trans b5;have y16:=(HD _ b5).o)
   |((go_at_call 100;with_reducible refine(HE _ ?_).o.mono ?_);(focus (first|exact b5.drew|exact b5));rintro _ w6 ⟨v6,rfl,hv6,b6⟩;have b6:=b5.trans (b6.mono b5.size);have z16:=(HD _ b6).o))
 all_goals
  have hv7:=af hv6;have hsz:=aW o4.size b5.size;obtain⟨A6,c6,rfl,-⟩:=hv6.sees.at_;have hf:=af (aL (h4.below b6) (o4.trans (iQ g b6)));clear hv6 HV HD HE h4 o4;go_wp2;simp only[Exit.jump];go_ret;refine⟨_,rfl,?_,hf.o.1,hf.o.2⟩;exact hv7.o.base hsz
end
section
set_option maxRecDepth 100000
set_option maxHeartbeats 2000000
open Go.RowKit
abbrev hB(h:Hn)(Ax Ay:Option Addr)(nx ny cx cy:Nat):Array Value:=#[↑h.a,↑h.b,.slice Ax nx cx,.slice Ay ny cy,↑h.o]
theorem tN{n:Nat}(h:n=2\/n=3\/n=4):∃s:Int,(s==0)=false/\(s==1)=false/\(s==5)=false/\((n:Nat):Int)=s:=by
 refine⟨n,?_,?_,?_,rfl⟩<;>rw[aB]<;>omega
theorem Mf(b:Bool)(G:Nat->Prop)(g:Nat)(m:NM)(h:Hn)(Ax Ay:Option Addr)(nx ny cx cy:Nat)(w:World)(hm:NA b G w g m)(hst:m.st=0\/m.st=5):
  Calls Tryz.prog 70 #[↑(g,0),hdV h (.slice Ax nx cx) (.slice Ay ny cy)] w λe w'=>e=.returned (.tuple #[])/\NA b G w' g m/\Only g w w':=by
 have hb0:=(ah w w).alloc lr (.cells (hB h Ax Ay nx ny cx cy) 153);have h1:=hm.below hb0;have hX:=aJ w w rfl (hB h Ax Ay nx ny cx cy) 153;have hgl:=hm.lt;have c10:=h1.c10;have hk:=af h1;unfold hdV;clear h1 hm hX;rcases hst with e|e
 all_goals
  rw[e]at c10;clear e
  go_enter Tryz.func70,Tryz.ntmps70
  go_wp2;exact aD (ax (by rfl) _ _ _) rfl ⟨rfl,hk.o,iQ g hb0⟩
theorem C8(b:Bool)(G:Nat->Prop)(g:Nat)(m:NM)(h:Hn)(Ax Ay:Option Addr)(nx ny cx cy:Nat)(b2:Bool)(m2:NM)(w:World)(hm:NA b G w g m)(hst:m.st=1)(HL:∀W,Below w w W->Calls Tryz.prog 107 #[↑(g,0),hdV h (.slice Ax nx cx) (.slice Ay ny cy)] W λe w'=>e=.returned (.tuple #[])/\NA b2 G w' g m2/\Only g W w'):
  Calls Tryz.prog 70 #[↑(g,0),hdV h (.slice Ax nx cx) (.slice Ay ny cy)] w λe w'=>e=.returned (.tuple #[])/\NA b2 G w' g m2/\Only g w w':=by
 have hb0:=(ah w w).alloc lr (.cells (hB h Ax Ay nx ny cx cy) 153);have h1:=hm.below hb0;have hX:=aJ w w rfl (hB h Ax Ay nx ny cx cy) 153;have hgl:=hm.lt;have c10:=h1.c10;rw[hst]at c10;have HL1:=af (HL _ hb0);unfold hdV at HL1 ⊢;clear h1 hm hst hX HL
 go_enter Tryz.func70,Tryz.ntmps70
 go_wp2_with fail;refine HL1.o.mono ?_;rintro _ w2 ⟨rfl,h2,o2⟩;go_wp2;exact aD (ax (by rfl) _ _ _) rfl ⟨rfl,h2,(iQ g hb0).trans o2⟩
theorem Mg(b:Bool)(G:Nat->Prop)(g:Nat)(m:NM)(h:Hn)(Ax Ay:Option Addr)(nx ny cx cy:Nat)(w:World)(hm:NA b G w g m)(hst:m.st=2\/m.st=3\/m.st=4)(hs:m.sl=m.i)(hb:b=true)(hsy:m.me.sy=true)(hg:NG {m with ck:=iT m.ck 0}):
  Calls Tryz.prog 70 #[↑(g,0),hdV h (.slice Ax nx cx) (.slice Ay ny cy)] w λe w'=>e=.returned (.tuple #[])/\NA false G w' g (({m with ck:=iT m.ck 0}:NM).goOn)/\Only g w w':=by
 have hb0:=(ah w w).alloc lr (.cells (hB h Ax Ay nx ny cx cy) 153);have h1:=hm.below hb0;have hX:=aJ w w rfl (hB h Ax Ay nx ny cx cy) 153;have hgl:=hm.lt;have c10:=h1.c10;obtain⟨s0,e0,e1,e5,es⟩:=tN hst;rw[es]at c10;have c12:=h1.c12;have c8:=h1.c8;have c14:=h1.c14;have c4:=h1.c4;rw[hb]at c14;rw[hs]at c12;rw[hsy]at c4;have HM:=λn=>af ((h1.drewN n).measure 0);have HG:=λW(hW:NA b G W g {m with ck:=iT m.ck 0})=>af (qU b G g _ W hW hg);have C14:=λn=>(aC (ah _ (w.alloc (.cells (hB h Ax Ay nx ny cx cy) 153))) n).cell (p:=(g,14)) h1.lt |>.trans c14;have C4:=λn=>(aC (ah _ (w.alloc (.cells (hB h Ax Ay nx ny cx cy) 153))) n).cell (p:=(g,4)) h1.lt |>.trans c4;have o0:=λn=>af ((iQ g hb0).trans (iQ g (aC (ah _ (w.alloc (.cells (hB h Ax Ay nx ny cx cy) 153))) n)));unfold hdV;clear h1 hm hst es hX hs hb hsy hg c14 c4 hb0;generalize((m.i:Nat):Int)=z at *
 go_enter Tryz.func70,Tryz.ntmps70
 go_wp2_with fail
 go_quiet (fail)
 have c14:=C14 nq;have c4:=C4 nq;have o0:=o0 nq;have HM:=HM nq;clear C14 C4;go_wp2_with fail;refine HM.o.mono ?_;rintro _ w2 ⟨rfl,h2,o2⟩;have o2:=o0.o.trans o2;have HG2:=HG _ h2;clear HM HG h2 o0 c14 c4;go_wp2_with fail;refine HG2.o.mono ?_;rintro _ w3 ⟨rfl,h3,o3⟩;go_wp2;exact aD (ax (by rfl) _ _ _) rfl ⟨rfl,h3,o2.trans o3⟩
theorem Mh(b:Bool)(G:Nat->Prop)(g:Nat)(m:NM)(h:Hn)(Ax Ay:Option Addr)(nx ny cx cy:Nat)(w:World)(hm:NA b G w g m)(hst:m.st=2\/m.st=3\/m.st=4)(hs:m.sl=m.i)(hb:b=true)(hsy:m.me.sy=false)(hg:NG m):
  Calls Tryz.prog 70 #[↑(g,0),hdV h (.slice Ax nx cx) (.slice Ay ny cy)] w λe w'=>e=.returned (.tuple #[])/\NA false G w' g m.goOn/\Only g w w':=by
 have hb0:=(ah w w).alloc lr (.cells (hB h Ax Ay nx ny cx cy) 153);have h1:=hm.below hb0;have hX:=aJ w w rfl (hB h Ax Ay nx ny cx cy) 153;have hgl:=hm.lt;have c10:=h1.c10;obtain⟨s0,e0,e1,e5,es⟩:=tN hst;rw[es]at c10;have c12:=h1.c12;have c8:=h1.c8;have c14:=h1.c14;have c4:=h1.c4;rw[hb]at c14;rw[hs]at c12;rw[hsy]at c4;have HG:=λn=>af (qU b G g m _ (h1.drewN n) hg);have C14:=λn=>(aC (ah _ (w.alloc (.cells (hB h Ax Ay nx ny cx cy) 153))) n).cell (p:=(g,14)) h1.lt |>.trans c14;have C4:=λn=>(aC (ah _ (w.alloc (.cells (hB h Ax Ay nx ny cx cy) 153))) n).cell (p:=(g,4)) h1.lt |>.trans c4;have o0:=λn=>af ((iQ g hb0).trans (iQ g (aC (ah _ (w.alloc (.cells (hB h Ax Ay nx ny cx cy) 153))) n)));unfold hdV;clear h1 hm hst es hX hs hb hsy hg c14 c4 hb0;generalize((m.i:Nat):Int)=z at *
 go_enter Tryz.func70,Tryz.ntmps70
 go_wp2_with fail
 go_quiet (fail)
 have c14:=C14 nq;have c4:=C4 nq;have o0:=o0 nq;have HG2:=HG nq;have o2:=o0.o;clear C14 C4 HG o0;go_wp2_with fail;refine HG2.o.mono ?_;rintro _ w3 ⟨rfl,h3,o3⟩;go_wp2;exact aD (ax (by rfl) _ _ _) rfl ⟨rfl,h3,o2.trans o3⟩
theorem Mi(b:Bool)(G:Nat->Prop)(g:Nat)(m:NM)(h:Hn)(Ax Ay:Option Addr)(nx ny cx cy:Nat)(w:World)(hm:NA b G w g m)(hst:m.st=2\/m.st=3\/m.st=4)(hs:m.sl=m.i)(hb:b=false)(hg:NG m):
  Calls Tryz.prog 70 #[↑(g,0),hdV h (.slice Ax nx cx) (.slice Ay ny cy)] w λe w'=>e=.returned (.tuple #[])/\NA false G w' g m.goOn/\Only g w w':=by
 have hb0:=(ah w w).alloc lr (.cells (hB h Ax Ay nx ny cx cy) 153);have h1:=hm.below hb0;have hX:=aJ w w rfl (hB h Ax Ay nx ny cx cy) 153;have hgl:=hm.lt;have c10:=h1.c10;obtain⟨s0,e0,e1,e5,es⟩:=tN hst;rw[es]at c10;have c12:=h1.c12;have c8:=h1.c8;have c14:=h1.c14;have c4:=h1.c4;rw[hb]at c14;rw[hs]at c12;have HG:=λn=>af (qU b G g m _ (h1.drewN n) hg);have C14:=λn=>(aC (ah _ (w.alloc (.cells (hB h Ax Ay nx ny cx cy) 153))) n).cell (p:=(g,14)) h1.lt |>.trans c14;have C4:=λn=>(aC (ah _ (w.alloc (.cells (hB h Ax Ay nx ny cx cy) 153))) n).cell (p:=(g,4)) h1.lt |>.trans c4;have o0:=λn=>af ((iQ g hb0).trans (iQ g (aC (ah _ (w.alloc (.cells (hB h Ax Ay nx ny cx cy) 153))) n)));unfold hdV;clear h1 hm hst es hX hs hb hg c14 c4 hb0;generalize((m.i:Nat):Int)=z at *
 go_enter Tryz.func70,Tryz.ntmps70
 go_wp2_with fail
 go_quiet (fail)
 have c14:=C14 nq;have c4:=C4 nq;have o0:=o0 nq;have HG2:=HG nq;have o2:=o0.o;clear C14 C4 HG o0;go_wp2_with fail;refine HG2.o.mono ?_;rintro _ w3 ⟨rfl,h3,o3⟩;go_wp2;exact aD (ax (by rfl) _ _ _) rfl ⟨rfl,h3,o2.trans o3⟩
theorem Mj(b:Bool)(G:Nat->Prop)(g:Nat)(m:NM)(h:Hn)(Ax Ay:Option Addr)(nx ny cx cy:Nat)(m2:NM)(w:World)(hm:NA b G w g m)(hst:m.st=2\/m.st=3\/m.st=4)(hs:m.sl≠m.i)(HJ:∀W,Below w w W->Calls Tryz.prog 110 #[↑(g,0),hdV h (.slice Ax nx cx) (.slice Ay ny cy)] W λe w'=>e=.returned (.tuple #[])/\NA b G w' g m2/\Only g W w')(hg:NG m2):
  Calls Tryz.prog 70 #[↑(g,0),hdV h (.slice Ax nx cx) (.slice Ay ny cy)] w λe w'=>e=.returned (.tuple #[])/\NA false G w' g m2.goOn/\Only g w w':=by
 have hb0:=(ah w w).alloc lr (.cells (hB h Ax Ay nx ny cx cy) 153);have h1:=hm.below hb0;have hX:=aJ w w rfl (hB h Ax Ay nx ny cx cy) 153;have hgl:=hm.lt;have c10:=h1.c10;obtain⟨s0,e0,e1,e5,es⟩:=tN hst;rw[es]at c10;have c12:=h1.c12;have c8:=h1.c8;have q:(((m.sl:Nat):Int)==((m.i:Nat):Int))=false:=by rw[aB];omega
 have HG:=λW(hW:NA b G W g m2)=>af (qU b G g _ W hW hg);have B0:=λn=>aC hb0 n;have HJ1:=λn=>af (HJ _ (B0 n));have X0:=λn=>hX.drewN n;unfold hdV at HJ1 ⊢;clear h1 hm hst es hX hs hg HJ hb0;generalize((m.sl:Nat):Int)=y at *;generalize((m.i:Nat):Int)=z at *
 go_enter Tryz.func70,Tryz.ntmps70
 go_wp2_with fail
 go_quiet (fail)
 have hX:=X0 nq;have x0:=hX.cell 0 (x:=↑h.a) rfl;have x1:=hX.cell 1 (x:=↑h.b) rfl;have x2:=hX.cell 2 (x:=.slice Ax nx cx) rfl;have x3:=hX.cell 3 (x:=.slice Ay ny cy) rfl;have x4:=hX.cell 4 (x:=↑h.o) rfl;have HJ2:=HJ1 nq;have b1:=B0 nq;clear X0 HJ1 B0 hX;go_wp2_with fail;refine HJ2.o.mono ?_;rintro _ w2 ⟨rfl,h2,o2⟩;have o2:=(iQ g b1).trans o2;have HG2:=HG _ h2;clear HJ2 HG h2 x0 x1 x2 x3 x4;go_wp2_with fail;refine HG2.o.mono ?_;rintro _ w3 ⟨rfl,h3,o3⟩;go_wp2;exact aD (ax (by rfl) _ _ _) rfl ⟨rfl,h3,o2.trans o3⟩
end
section
set_option maxRecDepth 100000
set_option maxHeartbeats 4000000
open Go.RowKit
open Tb (D T)
def kD(t:Tb.T)(dd:D)(i:Nat)(B bl off c4 ga:Nat)(AR:Option Addr)(n cR:Nat)(W:World):Prop:=W.cell? (B,0)=some (.slice (some (bl,off)) t.ns.length c4)/\W.cell? (B,1)=some ↑t.dr/\W.cell? (B,2)=some ↑t.wi/\W.cell? (B,3)=some ↑t.lm/\W.cell? (bl,off+i*4)=some ↑dd.sy/\W.cell? (bl,off+i*4+1)=some ↑dd.inf/\W.cell? (bl,off+i*4+2)=some ↑dd.li/\W.cell? (bl,off+i*4+3)=some ↑dd.sz/\W.cell? (ga,0)=some (.slice AR n cR)/\W.cell? (ga,1)=some ↑(0:Int)/\W.cell? (ga,2)=some ↑(0:Int)/\W.cell? (ga,3)=some ↑(0:Int)/\W.cell? (ga,4)=some ↑(0:Int)/\W.cell? (ga,5)=some ↑(0:Int)/\W.cell? (ga,6)=some ↑(0:Int)/\W.cell? (ga,7)=some ↑(0:Int)/\W.cell? (ga,8)=some ↑(0:Int)/\W.cell? (ga,9)=some ↑(0:Int)/\W.cell? (ga,10)=some ↑(0:Int)/\W.cell? (ga,11)=some ↑(0:Int)/\W.cell? (ga,12)=some ↑(0:Int)/\W.cell? (ga,13)=some ↑(0:Int)/\W.cell? (ga,14)=some ↑(0:Int)/\W.cell? (ga,15)=some ↑(0:Int)/\W.cell? (ga,16)=some ↑(0:Int)
def kM(g:Nat)(m:Int)(S:World->Prop)(W:World):Prop:=S W/\(W.cell? (g,0)=some ↑m/\W.cell? (g,1)=some ↑(0:Int)/\W.cell? (g,2)=some ↑(0:Int)/\W.cell? (g,3)=some ↑(0:Int)/\W.cell? (g,4)=some ↑(0:Int)/\W.cell? (g,5)=some ↑(0:Int))
theorem CN{P:Program}{md:Region.Mode}{ops:Array Oper}{Q:Exit->Act->World->Prop}{S S':World->Prop}(h:∀w,S' w->S w):∀(fuel:Nat)(listed:Array Bool)(a:Act)(w:World),wpAnyH P md ops Q S' fuel listed a w->wpAnyH P md ops Q S fuel listed a w
 |0,_,_,_,h'=>h'
 |fuel+1,_,_,_,h'=>⟨h'.1,λi hi=>wpOp_mono (λa' w' h''=>⟨h _ h''.1,CN h fuel _ a' w' h''.2⟩) (h'.2 i hi)⟩
def NM.pY(t:Tb.T)(i:Nat)(dr:Int)(l:List R4):NM:=⟨t,i,dr,l,0,0,0,⟨0,0,0⟩,0,[],⟨λ_=>[],λ_=>0,λ_=>false⟩,λ_=>0,λ_=>0,[],0,false⟩
theorem LV(t:Tb.T)(v u:Value)(i dr:Int)(l:List R4)(w:World)(hv:jh w w v t.ns)(hu:jl w w u l)(h:wF l)(ht:t.is=true)(hi:0<=i)(hj:i<(t.ns.length:Int))(hd:-t.dr<=dr)(he:dr<=t.dr):
  Calls Tryz.prog 24 #[jW t v,↑i,↑dr,u] w λe w'=>∃g,e=.returned (.tuple #[.pointer (some ⟨g,0,none⟩),↑(0:Int)])/\w.heap.size<=g/\NA false (λx=>w.heap.size<=x) w' g (NM.new t i.toNat dr l)/\Below w w w':=by
 obtain⟨A,c,rfl,n1,n2,-,-⟩:=hv.at_;obtain⟨Ar,cr,rfl,r1,r2,-,-⟩:=hu.at_;have hb0:=(ah w w).alloc lr (.cells #[.slice A t.ns.length c,↑t.dr,↑t.wi,↑t.lm] 31);have hX:=aJ w w rfl #[.slice A t.ns.length c,↑t.dr,↑t.wi,↑t.lm] 31;have hu1:=(hu.below hb0).more hb0.size;have hI:=λW(hW:Below w w W)=>af (vT t (.slice A t.ns.length c) W W lr ((hv.below hW).more hW.size));have hN:=af (Gl l _ _ _ hu1 lr h.1 h.2);have tm:=Tb.T.may ht;have n8:=tm.n8;have d1:=tm.dr.1;have d2:=tm.dr.2;rw[ht]at hI;obtain⟨i,rfl⟩:∃n:Nat,i=n:=⟨i.toNat,by omega⟩;rw[aQ];have hvt:=af hv;have h8:=h.1;unfold jW at *;clear hu1 hu h
 go_enter Tryz.func24,Tryz.ntmps24
 go_wp2_with fail;refine hN.o.mono ?_;rintro _ w2 ⟨ga,rfl,hga,hAA,b2⟩;have hX2:=hX.below b2 (by simp);have CO:=hAA (ga::List.range (w.heap.size+1)) (λf hf=>by
  rcases bq.1 hf with rfl|hf
  ·exact .inr rfl
  ·exact .inl (by have:=cA.1 hf;simp;omega))
 have b2:=hb0.trans (b2.mono hb0.size);have x0:=hX2.cell 0 (x:=.slice A t.ns.length c) rfl;have x1:=hX2.cell 1 (x:=↑t.dr) rfl;have x2:=hX2.cell 2 (x:=↑t.wi) rfl;have x3:=hX2.cell 3 (x:=↑t.lm) rfl;have hI:=hI w2 b2;clear hX hb0 hAA hv;go_wp2_with fail;refine hI.o.mono ?_;rintro _ w3 ⟨rfl,b3⟩;have hX3:=hX2.below b3 hX2.lt;have CP:=CO.below b3;have b3:=b2.trans (b3.mono b2.size);have h3l:=hX3.lt;have hT3:=af (LU t.ns _ w3 w (hvt.o.below b3) (by omega));clear x0 x1 x2 x3 hX2 CO b2 hI hN;have x0:=hX3.cell 0 (x:=.slice A t.ns.length c) rfl;have x1:=hX3.cell 1 (x:=↑t.dr) rfl;have x2:=hX3.cell 2 (x:=↑t.wi) rfl;have x3:=hX3.cell 3 (x:=↑t.lm) rfl;have f0:=hX3.frozen 0;go_wp2_with fail;refine hT3.o.mono ?_;rintro _ w4 ⟨v4,rfl,ho4,b4⟩;have hX4:=hX3.below b4 hX3.lt;have CQ:=CP.below b4;have b4:=b3.trans (b4.mono b3.size);clear x0 x1 x2 x3 f0 hX3 CP hT3;obtain⟨A4,c4,rfl,-⟩:=ho4.sees.at_;have hne:ga≠w.heap.size:=by simp at hga;omega
 have hk5:Only w w4 (w4.setCell (w,0) (.slice A4 t.ns.length c4)):=(aE _ w4).set 0 _;have hX5:=(hX4.set 0 (.slice A4 t.ns.length c4)).eq (cs':=#[.slice A4 t.ns.length c4,↑t.dr,↑t.wi,↑t.lm]) (by simp);have qP:=CQ.only hk5 hne (by simp);have b3s:=b3.size;have hT5:=ho4.sees.mI (g:=w.heap.size) (λ_ e=>by have:=(ho4.lt_ _ e).1;have:=hX4.lt;omega) (hk5.kp (by simp));have hTl:=λj e=>(ho4.lt_ j e).1;have b5:=b4.setCell (p:=(w.heap.size,0)) lr (.slice A4 t.ns.length c4);have x0:=hX4.cell 0 (x:=.slice A t.ns.length c) rfl;have f0:=hX4.frozen 0;go_wp2_with fail;generalize w4.setCell (w,0) (.slice A4 t.ns.length c4)=w5 at *;clear x0 f0 hX4 CQ ho4 hk5;obtain⟨AR,cR,a0,hR5⟩:=qP.cs;obtain⟨A',c',e,u1,u2,hSD,-⟩:=hT5.at_
 cases e
 obtain⟨bl,off,rfl,hbl,hAt⟩:=hSD (by omega);have hD:=hAt i (by omega);obtain⟨dd,hdd⟩:∃d,t.ns.getD i default=d:=⟨_,rfl⟩;rw[hdd]at hD;have HDD:=af hdd;clear hdd;have HS:∀W,Below w5 w5 W->Hid (kD t dd i w bl off c4 ga AR l.length cR W):=λW hW=>af (by
  have hX:=hX5.below hW hX5.lt;have hA:=qP.below hW;have hD:AtD W bl (off+i*4) dd:=hD.keep λo=>hW.cell (p:=(bl,o)) hbl;exact⟨hX.cell 0 rfl,hX.cell 1 rfl,hX.cell 2 rfl,hX.cell 3 rfl,hD.c0,hD.c1,hD.c2,hD.c3,(hW.cell (p:=(ga,0)) qP.lt).trans a0,hA.cn (i:=0) (by omega),hA.cn (i:=1) (by omega),hA.cn (i:=2) (by omega),hA.cn (i:=3) (by omega),hA.cn (i:=4) (by omega),hA.cn (i:=5) (by omega),hA.cn (i:=6) (by omega),hA.cn (i:=7) (by omega),hA.cr (i:=0) (by omega),hA.cr (i:=1) (by omega),hA.cr (i:=2) (by omega),hA.cr (i:=3) (by omega),hA.cr (i:=4) (by omega),hA.cr (i:=5) (by omega),hA.cr (i:=6) (by omega),hA.cr (i:=7) (by omega)⟩)
 have hb1:=ah w5 w5;have HCl:=λW=>af (zk t.lm W);have hi0:(0:Int)<=(i:Nat):=by omega
 have hil:((i:Nat):Int)<((t.ns.length:Nat):Int):=by omega
 have hn8:((t.ns.length:Nat):Int)<=8:=by omega
 have hk:=af (aL qP (aL hT5 b5));clear hX5 qP hT5 hAt hD hSD u1 u2 hR5;refine cW (S:=kD t dd i w bl off c4 ga AR l.length cR) (by kernel_rfl) (HS _ hb1.drew).o (λhHeld=>?_);refine dm (i:=0) (v:=?_) rfl (by kernel_rfl) (by kernel_rfl) (by kernel_rfl) (λ_ _ _ h=>h) (gP ⟨by rfl,?_⟩) (by assumption) ?_;rotate_left 1
 ·(intro wz hSw;(try unfold kM at hSw);unfold kD at hSw;go_simp;try with_reducible rfl)
 try simp only[Act.put,bN]
 refine dm (i:=1) (v:=?_) rfl (by kernel_rfl) (by kernel_rfl) (by kernel_rfl) (λ_ _ _ h=>h) (gP ⟨by rfl,?_⟩) (by assumption) ?_;rotate_left 1
 ·(intro wz hSw;(try unfold kM at hSw);unfold kD at hSw;go_simp;try with_reducible rfl)
 try simp only[Act.put]
 refine dm (i:=2) (v:=?_) rfl (by kernel_rfl) (by kernel_rfl) (by kernel_rfl) (λ_ _ _ h=>h) (gP ⟨by rfl,?_⟩) (by assumption) ?_;rotate_left 1
 ·(intro wz hSw;(try unfold kM at hSw);unfold kD at hSw;go_simp;try with_reducible rfl)
 try simp only[Act.put]
 refine dm (i:=3) (v:=?_) rfl (by kernel_rfl) (by kernel_rfl) (by kernel_rfl) (λ_ _ _ h=>h) (gP ⟨by rfl,?_⟩) (by assumption) ?_;rotate_left 1
 ·(intro wz hSw;(try unfold kM at hSw);unfold kD at hSw;go_simp;try with_reducible rfl)
 try simp only[Act.put]
 refine dm (i:=4) (v:=?_) rfl (by kernel_rfl) (by kernel_rfl) (by kernel_rfl) (λ_ _ _ h=>h) (gP ⟨by rfl,?_⟩) (by assumption) ?_;rotate_left 1
 ·(intro wz hSw;(try unfold kM at hSw);unfold kD at hSw;go_simp;try with_reducible rfl)
 try simp only[Act.put]
 refine dm (i:=5) (v:=?_) rfl (by kernel_rfl) (by kernel_rfl) (by kernel_rfl) (λ_ _ _ h=>h) (gP ⟨by rfl,?_⟩) (by assumption) ?_;rotate_left 1
 ·(intro wz hSw;(try unfold kM at hSw);unfold kD at hSw;go_simp;try with_reducible rfl)
 try simp only[Act.put]
 refine dm (i:=6) (v:=?_) rfl (by kernel_rfl) (by kernel_rfl) (by kernel_rfl) (λ_ _ _ h=>h) (gP ⟨by rfl,?_⟩) (by assumption) ?_;rotate_left 1
 ·(intro wz hSw;(try unfold kM at hSw);unfold kD at hSw;go_simp;try with_reducible rfl)
 try simp only[Act.put]
 refine dm (i:=7) (v:=?_) rfl (by kernel_rfl) (by kernel_rfl) (by kernel_rfl) (λ_ _ _ h=>h) (gP ⟨by rfl,?_⟩) (by assumption) ?_;rotate_left 1
 ·(intro wz hSw;(try unfold kM at hSw);unfold kD at hSw;go_simp;try with_reducible rfl)
 try simp only[Act.put]
 refine dm (i:=8) (v:=?_) rfl (by kernel_rfl) (by kernel_rfl) (by kernel_rfl) (λ_ _ _ h=>h) (gP ⟨by rfl,?_⟩) (by assumption) ?_;rotate_left 1
 ·(intro wz hSw;(try unfold kM at hSw);unfold kD at hSw;go_simp;try with_reducible rfl)
 try simp only[Act.put]
 refine dm (i:=9) (v:=?_) rfl (by kernel_rfl) (by kernel_rfl) (by kernel_rfl) (λ_ _ _ h=>h) (gP ⟨by rfl,?_⟩) (by assumption) ?_;rotate_left 1
 ·(intro wz hSw;(try unfold kM at hSw);unfold kD at hSw;go_simp;try with_reducible rfl)
 try simp only[Act.put]
 refine dm (i:=13) (v:=?_) rfl (by kernel_rfl) (by kernel_rfl) (by kernel_rfl) (λ_ _ _ h=>h) (gP ⟨by rfl,?_⟩) (by assumption) ?_;rotate_left 1
 ·(intro wz hSw;(try unfold kM at hSw);unfold kD at hSw;go_simp;try with_reducible rfl)
 try simp only[Act.put]
 refine dm (i:=14) (v:=?_) rfl (by kernel_rfl) (by kernel_rfl) (by kernel_rfl) (λ_ _ _ h=>h) (gP ⟨by rfl,?_⟩) (by assumption) ?_;rotate_left 1
 ·(intro wz hSw;(try unfold kM at hSw);unfold kD at hSw;go_simp;try with_reducible rfl)
 try simp only[Act.put]
 refine dm (i:=15) (v:=?_) rfl (by kernel_rfl) (by kernel_rfl) (by kernel_rfl) (λ_ _ _ h=>h) (gP ⟨by rfl,?_⟩) (by assumption) ?_;rotate_left 1
 ·(intro wz hSw;(try unfold kM at hSw);unfold kD at hSw;go_simp;try with_reducible rfl)
 try simp only[Act.put]
 refine aM (rs:=[10]) (by kernel_rfl) (by simp) ?_;refine aA rfl (λK hK=>?_) aG;go_simp
 go_at_call 59
 refine(HCl _).o.mono ?_;rintro _ w6 ⟨rfl,hKc,bK,-⟩;have bQ:=hb1.drew.trans (bK.mono (by simp));obtain⟨k0,k1,k2,k3,k4,k5⟩:=hKc.cells;have hS2:kM w5 t.lm (kD t dd i w bl off c4 ga AR l.length cR) w6:=⟨(HS _ bQ).o,k0,k1,k2,k3,k4,k5⟩;have Tw:=hKc.1.lt;refine hK.o _ _ (HS _ bQ).o (λ_=>CN (S':=kM w5 t.lm (kD t dd i w bl off c4 ga AR l.length cR)) (λ_ h=>h.1) _ _ _ _ ?_);clear hK K k0 k1 k2 k3 k4 k5
 try simp only[qq]
 refine dm (i:=11) (v:=?_) rfl (by kernel_rfl) (by kernel_rfl) (by kernel_rfl) (λ_ _ _ h=>h) (gP ⟨by rfl,?_⟩) (by assumption) ?_;rotate_left 1
 ·(intro wz hSw;(try unfold kM at hSw);unfold kD at hSw;go_simp;try with_reducible rfl)
 try simp only[Act.put,bN]
 refine dm (i:=12) (v:=?_) rfl (by kernel_rfl) (by kernel_rfl) (by kernel_rfl) (λ_ _ _ h=>h) (gP ⟨by rfl,?_⟩) (by assumption) ?_;rotate_left 1
 ·(intro wz hSw;(try unfold kM at hSw);unfold kD at hSw;go_simp;try with_reducible rfl)
 try simp only[Act.put]
 refine dm (i:=16) (v:=?_) rfl (by kernel_rfl) (by kernel_rfl) (by kernel_rfl) (λ_ _ _ h=>h) (gP ⟨by rfl,?_⟩) (by assumption) ?_;rotate_left 1
 ·(intro wz hSw;(try unfold kM at hSw);unfold kD at hSw;go_simp;try with_reducible rfl)
 try simp only[Act.put]
 refine aM (rs:=[17]) (by kernel_rfl) (by simp) ?_;refine aA rfl (λK hK=>?_) aG;go_simp;have hS3:=λo:Obj=>(⟨(HS _ (bQ.alloc bQ.size o)).o,bn o hS2.2.1,bn o hS2.2.2.1,bn o hS2.2.2.2.1,bn o hS2.2.2.2.2.1,bn o hS2.2.2.2.2.2.1,bn o hS2.2.2.2.2.2.2⟩:kM w5 t.lm (kD t dd i w bl off c4 ga AR l.length cR) (w6.alloc o));refine hK.o _ _ (hS3 _) (λhS4=>?_);clear hK K hS3
 try simp only[qq]
 refine dm (i:=18) (v:=?_) rfl (by kernel_rfl) (by kernel_rfl) (by kernel_rfl) (λ_ _ _ h=>h) (gP ⟨by rfl,?_⟩) (by assumption) ?_;rotate_left 1
 ·(intro wz hSw;go_simp;try with_reducible rfl)
 try simp only[Act.put,bN]
 refine bP (by kernel_rfl) ?_ _;clear hS2 hHeld hS4 HCl;go_wp2_with fail;obtain⟨hA5,hT5,b5'⟩:=hk.o;obtain⟨VR,hBR,hSR,hFR⟩:=hA5.ex;have eVR:VR=.slice AR l.length cR:=by
  have:=hBR.cell 0 (x:=VR) rfl;rw[a0]at this;exact(Option.some.inj this).symm
 subst eVR;refine(oO false (λx=>w.heap.size<=x) w6 (NM.pY t i dr l) 0 0 rfl _ ?_).mono ?_
 ·have hW6:=λo:Obj=>bQ.alloc bQ.size o
  refine⟨⟨.slice (some (bl,off)) t.ns.length c4,.slice none 0 0,.slice AR l.length cR,λ_=>.slice none 0 0,(aJ w6 _ rfl _ _).eq ?_,?_⟩,Nat.zero_lt_succ _,bH _,?_,h8,λ_ _=>Nat.zero_lt_succ _,λ_ _=>Nat.zero_lt_succ _⟩
  ·simp only[NM.pY,ndH,NM.me,HDD.o]
   kernel_rfl
  ·have hl:=bQ.size
   refine⟨(hT5.below (hW6 _)).more (hW6 _).size,λ_ e=>?_,λ_ x hx=>?_,jr.nil,λ_ _=>jr.nil,(hSR.below (hW6 _)).more (hW6 _).size,λf hf hl0 e=>?_,λhl0 x hx=>?_⟩
   ·simp only[Value.ownBlock,bB]at e
    omega
   ·exact aW b3s (hTl x hx)
   ·rw[bD]at hf
    obtain⟨A0,c0',e0,-,-,h3,-⟩:=hSR.at_
    cases e0
    obtain⟨b0,Tx,rfl,Tz,-⟩:=h3 (aX.2 hl0);simp only[Value.ownBlock,bB]at e;omega
   ·refine Nat.le_of_not_lt λhlt=>hFR x (aT _ (cA.2 (by omega))) hl0 hx
  ·exact⟨λ_ _=>by simp[NM.pY],λ_ _ x hx=>by simp[NM.pY]at hx,λ_ _=>by simp[NM.pY],λ_ _=>by simp[NM.pY]⟩
 ·rintro _ w7 ⟨rfl,h7,o7⟩
  have hge:w.heap.size<=w6.heap.size:=aW b5'.size bQ.size;have b7:Below w w w7:=((b5'.trans (bQ.mono b5'.size)).alloc hge _).trans (o7.below hge (by simp));go_wp2;go_ret2;exact⟨_,rfl,hge,h7,b7⟩
end
end Go.Proofs.YteadkhigkmijiaaGreat
