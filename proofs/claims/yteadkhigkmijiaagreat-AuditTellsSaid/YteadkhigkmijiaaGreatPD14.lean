/- Texts NdJ, NdO in one. -/
import Derived.Test.YteadkhigkmijiaaGreatPD1
import Derived.Test.YteadkhigkmijiaaGreatPD12
import Derived.Test.YteadkhigkmijiaaGreatPD13
set_option linter.all false
namespace Go.Proofs.YteadkhigkmijiaaGreat
section
set_option maxRecDepth 100000
set_option maxHeartbeats 2000000
open Go.RowKit
def NM.up(m:NM):NM:=if m.st=0\/m.st=5 then m else m.enter
def NM.upB(b:Bool)(m:NM):Bool:=if(m.st=2\/(m.st=4/\m.clique))/\m.alone then false else b
theorem LC(b:Bool)(G:Nat->Prop)(g:Nat)(m:NM)(w:World)(h:NA b G w g m)(hst:m.st=2)(ha:m.alone):
  Calls Tryz.prog 97 #[↑(g,0)] w λe w'=>e=.returned ↑false/\NA false G w' g (m.anew 1)/\Only g w w':=by
 have HC:=λn=>af (h.drewN n).mo;have HL:=λn=>af (h.drewN n).mr;generalize decide (m.ty.f<=m.ty.a)=q at HC;rw[show decide (m.ty.a=0)=true from av ha]at HL;have HN:=λn=>af (h.drewN n);have C10:∀n,(w.drewN n).cell? (g,10)=some ↑(2:Int):=λn=>(h.drewN n).c10.trans (by rw[hst];rfl);clear h
 go_enter Tryz.func97,Tryz.ntmps97
 go_wp2_with fail
 go_quiet (first
  |(go_at_call 142;exact eu ((HC _).o))
  |(go_at_call 143;exact bI ((HL _).o)))
 have h0:=(HN nq).o;have c10:=C10 nq;have o0:=af (iQ g (aC (ah w w) nq));clear HC HL HN C10;generalize w.drewN nq=w1 at *;have HB:=af (oO b G g m 1 1 rfl w1 h0);have hs:(m.anew 1).st=1:=rfl;clear h0 hst;generalize hq:m.anew 1=m2 at *;have HQ:=af hq.symm;clear hq;go_wp2_with fail;refine HB.o.mono ?_;rintro _ w2 ⟨rfl,h2,o2⟩;have mE:=h2.c10;rw[hs]at mE;clear c10 HB;go_wp2;go_ret;exact⟨rfl,HQ.o▸h2,o0.o.trans o2⟩
theorem LD(b:Bool)(G:Nat->Prop)(g:Nat)(m:NM)(w:World)(h:NA b G w g m)(hst:m.st=2)(ha:¬m.alone):
  Calls Tryz.prog 97 #[↑(g,0)] w λe w'=>e=.returned ↑true/\NA b G w' g {m with st:=4}/\Only g w w':=by
 have HC:=λn=>af (h.drewN n).mo;have HL:=λn=>af (h.drewN n).mr;generalize decide (m.ty.f<=m.ty.a)=q at HC;rw[show decide (m.ty.a=0)=false from aj ha]at HL;have HN:=λn=>af (h.drewN n);have C10:∀n,(w.drewN n).cell? (g,10)=some ↑(2:Int):=λn=>(h.drewN n).c10.trans (by rw[hst];rfl);clear h
 go_enter Tryz.func97,Tryz.ntmps97
 go_wp2_with fail
 go_quiet (first
  |(go_at_call 142;exact eu ((HC _).o))
  |(go_at_call 143;exact bI ((HL _).o)))
 have h0:=(HN nq).o;have c10:=C10 nq;have o0:=af (iQ g (aC (ah w w) nq));clear HC HL HN C10;generalize w.drewN nq=w1 at *;have f10:=h0.frozen 10;have h2:=af (h0.sSt 4);have mE:=h2.o.c10;clear h0;go_wp2;go_ret;exact⟨rfl,h2.o,o0.o.set _ _⟩
theorem LF(b:Bool)(G:Nat->Prop)(g:Nat)(m:NM)(w:World)(h:NA b G w g m)(hst:m.st=3)(ha:m.alone):
  Calls Tryz.prog 97 #[↑(g,0)] w λe w'=>e=.returned ↑false/\NA b G w' g {m with ty:=m.ty.clear}/\Only g w w':=by
 have HC:=λn=>af (h.drewN n).mo;have HL:=λn=>af (h.drewN n).mr;generalize decide (m.ty.f<=m.ty.a)=q at HC;rw[show decide (m.ty.a=0)=true from av ha]at HL;have HN:=λn=>af (h.drewN n);have C10:∀n,(w.drewN n).cell? (g,10)=some ↑(3:Int):=λn=>(h.drewN n).c10.trans (by rw[hst];rfl);clear h
 go_enter Tryz.func97,Tryz.ntmps97
 go_wp2_with fail
 go_quiet (first
  |(go_at_call 142;exact eu ((HC _).o))
  |(go_at_call 143;exact bI ((HL _).o)))
 have h0:=(HN nq).o;have c10:=C10 nq;have o0:=af (iQ g (aC (ah w w) nq));clear HC HL HN C10;generalize w.drewN nq=w1 at *;have HB:=af h0.clear;clear h0;go_wp2_with fail;refine HB.o.mono ?_;rintro _ w2 ⟨rfl,h2,o2⟩;have mE:=h2.c10;rw[show({m with ty:=m.ty.clear}:NM).st=3 from hst]at mE;clear c10 HB;go_wp2;go_ret;exact⟨rfl,h2,o0.o.trans o2⟩
theorem LG(b:Bool)(G:Nat->Prop)(g:Nat)(m:NM)(w:World)(h:NA b G w g m)(hst:m.st=3)(ha:¬m.alone)(hc:¬m.clique):
  Calls Tryz.prog 97 #[↑(g,0)] w λe w'=>e=.returned ↑false/\NA b G w' g {m with ty:=m.ty.clear}/\Only g w w':=by
 have HC:=λn=>af (h.drewN n).mo;have HL:=λn=>af (h.drewN n).mr;rw[show decide (m.ty.f<=m.ty.a)=false from aj hc]at HC;rw[show decide (m.ty.a=0)=false from aj ha]at HL;have HN:=λn=>af (h.drewN n);have C10:∀n,(w.drewN n).cell? (g,10)=some ↑(3:Int):=λn=>(h.drewN n).c10.trans (by rw[hst];rfl);clear h
 go_enter Tryz.func97,Tryz.ntmps97
 go_wp2_with fail
 go_quiet (first
  |(go_at_call 142;exact eu ((HC _).o))
  |(go_at_call 143;exact bI ((HL _).o)))
 have h0:=(HN nq).o;have c10:=C10 nq;have o0:=af (iQ g (aC (ah w w) nq));clear HC HL HN C10;generalize w.drewN nq=w1 at *;have HB:=af h0.clear;clear h0;go_wp2_with fail;refine HB.o.mono ?_;rintro _ w2 ⟨rfl,h2,o2⟩;have mE:=h2.c10;rw[show({m with ty:=m.ty.clear}:NM).st=3 from hst]at mE;clear c10 HB;go_wp2;go_ret;exact⟨rfl,h2,o0.o.trans o2⟩
theorem LH(b:Bool)(G:Nat->Prop)(g:Nat)(m:NM)(w:World)(h:NA b G w g m)(hst:m.st=3)(ha:¬m.alone)(hc:m.clique):
  Calls Tryz.prog 97 #[↑(g,0)] w λe w'=>e=.returned ↑true/\NA b G w' g {m with st:=4}/\Only g w w':=by
 have HC:=λn=>af (h.drewN n).mo;have HL:=λn=>af (h.drewN n).mr;rw[show decide (m.ty.f<=m.ty.a)=true from av hc]at HC;rw[show decide (m.ty.a=0)=false from aj ha]at HL;have HN:=λn=>af (h.drewN n);have C10:∀n,(w.drewN n).cell? (g,10)=some ↑(3:Int):=λn=>(h.drewN n).c10.trans (by rw[hst];rfl);clear h
 go_enter Tryz.func97,Tryz.ntmps97
 go_wp2_with fail
 go_quiet (first
  |(go_at_call 142;exact eu ((HC _).o))
  |(go_at_call 143;exact bI ((HL _).o)))
 have h0:=(HN nq).o;have c10:=C10 nq;have o0:=af (iQ g (aC (ah w w) nq));clear HC HL HN C10;generalize w.drewN nq=w1 at *;have f10:=h0.frozen 10;have h2:=af (h0.sSt 4);have mE:=h2.o.c10;clear h0;go_wp2;go_ret;exact⟨rfl,h2.o,o0.o.set _ _⟩
theorem LI(b:Bool)(G:Nat->Prop)(g:Nat)(m:NM)(w:World)(h:NA b G w g m)(hst:m.st=4)(hc:¬m.clique):
  Calls Tryz.prog 97 #[↑(g,0)] w λe w'=>e=.returned ↑false/\NA b G w' g {m with st:=5}/\Only g w w':=by
 have HC:=λn=>af (h.drewN n).mo;have HL:=λn=>af (h.drewN n).mr;rw[show decide (m.ty.f<=m.ty.a)=false from aj hc]at HC;generalize decide (m.ty.a=0)=p at HL;have HN:=λn=>af (h.drewN n);have C10:∀n,(w.drewN n).cell? (g,10)=some ↑(4:Int):=λn=>(h.drewN n).c10.trans (by rw[hst];rfl);clear h
 go_enter Tryz.func97,Tryz.ntmps97
 go_wp2_with fail
 go_quiet (first
  |(go_at_call 142;exact eu ((HC _).o))
  |(go_at_call 143;exact bI ((HL _).o)))
 have h0:=(HN nq).o;have c10:=C10 nq;have o0:=af (iQ g (aC (ah w w) nq));clear HC HL HN C10;generalize w.drewN nq=w1 at *;have f10:=h0.frozen 10;have h2:=af (h0.sSt 5);have mE:=h2.o.c10;clear h0;go_wp2;go_ret;exact⟨rfl,h2.o,o0.o.set _ _⟩
theorem LJ(b:Bool)(G:Nat->Prop)(g:Nat)(m:NM)(w:World)(h:NA b G w g m)(hst:m.st=4)(ha:m.alone)(hc:m.clique):
  Calls Tryz.prog 97 #[↑(g,0)] w λe w'=>e=.returned ↑false/\NA false G w' g (m.anew 1)/\Only g w w':=by
 have HC:=λn=>af (h.drewN n).mo;have HL:=λn=>af (h.drewN n).mr;rw[show decide (m.ty.f<=m.ty.a)=true from av hc]at HC;rw[show decide (m.ty.a=0)=true from av ha]at HL;have HN:=λn=>af (h.drewN n);have C10:∀n,(w.drewN n).cell? (g,10)=some ↑(4:Int):=λn=>(h.drewN n).c10.trans (by rw[hst];rfl);clear h
 go_enter Tryz.func97,Tryz.ntmps97
 go_wp2_with fail
 go_quiet (first
  |(go_at_call 142;exact eu ((HC _).o))
  |(go_at_call 143;exact bI ((HL _).o)))
 have h0:=(HN nq).o;have c10:=C10 nq;have o0:=af (iQ g (aC (ah w w) nq));clear HC HL HN C10;generalize w.drewN nq=w1 at *;have HB:=af (oO b G g m 1 1 rfl w1 h0);have hs:(m.anew 1).st=1:=rfl;clear h0 hst;generalize hq:m.anew 1=m2 at *;have HQ:=af hq.symm;clear hq;go_wp2_with fail;refine HB.o.mono ?_;rintro _ w2 ⟨rfl,h2,o2⟩;have mE:=h2.c10;rw[hs]at mE;clear c10 HB;go_wp2;go_ret;exact⟨rfl,HQ.o▸h2,o0.o.trans o2⟩
theorem LK(b:Bool)(G:Nat->Prop)(g:Nat)(m:NM)(w:World)(h:NA b G w g m)(hst:m.st=4)(ha:¬m.alone)(hc:m.clique):
  Calls Tryz.prog 97 #[↑(g,0)] w λe w'=>e=.returned ↑true/\NA b G w' g (m)/\Only g w w':=by
 have HC:=λn=>af (h.drewN n).mo;have HL:=λn=>af (h.drewN n).mr;rw[show decide (m.ty.f<=m.ty.a)=true from av hc]at HC;rw[show decide (m.ty.a=0)=false from aj ha]at HL;have HN:=λn=>af (h.drewN n);have C10:∀n,(w.drewN n).cell? (g,10)=some ↑(4:Int):=λn=>(h.drewN n).c10.trans (by rw[hst];rfl);clear h
 go_enter Tryz.func97,Tryz.ntmps97
 go_wp2_with fail
 go_quiet (first
  |(go_at_call 142;exact eu ((HC _).o))
  |(go_at_call 143;exact bI ((HL _).o)))
 have h0:=(HN nq).o;have c10:=C10 nq;have o0:=af (iQ g (aC (ah w w) nq));clear HC HL HN C10;generalize w.drewN nq=w1 at *;have h2:=af h0;clear h0;go_wp2;go_ret;exact⟨rfl,h2.o,o0.o⟩
theorem LL(b:Bool)(G:Nat->Prop)(g:Nat)(m:NM)(w:World)(h:NA b G w g m)(hst:m.st=0):
  Calls Tryz.prog 97 #[↑(g,0)] w λe w'=>e=.returned ↑false/\NA b G w' g (m)/\Only g w w':=by
 have HC:=λn=>af (h.drewN n).mo;have HL:=λn=>af (h.drewN n).mr;generalize decide (m.ty.f<=m.ty.a)=q at HC;generalize decide (m.ty.a=0)=p at HL;have HN:=λn=>af (h.drewN n);have C10:∀n,(w.drewN n).cell? (g,10)=some ↑(0:Int):=λn=>(h.drewN n).c10.trans (by rw[hst];rfl);clear h
 go_enter Tryz.func97,Tryz.ntmps97
 go_wp2_with fail
 go_quiet (first
  |(go_at_call 142;exact eu ((HC _).o))
  |(go_at_call 143;exact bI ((HL _).o)))
 have h0:=(HN nq).o;have c10:=C10 nq;have o0:=af (iQ g (aC (ah w w) nq));clear HC HL HN C10;generalize w.drewN nq=w1 at *;have h2:=af h0;clear h0;go_wp2;go_ret;exact⟨rfl,h2.o,o0.o⟩
theorem LM(b:Bool)(G:Nat->Prop)(g:Nat)(m:NM)(w:World)(h:NA b G w g m)(hst:m.st=5):
  Calls Tryz.prog 97 #[↑(g,0)] w λe w'=>e=.returned ↑false/\NA b G w' g (m)/\Only g w w':=by
 have HC:=λn=>af (h.drewN n).mo;have HL:=λn=>af (h.drewN n).mr;generalize decide (m.ty.f<=m.ty.a)=q at HC;generalize decide (m.ty.a=0)=p at HL;have HN:=λn=>af (h.drewN n);have C10:∀n,(w.drewN n).cell? (g,10)=some ↑(5:Int):=λn=>(h.drewN n).c10.trans (by rw[hst];rfl);clear h
 go_enter Tryz.func97,Tryz.ntmps97
 go_wp2_with fail
 go_quiet (first
  |(go_at_call 142;exact eu ((HC _).o))
  |(go_at_call 143;exact bI ((HL _).o)))
 have h0:=(HN nq).o;have c10:=C10 nq;have o0:=af (iQ g (aC (ah w w) nq));clear HC HL HN C10;generalize w.drewN nq=w1 at *;have h2:=af h0;clear h0;go_wp2;go_ret;exact⟨rfl,h2.o,o0.o⟩
theorem CI(b:Bool)(G:Nat->Prop)(g:Nat)(m:NM)(w:World)(h:NA b G w g m)(h5:m.st<=5)(h1:m.st≠1):
  Calls Tryz.prog 97 #[↑(g,0)] w λe w'=>e=.returned ↑(decide (m.up.st=4))/\NA (m.upB b) G w' g m.up/\Only g w w':=by
 rcases(by omega:m.st=0\/m.st=2\/m.st=3\/m.st=4\/m.st=5)with e|e|e|e|e
 ·rw[show m.up=m by unfold NM.up;rw[au (.inl e)],show m.upB b=b by unfold NM.upB;rw[ai (by omega)],aj (by omega)]
  exact LL b G g m w h e
 ·have hu:m.up=m.enter:=by unfold NM.up;rw[ai (by omega)]
  rw[hu];by_cases ha:m.alone
  ·have:m.enter=m.anew 1:=by unfold NM.enter;rw[au e,au ha]
   rw[this,show m.upB b=false by unfold NM.upB;rw[au ⟨.inl e,ha⟩]];exact LC b G g m w h e ha
  ·have:m.enter={m with st:=4}:=by unfold NM.enter;rw[au e,ai ha]
   rw[this,show m.upB b=b by unfold NM.upB;rw[ai (λh=>ha h.2)]];exact LD b G g m w h e ha
 ·have hu:m.up=m.enter:=by unfold NM.up;rw[ai (by omega)]
  rw[hu,show m.upB b=b by unfold NM.upB;rw[ai (by omega)]];by_cases ha:m.alone
  ·have:m.enter={m with ty:=m.ty.clear}:=by unfold NM.enter;rw[ai (by omega),au e,ai (λh=>h.1 ha)]
   rw[this,show decide (({m with ty:=m.ty.clear}:NM).st=4)=false from aj (by show m.st≠4;omega)];exact LF b G g m w h e ha
  ·by_cases hc:m.clique
   ·have:m.enter={m with st:=4}:=by unfold NM.enter;rw[ai (by omega),au e,au ⟨ha,hc⟩]
    rw[this];exact LH b G g m w h e ha hc
   ·have:m.enter={m with ty:=m.ty.clear}:=by unfold NM.enter;rw[ai (by omega),au e,ai (λh=>hc h.2)]
    rw[this,show decide (({m with ty:=m.ty.clear}:NM).st=4)=false from aj (by show m.st≠4;omega)];exact LG b G g m w h e ha hc
 ·have hu:m.up=m.enter:=by unfold NM.up;rw[ai (by omega)]
  rw[hu];by_cases hc:m.clique
  ·by_cases ha:m.alone
   ·have:m.enter=m.anew 1:=by unfold NM.enter;rw[ai (by omega),ai (by omega),ai (λh=>h hc),au ha]
    rw[this,show m.upB b=false by unfold NM.upB;rw[au ⟨.inr ⟨e,hc⟩,ha⟩]];exact LJ b G g m w h e ha hc
   ·have:m.enter=m:=by unfold NM.enter;rw[ai (by omega),ai (by omega),ai (λh=>h hc),ai ha]
    rw[this,show m.upB b=b by unfold NM.upB;rw[ai (λh=>ha h.2)],av e];exact LK b G g m w h e ha hc
  ·have:m.enter={m with st:=5}:=by unfold NM.enter;rw[ai (by omega),ai (by omega),au hc]
   rw[this,show m.upB b=b by unfold NM.upB;rw[ai (λh=>h.1.elim (λh=>by omega) (λh=>hc h.2))]];exact LI b G g m w h e hc
 ·rw[show m.up=m by unfold NM.up;rw[au (.inr e)],show m.upB b=b by unfold NM.upB;rw[ai (by omega)],aj (by omega)]
  exact LM b G g m w h e
end
section
set_option maxRecDepth 100000
set_option maxHeartbeats 4000000
open Go.RowKit
open Tb (D T)
def kD(t:Tb.T)(dd:D)(i:Nat)(B bl off c4 ga:Nat)(AR:Option Addr)(n cR:Nat)(W:World):Prop:=W.cell? (B,0)=some (.slice (some (bl,off)) t.ns.length c4)/\W.cell? (B,1)=some ↑t.dr/\W.cell? (B,2)=some ↑t.wi/\W.cell? (B,3)=some ↑t.lm/\W.cell? (bl,off+i*4)=some ↑dd.sy/\W.cell? (bl,off+i*4+1)=some ↑dd.inf/\W.cell? (bl,off+i*4+2)=some ↑dd.li/\W.cell? (bl,off+i*4+3)=some ↑dd.sz/\W.cell? (ga,0)=some (.slice AR n cR)/\W.cell? (ga,1)=some ↑(0:Int)/\W.cell? (ga,2)=some ↑(0:Int)/\W.cell? (ga,3)=some ↑(0:Int)/\W.cell? (ga,4)=some ↑(0:Int)/\W.cell? (ga,5)=some ↑(0:Int)/\W.cell? (ga,6)=some ↑(0:Int)/\W.cell? (ga,7)=some ↑(0:Int)/\W.cell? (ga,8)=some ↑(0:Int)/\W.cell? (ga,9)=some ↑(0:Int)/\W.cell? (ga,10)=some ↑(0:Int)/\W.cell? (ga,11)=some ↑(0:Int)/\W.cell? (ga,12)=some ↑(0:Int)/\W.cell? (ga,13)=some ↑(0:Int)/\W.cell? (ga,14)=some ↑(0:Int)/\W.cell? (ga,15)=some ↑(0:Int)/\W.cell? (ga,16)=some ↑(0:Int)
def kM(g:Nat)(m:Int)(S:World->Prop)(W:World):Prop:=S W/\(W.cell? (g,0)=some ↑m/\W.cell? (g,1)=some ↑(0:Int)/\W.cell? (g,2)=some ↑(0:Int)/\W.cell? (g,3)=some ↑(0:Int)/\W.cell? (g,4)=some ↑(0:Int)/\W.cell? (g,5)=some ↑(0:Int))
theorem CN{P:Program}{md:Region.Mode}{ops:Array Oper}{Q:Exit->Act->World->Prop}{S S':World->Prop}(h:∀w,S' w->S w):∀(fuel:Nat)(listed:Array Bool)(a:Act)(w:World),wpAnyH P md ops Q S' fuel listed a w->wpAnyH P md ops Q S fuel listed a w
 |0,_,_,_,h'=>h'
 |fuel+1,_,_,_,h'=>⟨h'.1,λi hi=>wpOp_mono (λa' w' h''=>⟨h _ h''.1,CN h fuel _ a' w' h''.2⟩) (h'.2 i hi)⟩
def NM.pY(t:Tb.T)(i:Nat)(dr:Int)(l:List R4):NM:=⟨t,i,dr,l,0,0,0,⟨0,0,0⟩,0,[],⟨λ_=>[],λ_=>0,λ_=>false⟩,λ_=>0,λ_=>0,[],0,false⟩
theorem LV(t:Tb.T)(v u:Value)(i dr:Int)(l:List R4)(w:World)(hv:jh w w v t.ns)(hu:jl w w u l)(h:wF l)(ht:t.is=true)(hi:0<=i)(hj:i<(t.ns.length:Int))(hd:-t.dr<=dr)(he:dr<=t.dr):
  Calls Tryz.prog 24 #[jW t v,↑i,↑dr,u] w λe w'=>∃g,e=.returned (.tuple #[.pointer (some ⟨g,0,none⟩),↑(0:Int)])/\w.heap.size<=g/\NA false (λx=>w.heap.size<=x) w' g (NM.new t i.toNat dr l)/\Below w w w':=by
 obtain⟨A,c,rfl,n1,n2,-,-⟩:=hv.at_;obtain⟨Ar,cr,rfl,r1,r2,-,-⟩:=hu.at_;have hb0:=(ah w w).alloc lr (.cells #[.slice A t.ns.length c,↑t.dr,↑t.wi,↑t.lm] 31);have hX:=aJ w w rfl #[.slice A t.ns.length c,↑t.dr,↑t.wi,↑t.lm] 31;have hu1:=(hu.below hb0).more hb0.size;have hI:=λW(hW:Below w w W)=>af (vT t (.slice A t.ns.length c) W W lr ((hv.below hW).more hW.size));have hN:=af (Gl l _ _ _ hu1 lr h.1 h.2);have tm:=Tb.T.may ht;have n8:=tm.n8;have d1:=tm.dr.1;have d2:=tm.dr.2;rw[ht]at hI;obtain⟨i,rfl⟩:∃n:Nat,i=n:=⟨i.toNat,by omega⟩;rw[aQ];have hvt:=af hv;have h8:=h.1;unfold jW at *;clear hu1 hu h
 go_enter Tryz.func24,Tryz.ntmps24
 go_wp2_with fail;refine hN.o.mono ?_;rintro _ w2 ⟨ga,rfl,hga,hAA,b2⟩;have hX2:=hX.below b2 (by simp);have CO:=hAA (ga::List.range (w.heap.size+1)) (λf hf=>by
  rcases bq.1 hf with rfl|hf
  ·exact .inr rfl
  ·exact .inl (by have:=cA.1 hf;simp;omega))
 have b2:=hb0.trans (b2.mono hb0.size);have x0:=hX2.cell 0 (x:=.slice A t.ns.length c) rfl;have x1:=hX2.cell 1 (x:=↑t.dr) rfl;have x2:=hX2.cell 2 (x:=↑t.wi) rfl;have x3:=hX2.cell 3 (x:=↑t.lm) rfl;have hI:=hI w2 b2;clear hX hb0 hAA hv;go_wp2_with fail;refine hI.o.mono ?_;rintro _ w3 ⟨rfl,b3⟩;have hX3:=hX2.below b3 hX2.lt;have CP:=CO.below b3;have b3:=b2.trans (b3.mono b2.size);have h3l:=hX3.lt;have hT3:=af (LU t.ns _ w3 w (hvt.o.below b3) (by omega));clear x0 x1 x2 x3 hX2 CO b2 hI hN;have x0:=hX3.cell 0 (x:=.slice A t.ns.length c) rfl;have x1:=hX3.cell 1 (x:=↑t.dr) rfl;have x2:=hX3.cell 2 (x:=↑t.wi) rfl;have x3:=hX3.cell 3 (x:=↑t.lm) rfl;have f0:=hX3.frozen 0;go_wp2_with fail;refine hT3.o.mono ?_;rintro _ w4 ⟨v4,rfl,ho4,b4⟩;have hX4:=hX3.below b4 hX3.lt;have CQ:=CP.below b4;have b4:=b3.trans (b4.mono b3.size);clear x0 x1 x2 x3 f0 hX3 CP hT3;obtain⟨A4,c4,rfl,-⟩:=ho4.sees.at_;have hne:ga≠w.heap.size:=by simp at hga;omega
 have hk5:Only w w4 (w4.setCell (w,0) (.slice A4 t.ns.length c4)):=(aE _ w4).set 0 _;have hX5:=(hX4.set 0 (.slice A4 t.ns.length c4)).eq (cs':=#[.slice A4 t.ns.length c4,↑t.dr,↑t.wi,↑t.lm]) (by simp);have qP:=CQ.only hk5 hne (by simp);have b3s:=b3.size;have hT5:=ho4.sees.mI (g:=w.heap.size) (λ_ e=>by have:=(ho4.lt_ _ e).1;have:=hX4.lt;omega) (hk5.kp (by simp));have hTl:=λj e=>(ho4.lt_ j e).1;have b5:=b4.setCell (p:=(w.heap.size,0)) lr (.slice A4 t.ns.length c4);have x0:=hX4.cell 0 (x:=.slice A t.ns.length c) rfl;have f0:=hX4.frozen 0;go_wp2_with fail;generalize w4.setCell (w,0) (.slice A4 t.ns.length c4)=w5 at *;clear x0 f0 hX4 CQ ho4 hk5;obtain⟨AR,cR,a0,hR5⟩:=qP.cs;obtain⟨A',c',e,u1,u2,hSD,-⟩:=hT5.at_
 cases e
 obtain⟨bl,off,rfl,hbl,hAt⟩:=hSD (by omega);have hD:=hAt i (by omega);obtain⟨dd,hdd⟩:∃d,t.ns.getD i default=d:=⟨_,rfl⟩;rw[hdd]at hD;have HDD:=af hdd;clear hdd;have HS:∀W,Below w5 w5 W->Hid (kD t dd i w bl off c4 ga AR l.length cR W):=λW hW=>af (by
  have hX:=hX5.below hW hX5.lt;have hA:=qP.below hW;have hD:AtD W bl (off+i*4) dd:=hD.keep λo=>hW.cell (p:=(bl,o)) hbl;exact⟨hX.cell 0 rfl,hX.cell 1 rfl,hX.cell 2 rfl,hX.cell 3 rfl,hD.c0,hD.c1,hD.c2,hD.c3,(hW.cell (p:=(ga,0)) qP.lt).trans a0,hA.cn (i:=0) (by omega),hA.cn (i:=1) (by omega),hA.cn (i:=2) (by omega),hA.cn (i:=3) (by omega),hA.cn (i:=4) (by omega),hA.cn (i:=5) (by omega),hA.cn (i:=6) (by omega),hA.cn (i:=7) (by omega),hA.cr (i:=0) (by omega),hA.cr (i:=1) (by omega),hA.cr (i:=2) (by omega),hA.cr (i:=3) (by omega),hA.cr (i:=4) (by omega),hA.cr (i:=5) (by omega),hA.cr (i:=6) (by omega),hA.cr (i:=7) (by omega)⟩)
 have hb1:=ah w5 w5;have HCl:=λW=>af (zk t.lm W);have hi0:(0:Int)<=(i:Nat):=by omega
 have hil:((i:Nat):Int)<((t.ns.length:Nat):Int):=by omega
 have hn8:((t.ns.length:Nat):Int)<=8:=by omega
 have hk:=af (aL qP (aL hT5 b5));clear hX5 qP hT5 hAt hD hSD u1 u2 hR5;refine cW (S:=kD t dd i w bl off c4 ga AR l.length cR) (by kernel_rfl) (HS _ hb1.drew).o (λhHeld=>?_);refine dm (i:=0) (v:=?_) rfl (by kernel_rfl) (by kernel_rfl) (by kernel_rfl) (λ_ _ _ h=>h) (gP ⟨by rfl,?_⟩) (by assumption) ?_;rotate_left 1
 ·(intro wz hSw;(try unfold kM at hSw);unfold kD at hSw;go_simp;try with_reducible rfl)
 try simp only[Act.put,bN]
 refine dm (i:=1) (v:=?_) rfl (by kernel_rfl) (by kernel_rfl) (by kernel_rfl) (λ_ _ _ h=>h) (gP ⟨by rfl,?_⟩) (by assumption) ?_;rotate_left 1
 ·(intro wz hSw;(try unfold kM at hSw);unfold kD at hSw;go_simp;try with_reducible rfl)
 try simp only[Act.put]
 refine dm (i:=2) (v:=?_) rfl (by kernel_rfl) (by kernel_rfl) (by kernel_rfl) (λ_ _ _ h=>h) (gP ⟨by rfl,?_⟩) (by assumption) ?_;rotate_left 1
 ·(intro wz hSw;(try unfold kM at hSw);unfold kD at hSw;go_simp;try with_reducible rfl)
 try simp only[Act.put]
 refine dm (i:=3) (v:=?_) rfl (by kernel_rfl) (by kernel_rfl) (by kernel_rfl) (λ_ _ _ h=>h) (gP ⟨by rfl,?_⟩) (by assumption) ?_;rotate_left 1
 ·(intro wz hSw;(try unfold kM at hSw);unfold kD at hSw;go_simp;try with_reducible rfl)
 try simp only[Act.put]
 refine dm (i:=4) (v:=?_) rfl (by kernel_rfl) (by kernel_rfl) (by kernel_rfl) (λ_ _ _ h=>h) (gP ⟨by rfl,?_⟩) (by assumption) ?_;rotate_left 1
 ·(intro wz hSw;(try unfold kM at hSw);unfold kD at hSw;go_simp;try with_reducible rfl)
 try simp only[Act.put]
 refine dm (i:=5) (v:=?_) rfl (by kernel_rfl) (by kernel_rfl) (by kernel_rfl) (λ_ _ _ h=>h) (gP ⟨by rfl,?_⟩) (by assumption) ?_;rotate_left 1
 ·(intro wz hSw;(try unfold kM at hSw);unfold kD at hSw;go_simp;try with_reducible rfl)
 try simp only[Act.put]
 refine dm (i:=6) (v:=?_) rfl (by kernel_rfl) (by kernel_rfl) (by kernel_rfl) (λ_ _ _ h=>h) (gP ⟨by rfl,?_⟩) (by assumption) ?_;rotate_left 1
 ·(intro wz hSw;(try unfold kM at hSw);unfold kD at hSw;go_simp;try with_reducible rfl)
 try simp only[Act.put]
 refine dm (i:=7) (v:=?_) rfl (by kernel_rfl) (by kernel_rfl) (by kernel_rfl) (λ_ _ _ h=>h) (gP ⟨by rfl,?_⟩) (by assumption) ?_;rotate_left 1
 ·(intro wz hSw;(try unfold kM at hSw);unfold kD at hSw;go_simp;try with_reducible rfl)
 try simp only[Act.put]
 refine dm (i:=8) (v:=?_) rfl (by kernel_rfl) (by kernel_rfl) (by kernel_rfl) (λ_ _ _ h=>h) (gP ⟨by rfl,?_⟩) (by assumption) ?_;rotate_left 1
 ·(intro wz hSw;(try unfold kM at hSw);unfold kD at hSw;go_simp;try with_reducible rfl)
 try simp only[Act.put]
 refine dm (i:=9) (v:=?_) rfl (by kernel_rfl) (by kernel_rfl) (by kernel_rfl) (λ_ _ _ h=>h) (gP ⟨by rfl,?_⟩) (by assumption) ?_;rotate_left 1
 ·(intro wz hSw;(try unfold kM at hSw);unfold kD at hSw;go_simp;try with_reducible rfl)
 try simp only[Act.put]
 refine dm (i:=13) (v:=?_) rfl (by kernel_rfl) (by kernel_rfl) (by kernel_rfl) (λ_ _ _ h=>h) (gP ⟨by rfl,?_⟩) (by assumption) ?_;rotate_left 1
 ·(intro wz hSw;(try unfold kM at hSw);unfold kD at hSw;go_simp;try with_reducible rfl)
 try simp only[Act.put]
 refine dm (i:=14) (v:=?_) rfl (by kernel_rfl) (by kernel_rfl) (by kernel_rfl) (λ_ _ _ h=>h) (gP ⟨by rfl,?_⟩) (by assumption) ?_;rotate_left 1
 ·(intro wz hSw;(try unfold kM at hSw);unfold kD at hSw;go_simp;try with_reducible rfl)
 try simp only[Act.put]
 refine dm (i:=15) (v:=?_) rfl (by kernel_rfl) (by kernel_rfl) (by kernel_rfl) (λ_ _ _ h=>h) (gP ⟨by rfl,?_⟩) (by assumption) ?_;rotate_left 1
 ·(intro wz hSw;(try unfold kM at hSw);unfold kD at hSw;go_simp;try with_reducible rfl)
 try simp only[Act.put]
 refine aM (rs:=[10]) (by kernel_rfl) (by simp) ?_;refine aA rfl (λK hK=>?_) aG;go_simp
 go_at_call 59
 refine(HCl _).o.mono ?_;rintro _ w6 ⟨rfl,hKc,bK,-⟩;have bQ:=hb1.drew.trans (bK.mono (by simp));obtain⟨k0,k1,k2,k3,k4,k5⟩:=hKc.cells;have hS2:kM w5 t.lm (kD t dd i w bl off c4 ga AR l.length cR) w6:=⟨(HS _ bQ).o,k0,k1,k2,k3,k4,k5⟩;have Tw:=hKc.1.lt;refine hK.o _ _ (HS _ bQ).o (λ_=>CN (S':=kM w5 t.lm (kD t dd i w bl off c4 ga AR l.length cR)) (λ_ h=>h.1) _ _ _ _ ?_);clear hK K k0 k1 k2 k3 k4 k5
 try simp only[qq]
 refine dm (i:=11) (v:=?_) rfl (by kernel_rfl) (by kernel_rfl) (by kernel_rfl) (λ_ _ _ h=>h) (gP ⟨by rfl,?_⟩) (by assumption) ?_;rotate_left 1
 ·(intro wz hSw;(try unfold kM at hSw);unfold kD at hSw;go_simp;try with_reducible rfl)
 try simp only[Act.put,bN]
 refine dm (i:=12) (v:=?_) rfl (by kernel_rfl) (by kernel_rfl) (by kernel_rfl) (λ_ _ _ h=>h) (gP ⟨by rfl,?_⟩) (by assumption) ?_;rotate_left 1
 ·(intro wz hSw;(try unfold kM at hSw);unfold kD at hSw;go_simp;try with_reducible rfl)
 try simp only[Act.put]
 refine dm (i:=16) (v:=?_) rfl (by kernel_rfl) (by kernel_rfl) (by kernel_rfl) (λ_ _ _ h=>h) (gP ⟨by rfl,?_⟩) (by assumption) ?_;rotate_left 1
 ·(intro wz hSw;(try unfold kM at hSw);unfold kD at hSw;go_simp;try with_reducible rfl)
 try simp only[Act.put]
 refine aM (rs:=[17]) (by kernel_rfl) (by simp) ?_;refine aA rfl (λK hK=>?_) aG;go_simp;have hS3:=λo:Obj=>(⟨(HS _ (bQ.alloc bQ.size o)).o,bn o hS2.2.1,bn o hS2.2.2.1,bn o hS2.2.2.2.1,bn o hS2.2.2.2.2.1,bn o hS2.2.2.2.2.2.1,bn o hS2.2.2.2.2.2.2⟩:kM w5 t.lm (kD t dd i w bl off c4 ga AR l.length cR) (w6.alloc o));refine hK.o _ _ (hS3 _) (λhS4=>?_);clear hK K hS3
 try simp only[qq]
 refine dm (i:=18) (v:=?_) rfl (by kernel_rfl) (by kernel_rfl) (by kernel_rfl) (λ_ _ _ h=>h) (gP ⟨by rfl,?_⟩) (by assumption) ?_;rotate_left 1
 ·(intro wz hSw;go_simp;try with_reducible rfl)
 try simp only[Act.put,bN]
 refine bP (by kernel_rfl) ?_ _;clear hS2 hHeld hS4 HCl;go_wp2_with fail;obtain⟨hA5,hT5,b5'⟩:=hk.o;obtain⟨VR,hBR,hSR,hFR⟩:=hA5.ex;have eVR:VR=.slice AR l.length cR:=by
  have:=hBR.cell 0 (x:=VR) rfl;rw[a0]at this;exact(Option.some.inj this).symm
 subst eVR;refine(oO false (λx=>w.heap.size<=x) w6 (NM.pY t i dr l) 0 0 rfl _ ?_).mono ?_
 ·have hW6:=λo:Obj=>bQ.alloc bQ.size o
  refine⟨⟨.slice (some (bl,off)) t.ns.length c4,.slice none 0 0,.slice AR l.length cR,λ_=>.slice none 0 0,(aJ w6 _ rfl _ _).eq ?_,?_⟩,Nat.zero_lt_succ _,bH _,?_,h8,λ_ _=>Nat.zero_lt_succ _,λ_ _=>Nat.zero_lt_succ _⟩
  ·simp only[NM.pY,ndH,NM.me,HDD.o]
   kernel_rfl
  ·have hl:=bQ.size
   refine⟨(hT5.below (hW6 _)).more (hW6 _).size,λ_ e=>?_,λ_ x hx=>?_,jr.nil,λ_ _=>jr.nil,(hSR.below (hW6 _)).more (hW6 _).size,λf hf hl0 e=>?_,λhl0 x hx=>?_⟩
   ·simp only[Value.ownBlock,bB]at e
    omega
   ·exact aW b3s (hTl x hx)
   ·rw[bD]at hf
    obtain⟨A0,c0',e0,-,-,h3,-⟩:=hSR.at_
    cases e0
    obtain⟨b0,Tx,rfl,Tz,-⟩:=h3 (aX.2 hl0);simp only[Value.ownBlock,bB]at e;omega
   ·refine Nat.le_of_not_lt λhlt=>hFR x (aT _ (cA.2 (by omega))) hl0 hx
  ·exact⟨λ_ _=>by simp[NM.pY],λ_ _ x hx=>by simp[NM.pY]at hx,λ_ _=>by simp[NM.pY],λ_ _=>by simp[NM.pY]⟩
 ·rintro _ w7 ⟨rfl,h7,o7⟩
  have hge:w.heap.size<=w6.heap.size:=aW b5'.size bQ.size;have b7:Below w w w7:=((b5'.trans (bQ.mono b5'.size)).alloc hge _).trans (o7.below hge (by simp));go_wp2;go_ret2;exact⟨_,rfl,hge,h7,b7⟩
end
end Go.Proofs.YteadkhigkmijiaaGreat
