/- Texts NdJ, NdB, GdB, GdD, RfC in one. -/
import Derived.BigQuiet
import Derived.Test.YteadkhigkmijiaaGreatPC1
import Derived.Test.YteadkhigkmijiaaGreatPC9
import Derived.Test.YteadkhigkmijiaaGreatPC11
import Derived.Test.YteadkhigkmijiaaGreatPC13
set_option linter.all false
namespace Go.Proofs.YteadkhigkmijiaaGreat
section
set_option maxRecDepth 100000
set_option maxHeartbeats 2000000
open Go.RowKit
def NM.up(m:NM):NM:=if m.st=0\/m.st=5 then m else m.enter
def NM.upB(b:Bool)(m:NM):Bool:=if(m.st=2\/(m.st=4/\m.clique))/\m.alone then false else b
theorem LC(b:Bool)(G:Nat->Prop)(g:Nat)(m:NM)(w:World)(h:NA b G w g m)(hst:m.st=2)(ha:m.alone):
  Calls Tryz.prog 97 #[↑(g,0)] w λe w'=>e=.returned ↑false/\NA false G w' g (m.anew 1)/\Only g w w':=by
 have HC:=λn=>af (h.drewN n).mo;have HL:=λn=>af (h.drewN n).mr;generalize decide (m.ty.f<=m.ty.a)=q at HC;rw[show decide (m.ty.a=0)=true from av ha]at HL;have HN:=λn=>af (h.drewN n);have C10:∀n,(w.drewN n).cell? (g,10)=some ↑(2:Int):=λn=>(h.drewN n).c10.trans (by rw[hst];rfl);clear h
 go_enter Tryz.func97,Tryz.ntmps97
 go_wp2_with fail
 go_quiet (first
  |(go_at_call 142;exact eu ((HC _).o))
  |(go_at_call 143;exact bI ((HL _).o)))
 have h0:=(HN nq).o;have c10:=C10 nq;have o0:=af (iQ g (aC (ah w w) nq));clear HC HL HN C10;generalize w.drewN nq=w1 at *;have HB:=af (oO b G g m 1 1 rfl w1 h0);have hs:(m.anew 1).st=1:=rfl;clear h0 hst;generalize hq:m.anew 1=m2 at *;have HQ:=af hq.symm;clear hq;go_wp2_with fail;refine HB.o.mono ?_;rintro _ w2 ⟨rfl,h2,o2⟩;have mE:=h2.c10;rw[hs]at mE;clear c10 HB;go_wp2;go_ret;exact⟨rfl,HQ.o▸h2,o0.o.trans o2⟩
theorem LD(b:Bool)(G:Nat->Prop)(g:Nat)(m:NM)(w:World)(h:NA b G w g m)(hst:m.st=2)(ha:¬m.alone):
  Calls Tryz.prog 97 #[↑(g,0)] w λe w'=>e=.returned ↑true/\NA b G w' g {m with st:=4}/\Only g w w':=by
 have HC:=λn=>af (h.drewN n).mo;have HL:=λn=>af (h.drewN n).mr;generalize decide (m.ty.f<=m.ty.a)=q at HC;rw[show decide (m.ty.a=0)=false from aj ha]at HL;have HN:=λn=>af (h.drewN n);have C10:∀n,(w.drewN n).cell? (g,10)=some ↑(2:Int):=λn=>(h.drewN n).c10.trans (by rw[hst];rfl);clear h
 go_enter Tryz.func97,Tryz.ntmps97
 go_wp2_with fail
 go_quiet (first
  |(go_at_call 142;exact eu ((HC _).o))
  |(go_at_call 143;exact bI ((HL _).o)))
 have h0:=(HN nq).o;have c10:=C10 nq;have o0:=af (iQ g (aC (ah w w) nq));clear HC HL HN C10;generalize w.drewN nq=w1 at *;have f10:=h0.frozen 10;have h2:=af (h0.sSt 4);have mE:=h2.o.c10;clear h0;go_wp2;go_ret;exact⟨rfl,h2.o,o0.o.set _ _⟩
theorem LF(b:Bool)(G:Nat->Prop)(g:Nat)(m:NM)(w:World)(h:NA b G w g m)(hst:m.st=3)(ha:m.alone):
  Calls Tryz.prog 97 #[↑(g,0)] w λe w'=>e=.returned ↑false/\NA b G w' g {m with ty:=m.ty.clear}/\Only g w w':=by
 have HC:=λn=>af (h.drewN n).mo;have HL:=λn=>af (h.drewN n).mr;generalize decide (m.ty.f<=m.ty.a)=q at HC;rw[show decide (m.ty.a=0)=true from av ha]at HL;have HN:=λn=>af (h.drewN n);have C10:∀n,(w.drewN n).cell? (g,10)=some ↑(3:Int):=λn=>(h.drewN n).c10.trans (by rw[hst];rfl);clear h
 go_enter Tryz.func97,Tryz.ntmps97
 go_wp2_with fail
 go_quiet (first
  |(go_at_call 142;exact eu ((HC _).o))
  |(go_at_call 143;exact bI ((HL _).o)))
 have h0:=(HN nq).o;have c10:=C10 nq;have o0:=af (iQ g (aC (ah w w) nq));clear HC HL HN C10;generalize w.drewN nq=w1 at *;have HB:=af h0.clear;clear h0;go_wp2_with fail;refine HB.o.mono ?_;rintro _ w2 ⟨rfl,h2,o2⟩;have mE:=h2.c10;rw[show({m with ty:=m.ty.clear}:NM).st=3 from hst]at mE;clear c10 HB;go_wp2;go_ret;exact⟨rfl,h2,o0.o.trans o2⟩
theorem LG(b:Bool)(G:Nat->Prop)(g:Nat)(m:NM)(w:World)(h:NA b G w g m)(hst:m.st=3)(ha:¬m.alone)(hc:¬m.clique):
  Calls Tryz.prog 97 #[↑(g,0)] w λe w'=>e=.returned ↑false/\NA b G w' g {m with ty:=m.ty.clear}/\Only g w w':=by
 have HC:=λn=>af (h.drewN n).mo;have HL:=λn=>af (h.drewN n).mr;rw[show decide (m.ty.f<=m.ty.a)=false from aj hc]at HC;rw[show decide (m.ty.a=0)=false from aj ha]at HL;have HN:=λn=>af (h.drewN n);have C10:∀n,(w.drewN n).cell? (g,10)=some ↑(3:Int):=λn=>(h.drewN n).c10.trans (by rw[hst];rfl);clear h
 go_enter Tryz.func97,Tryz.ntmps97
 go_wp2_with fail
 go_quiet (first
  |(go_at_call 142;exact eu ((HC _).o))
  |(go_at_call 143;exact bI ((HL _).o)))
 have h0:=(HN nq).o;have c10:=C10 nq;have o0:=af (iQ g (aC (ah w w) nq));clear HC HL HN C10;generalize w.drewN nq=w1 at *;have HB:=af h0.clear;clear h0;go_wp2_with fail;refine HB.o.mono ?_;rintro _ w2 ⟨rfl,h2,o2⟩;have mE:=h2.c10;rw[show({m with ty:=m.ty.clear}:NM).st=3 from hst]at mE;clear c10 HB;go_wp2;go_ret;exact⟨rfl,h2,o0.o.trans o2⟩
theorem LH(b:Bool)(G:Nat->Prop)(g:Nat)(m:NM)(w:World)(h:NA b G w g m)(hst:m.st=3)(ha:¬m.alone)(hc:m.clique):
  Calls Tryz.prog 97 #[↑(g,0)] w λe w'=>e=.returned ↑true/\NA b G w' g {m with st:=4}/\Only g w w':=by
 have HC:=λn=>af (h.drewN n).mo;have HL:=λn=>af (h.drewN n).mr;rw[show decide (m.ty.f<=m.ty.a)=true from av hc]at HC;rw[show decide (m.ty.a=0)=false from aj ha]at HL;have HN:=λn=>af (h.drewN n);have C10:∀n,(w.drewN n).cell? (g,10)=some ↑(3:Int):=λn=>(h.drewN n).c10.trans (by rw[hst];rfl);clear h
 go_enter Tryz.func97,Tryz.ntmps97
 go_wp2_with fail
 go_quiet (first
  |(go_at_call 142;exact eu ((HC _).o))
  |(go_at_call 143;exact bI ((HL _).o)))
 have h0:=(HN nq).o;have c10:=C10 nq;have o0:=af (iQ g (aC (ah w w) nq));clear HC HL HN C10;generalize w.drewN nq=w1 at *;have f10:=h0.frozen 10;have h2:=af (h0.sSt 4);have mE:=h2.o.c10;clear h0;go_wp2;go_ret;exact⟨rfl,h2.o,o0.o.set _ _⟩
theorem LI(b:Bool)(G:Nat->Prop)(g:Nat)(m:NM)(w:World)(h:NA b G w g m)(hst:m.st=4)(hc:¬m.clique):
  Calls Tryz.prog 97 #[↑(g,0)] w λe w'=>e=.returned ↑false/\NA b G w' g {m with st:=5}/\Only g w w':=by
 have HC:=λn=>af (h.drewN n).mo;have HL:=λn=>af (h.drewN n).mr;rw[show decide (m.ty.f<=m.ty.a)=false from aj hc]at HC;generalize decide (m.ty.a=0)=p at HL;have HN:=λn=>af (h.drewN n);have C10:∀n,(w.drewN n).cell? (g,10)=some ↑(4:Int):=λn=>(h.drewN n).c10.trans (by rw[hst];rfl);clear h
 go_enter Tryz.func97,Tryz.ntmps97
 go_wp2_with fail
 go_quiet (first
  |(go_at_call 142;exact eu ((HC _).o))
  |(go_at_call 143;exact bI ((HL _).o)))
 have h0:=(HN nq).o;have c10:=C10 nq;have o0:=af (iQ g (aC (ah w w) nq));clear HC HL HN C10;generalize w.drewN nq=w1 at *;have f10:=h0.frozen 10;have h2:=af (h0.sSt 5);have mE:=h2.o.c10;clear h0;go_wp2;go_ret;exact⟨rfl,h2.o,o0.o.set _ _⟩
theorem LJ(b:Bool)(G:Nat->Prop)(g:Nat)(m:NM)(w:World)(h:NA b G w g m)(hst:m.st=4)(ha:m.alone)(hc:m.clique):
  Calls Tryz.prog 97 #[↑(g,0)] w λe w'=>e=.returned ↑false/\NA false G w' g (m.anew 1)/\Only g w w':=by
 have HC:=λn=>af (h.drewN n).mo;have HL:=λn=>af (h.drewN n).mr;rw[show decide (m.ty.f<=m.ty.a)=true from av hc]at HC;rw[show decide (m.ty.a=0)=true from av ha]at HL;have HN:=λn=>af (h.drewN n);have C10:∀n,(w.drewN n).cell? (g,10)=some ↑(4:Int):=λn=>(h.drewN n).c10.trans (by rw[hst];rfl);clear h
 go_enter Tryz.func97,Tryz.ntmps97
 go_wp2_with fail
 go_quiet (first
  |(go_at_call 142;exact eu ((HC _).o))
  |(go_at_call 143;exact bI ((HL _).o)))
 have h0:=(HN nq).o;have c10:=C10 nq;have o0:=af (iQ g (aC (ah w w) nq));clear HC HL HN C10;generalize w.drewN nq=w1 at *;have HB:=af (oO b G g m 1 1 rfl w1 h0);have hs:(m.anew 1).st=1:=rfl;clear h0 hst;generalize hq:m.anew 1=m2 at *;have HQ:=af hq.symm;clear hq;go_wp2_with fail;refine HB.o.mono ?_;rintro _ w2 ⟨rfl,h2,o2⟩;have mE:=h2.c10;rw[hs]at mE;clear c10 HB;go_wp2;go_ret;exact⟨rfl,HQ.o▸h2,o0.o.trans o2⟩
theorem LK(b:Bool)(G:Nat->Prop)(g:Nat)(m:NM)(w:World)(h:NA b G w g m)(hst:m.st=4)(ha:¬m.alone)(hc:m.clique):
  Calls Tryz.prog 97 #[↑(g,0)] w λe w'=>e=.returned ↑true/\NA b G w' g (m)/\Only g w w':=by
 have HC:=λn=>af (h.drewN n).mo;have HL:=λn=>af (h.drewN n).mr;rw[show decide (m.ty.f<=m.ty.a)=true from av hc]at HC;rw[show decide (m.ty.a=0)=false from aj ha]at HL;have HN:=λn=>af (h.drewN n);have C10:∀n,(w.drewN n).cell? (g,10)=some ↑(4:Int):=λn=>(h.drewN n).c10.trans (by rw[hst];rfl);clear h
 go_enter Tryz.func97,Tryz.ntmps97
 go_wp2_with fail
 go_quiet (first
  |(go_at_call 142;exact eu ((HC _).o))
  |(go_at_call 143;exact bI ((HL _).o)))
 have h0:=(HN nq).o;have c10:=C10 nq;have o0:=af (iQ g (aC (ah w w) nq));clear HC HL HN C10;generalize w.drewN nq=w1 at *;have h2:=af h0;clear h0;go_wp2;go_ret;exact⟨rfl,h2.o,o0.o⟩
theorem LL(b:Bool)(G:Nat->Prop)(g:Nat)(m:NM)(w:World)(h:NA b G w g m)(hst:m.st=0):
  Calls Tryz.prog 97 #[↑(g,0)] w λe w'=>e=.returned ↑false/\NA b G w' g (m)/\Only g w w':=by
 have HC:=λn=>af (h.drewN n).mo;have HL:=λn=>af (h.drewN n).mr;generalize decide (m.ty.f<=m.ty.a)=q at HC;generalize decide (m.ty.a=0)=p at HL;have HN:=λn=>af (h.drewN n);have C10:∀n,(w.drewN n).cell? (g,10)=some ↑(0:Int):=λn=>(h.drewN n).c10.trans (by rw[hst];rfl);clear h
 go_enter Tryz.func97,Tryz.ntmps97
 go_wp2_with fail
 go_quiet (first
  |(go_at_call 142;exact eu ((HC _).o))
  |(go_at_call 143;exact bI ((HL _).o)))
 have h0:=(HN nq).o;have c10:=C10 nq;have o0:=af (iQ g (aC (ah w w) nq));clear HC HL HN C10;generalize w.drewN nq=w1 at *;have h2:=af h0;clear h0;go_wp2;go_ret;exact⟨rfl,h2.o,o0.o⟩
theorem LM(b:Bool)(G:Nat->Prop)(g:Nat)(m:NM)(w:World)(h:NA b G w g m)(hst:m.st=5):
  Calls Tryz.prog 97 #[↑(g,0)] w λe w'=>e=.returned ↑false/\NA b G w' g (m)/\Only g w w':=by
 have HC:=λn=>af (h.drewN n).mo;have HL:=λn=>af (h.drewN n).mr;generalize decide (m.ty.f<=m.ty.a)=q at HC;generalize decide (m.ty.a=0)=p at HL;have HN:=λn=>af (h.drewN n);have C10:∀n,(w.drewN n).cell? (g,10)=some ↑(5:Int):=λn=>(h.drewN n).c10.trans (by rw[hst];rfl);clear h
 go_enter Tryz.func97,Tryz.ntmps97
 go_wp2_with fail
 go_quiet (first
  |(go_at_call 142;exact eu ((HC _).o))
  |(go_at_call 143;exact bI ((HL _).o)))
 have h0:=(HN nq).o;have c10:=C10 nq;have o0:=af (iQ g (aC (ah w w) nq));clear HC HL HN C10;generalize w.drewN nq=w1 at *;have h2:=af h0;clear h0;go_wp2;go_ret;exact⟨rfl,h2.o,o0.o⟩
theorem CI(b:Bool)(G:Nat->Prop)(g:Nat)(m:NM)(w:World)(h:NA b G w g m)(h5:m.st<=5)(h1:m.st≠1):
  Calls Tryz.prog 97 #[↑(g,0)] w λe w'=>e=.returned ↑(decide (m.up.st=4))/\NA (m.upB b) G w' g m.up/\Only g w w':=by
 rcases(by omega:m.st=0\/m.st=2\/m.st=3\/m.st=4\/m.st=5)with e|e|e|e|e
 ·rw[show m.up=m by unfold NM.up;rw[au (.inl e)],show m.upB b=b by unfold NM.upB;rw[ai (by omega)],aj (by omega)]
  exact LL b G g m w h e
 ·have hu:m.up=m.enter:=by unfold NM.up;rw[ai (by omega)]
  rw[hu];by_cases ha:m.alone
  ·have:m.enter=m.anew 1:=by unfold NM.enter;rw[au e,au ha]
   rw[this,show m.upB b=false by unfold NM.upB;rw[au ⟨.inl e,ha⟩]];exact LC b G g m w h e ha
  ·have:m.enter={m with st:=4}:=by unfold NM.enter;rw[au e,ai ha]
   rw[this,show m.upB b=b by unfold NM.upB;rw[ai (λh=>ha h.2)]];exact LD b G g m w h e ha
 ·have hu:m.up=m.enter:=by unfold NM.up;rw[ai (by omega)]
  rw[hu,show m.upB b=b by unfold NM.upB;rw[ai (by omega)]];by_cases ha:m.alone
  ·have:m.enter={m with ty:=m.ty.clear}:=by unfold NM.enter;rw[ai (by omega),au e,ai (λh=>h.1 ha)]
   rw[this,show decide (({m with ty:=m.ty.clear}:NM).st=4)=false from aj (by show m.st≠4;omega)];exact LF b G g m w h e ha
  ·by_cases hc:m.clique
   ·have:m.enter={m with st:=4}:=by unfold NM.enter;rw[ai (by omega),au e,au ⟨ha,hc⟩]
    rw[this];exact LH b G g m w h e ha hc
   ·have:m.enter={m with ty:=m.ty.clear}:=by unfold NM.enter;rw[ai (by omega),au e,ai (λh=>hc h.2)]
    rw[this,show decide (({m with ty:=m.ty.clear}:NM).st=4)=false from aj (by show m.st≠4;omega)];exact LG b G g m w h e ha hc
 ·have hu:m.up=m.enter:=by unfold NM.up;rw[ai (by omega)]
  rw[hu];by_cases hc:m.clique
  ·by_cases ha:m.alone
   ·have:m.enter=m.anew 1:=by unfold NM.enter;rw[ai (by omega),ai (by omega),ai (λh=>h hc),au ha]
    rw[this,show m.upB b=false by unfold NM.upB;rw[au ⟨.inr ⟨e,hc⟩,ha⟩]];exact LJ b G g m w h e ha hc
   ·have:m.enter=m:=by unfold NM.enter;rw[ai (by omega),ai (by omega),ai (λh=>h hc),ai ha]
    rw[this,show m.upB b=b by unfold NM.upB;rw[ai (λh=>ha h.2)],av e];exact LK b G g m w h e ha hc
  ·have:m.enter={m with st:=5}:=by unfold NM.enter;rw[ai (by omega),ai (by omega),au hc]
   rw[this,show m.upB b=b by unfold NM.upB;rw[ai (λh=>h.1.elim (λh=>by omega) (λh=>hc h.2))]];exact LI b G g m w h e hc
 ·rw[show m.up=m by unfold NM.up;rw[au (.inr e)],show m.upB b=b by unfold NM.upB;rw[ai (by omega)],aj (by omega)]
  exact LM b G g m w h e
end
section
open Go.RowKit
structure CC(NAt:List Nat->World->Nat->NM->Prop):Prop where
 off:∀{F w g s},NAt F w g s->Calls Tryz.prog 31 #[↑(g,0)] w λe w'=>∃F',e=.returned (.tuple #[])/\NAt F' w' g s.off/\Eff F F' w w'
 write:∀{F w g s v l},NAt F w g s->iI w w v l->iK l->Calls Tryz.prog 32 #[↑(g,0),v] w λe w'=>∃F',e=.returned ↑(s.kN l)/\NAt F' w' g (s.write l)/\Eff F F' w w'
 read:∀{F w g s}(n:Int),NAt F w g s->Calls Tryz.prog 80 #[↑(g,0),↑n] w λe w'=>∃v,e=.returned (.agg #[v,↑(s.so.ga n),↑(s.so.gg n)])/\iI w' w' v (s.so.gd n)/\iK (s.so.gd n)/\Below w w w'
 rings:∀{F w g s}(n:Int),NAt F w g s->Calls Tryz.prog 82 #[↑(g,0),↑n] w λe w'=>e=.returned ↑((if isR s.al n then s.ar n.toNat else 0:Nat):Int)/\Below w w w'
 ack:∀{F w g s}(n:Int),NAt F w g s->Calls Tryz.prog 33 #[↑(g,0),↑n] w λe w'=>∃F',e=.returned ↑(jP s.al s.an s.ar n)/\NAt F' w' g {s with ar:=jS s.al s.an s.ar n}/\Eff F F' w w'
namespace NodeMore
variable {NAt:List Nat->World->Nat->NM->Prop}(M:CC NAt){B:Nat}{P:List Nat}{w w':World}{g:Nat}{s:NM}
include M
end NodeMore
end
section
set_option maxRecDepth 100000
set_option maxHeartbeats 1000000
open Go.RowKit
open Clk (avg)
def time (x:Int):Prop:=-2305843009213693952<=x/\x<=2305843009213693952
theorem BK(a b:Int)(w:World)(ha:time a)(hb:time b):
  Calls Tryz.prog 222 #[↑a,↑b] w λe w'=>e=.returned ↑(a-b:Int)/\w=w':=by
 unfold time at ha hb;have z1:IntKind.i64.wrap (a-b)=a-b:=aO _ (by omega);by_cases h:a<b
 ·have q1:decide (b<=a)=false:=aj (by omega)
  have q2:decide (a<b)=true:=av (by omega);have q3:decide (0<=a-b)=false:=aj (by omega)
  go_enter Tryz.func222,Tryz.ntmps222
  go_wp2;go_ret;exact⟨rfl,rfl⟩
 ·have q1:decide (b<=a)=true:=av (by omega)
  have q2:decide (a<b)=false:=aj (by omega);have q3:decide (a-b<0)=false:=aj (by omega)
  go_enter Tryz.func222,Tryz.ntmps222
  go_wp2;go_ret;exact⟨rfl,rfl⟩
def lM(a b m:Int):Bool:=decide (-m<=a-b/\a-b<=m)
theorem BL(a b:Int)(ha:time a)(hb:time b)(h:a<=b):IntKind.u64.wrap (IntKind.u64.wrap b-IntKind.u64.wrap a)=b-a:=by
 unfold time at ha hb;have e:∀x,IntKind.u64.wrap x=x%18446744073709551616:=λx=>rfl;rw[e,e,e];omega
theorem BM(a b m:Int)(w:World)(ha:time a)(hb:time b)(hm:0<=m/\m<=2305843009213693952):
  Calls Tryz.prog 195 #[↑a,↑b,↑m] w λe w'=>e=.returned ↑(lM a b m)/\w=w':=by
 have h1:=af (BL a b ha hb);have h2:=af (BL b a hb ha);unfold time at ha hb
 go_enter Tryz.func195,Tryz.ntmps195
 go_wp2
 all_goals
  go_ret;refine⟨?_,rfl⟩;refine uT ?_
  first
   |(rw[h1.o (by omega)];unfold lM;congr 1;apply propext;omega)
   |(rw[h2.o (by omega)];unfold lM;congr 1;apply propext;omega)
   |(rw[show IntKind.u64.wrap 0=0 from rfl];unfold lM;congr 1;apply propext;omega)
def G.on(s:G):G:=if s.slot+1=s.n then {s with slot:=0,now:=s.now+jb s.lm s.l,l:=[]}else {s with slot:=s.slot+1}
theorem nL(s:G)(k:Nat):(grd s).setIfInBounds 18 ↑(k:Nat)=grd {s with slot:=k}:=by simp[grd]
theorem tj(s:G)(k:Int):(grd s).setIfInBounds 16 ↑k=grd {s with now:=k}:=by simp[grd]
theorem pR(s:G)(k:Nat):(grd s).setIfInBounds 19 ↑(k:Nat)=grd {s with si:=k}:=by simp[grd]
theorem tq(s:G)(k:Bool):(grd s).setIfInBounds 17 ↑k=grd {s with kn:=k}:=by simp[grd]
theorem small.iT{l:List Int}(h:small l){n:Int}(hn:-1099511627776<=n/\n<=1099511627776):small (iT l n):=by
 unfold Go.Proofs.YteadkhigkmijiaaGreat.iT
 split
 ·intro x hx
  rcases bG.1 hx with h1|h1
  ·exact h x (fP h1)
  ·simp at h1;subst h1;exact hn
 ·intro x hx
  rcases bG.1 hx with h1|h1
  ·exact h x h1
  ·simp at h1;subst h1;exact hn
def G.heard(s:G)(at_:Int):G:=(if s.sy s.slot then {s with si:=0,l:=iT s.l (at_-s.now)}else {s with si:=0}).on
def G.missed(s:G):G:=if s.si+1=2*s.n then {s with si:=s.si+1,kn:=false,slot:=0}else({s with si:=s.si+1}:G).on
theorem vR(s:G)(k:Nat)(hk:k<8):(grd s)[k]?=some ↑(s.sy k):=by
 rcases(by omega:k=0\/k=1\/k=2\/k=3\/k=4\/k=5\/k=6\/k=7)with rfl|rfl|rfl|rfl|rfl|rfl|rfl|rfl<;>rfl
end
section
set_option maxRecDepth 100000
set_option maxHeartbeats 1000000
open Go.RowKit
def kZ(f:Nat->Bool):Value:=.agg #[↑(f 0),↑(f 1),↑(f 2),↑(f 3),↑(f 4),↑(f 5),↑(f 6),↑(f 7)]
def jK(f:Nat->Int):Value:=.agg #[↑(f 0),↑(f 1),↑(f 2),↑(f 3),↑(f 4),↑(f 5),↑(f 6),↑(f 7)]
def fst(f:Nat->Bool)(n:Nat):Int:=match(List.range n).find? f with|some k=>(k:Nat)|none=>-1
theorem tu{f:Nat->Bool}{n:Nat}(h:∀k,k<n->f k=false):fst f n=-1:=by
 unfold fst;rw[List.find?_eq_none.2 (λk hk=>by simp[h k (cA.1 hk)])]
theorem tA{f:Nat->Bool}{n k:Nat}(hk:k<n)(hf:f k=true)(h:∀j,j<k->f j=false):fst f n=(k:Nat):=by
 unfold fst;rw[List.find?_range_eq_some.2 ⟨hf,cA.2 hk,λj hj=>by simp[h j hj]⟩]
theorem tB(b n c:Nat)(f:Nat->Bool)(w:World)(h:∀k,k<n->w.cell? ⟨b,k,none⟩=some ↑(f k))(hn:n<=8):
  Calls Tryz.prog 152 #[.slice (some (b,0)) n c,↑true] w λe w'=>e=.returned ↑(fst f n)/\w=w':=by
 have H:=af h;have F0:=af (tu (f:=f) (n:=n));have F1:=λk h1 h2 h3=>af (tA (f:=f) (n:=n) (k:=k) h1 h2 h3);generalize fst f n=r at *;clear h
 go_enter Tryz.func152,Tryz.ntmps152
 go_wp2
 go_loopw [8] (λi wr=>∃k:Nat,k<=n/\i=↑k/\Hid (∀j,j<k->f j=false)/\w=wr) (λi _=>n-(intOf i).toNat)
 case atStart=>exact⟨0,by omega,rfl,af (λj hj=>by omega),rfl⟩
 case round=>
  obtain⟨k,hk,rfl,hz,rfl⟩:=hrel;by_cases hlt:k<n
  ·have q1:decide ((k:Int)<(n:Int))=true:=av (by omega)
   have ck:=H.o k hlt
   cases hf:f k
   ·rw[hf]at ck
    go_wp2;go_roundw
    case rel=>exact⟨k+1,by omega,by go_num,af (λj hj=>by
     by_cases e:j=k
     ·subst e;exact hf
     ·exact hz.o j (by omega)),trivial⟩
    case measure=>simp[intOf];omega
   ·rw[hf]at ck
    have e1:=F1 k hlt hf hz.o;go_wp2;go_ret;exact⟨by rw[e1.o];rfl,rfl⟩
  ·have q1:decide ((k:Int)<(n:Int))=false:=aj (by omega)
   have e1:=F0.o (λj hj=>hz.o j (by omega));go_wp2;go_ret;exact⟨by rw[e1];rfl,rfl⟩
def G.pass(s:G)(f:Nat->Bool)(a:Nat->Int):Int:=if s.kn then(if f s.slot&&lM (a s.slot) s.now s.wi then(s.slot:Nat)else -1)else fst f s.n
theorem lZ(f:Nat->Bool)(k:Nat)(hk:k<8):(#[↑(f 0),↑(f 1),↑(f 2),↑(f 3),↑(f 4),↑(f 5),↑(f 6),↑(f 7)]:Array Value)[k]?=some ↑(f k):=by
 rcases(by omega:k=0\/k=1\/k=2\/k=3\/k=4\/k=5\/k=6\/k=7)with rfl|rfl|rfl|rfl|rfl|rfl|rfl|rfl<;>rfl
theorem l7(f:Nat->Int)(k:Nat)(hk:k<8):(#[↑(f 0),↑(f 1),↑(f 2),↑(f 3),↑(f 4),↑(f 5),↑(f 6),↑(f 7)]:Array Value)[k]?=some ↑(f k):=by
 rcases(by omega:k=0\/k=1\/k=2\/k=3\/k=4\/k=5\/k=6\/k=7)with rfl|rfl|rfl|rfl|rfl|rfl|rfl|rfl<;>rfl
end
section
set_option maxRecDepth 100000
set_option maxHeartbeats 1000000
open Go.RowKit
open Clk (avg)
def jv:Value->Option Nat
 |.slice (some a) _ _=>some a.block
 |_=>none
theorem ja.only{W W':World}{B g:Nat}{v:Value}{l:List Int}(h:ja W B v l)(k:Only g W W')(hB:B<=W.heap.size)(hne:jv v≠some g):ja W' B v l:=⟨by
 obtain⟨A,c,rfl,h1,h2,h3,h4⟩:=h.at_;refine⟨A,c,rfl,h1,h2,λh0=>?_,h4⟩;obtain⟨b,off,rfl,hb,hc⟩:=h3 h0;refine⟨b,off,rfl,hb,λj hj=>?_⟩;rw[<-hc j hj];exact World.grownBy.cell_far k (b,off+j) (by show b<_;omega) (λe=>hne (by simp only[jv];exact e))⟩
structure RKt(c:Cx 11)(W:World)(g:Nat)(m:Int)(v:Value)(l:List Int):Prop where
 blk:PB c W g #[↑m,v]
 sees:ja W W v l
 far:jv v≠some g
theorem RKt.below{c:Cx 11}{W W':World}{g:Nat}{m:Int}{v:Value}{l:List Int}(h:RKt c W g m v l)(k:Below W W W'):RKt c W' g m v l:=
 ⟨h.blk.below k h.blk.lt,(h.sees.below k).more k.size,h.far⟩
theorem xu(c:Cx 11)(g:Nat)(m:Int)(v:Value)(l:List Int)(w:World)(h:RKt c w g m v l):
  Calls Tryz.prog 134 #[↑(g,11)] w λe w'=>e=.returned (.tuple #[])/\RKt c w' g m (.slice none 0 0) []/\Only g w w':=by
 have c1:=h.blk.cell 1 rfl;have f1:=h.blk.frozen 12;have hB:=af (h.blk.set 1 (by simp) (.slice none 0 0));clear h
 go_enter Tryz.func134,Tryz.ntmps134
 go_wp2;exact aD (ax (by rfl) _ _ _) rfl ⟨rfl,⟨hB.o,ja.nil,(by simp[jv])⟩,(aE g w).set 12 _⟩
theorem Eb(c:Cx 11)(g:Nat)(m:Int)(v:Value)(l:List Int)(w:World)(h:RKt c w g m v l)(hs:small l)(h4:l.length<=4)(hm:0<=m/\m<=1099511627776):
  Calls Tryz.prog 182 #[↑(g,11)] w λe w'=>e=.returned (.tuple #[↑(jb m l),↑(wiB m (avg l))])/\Below w w w':=by
 have c1:=h.blk.cell 1 rfl;have R:=af (zh l v w _ h.sees hs h4);have HC:Hid (∀W,Below w w W->W.cell? (g,11)=some ↑m):=af (λW hW=>(h.below hW).blk.cell 0 rfl);have hbd:=Clk.zo (B:=1099511627776) (by decide) hs h4;obtain⟨A,cc,rfl,-,-,-,-⟩:=h.sees.at_;unfold jb;have hwn:(wiB m (avg l)=true/\-m<=avg l/\avg l<=m)\/(wiB m (avg l)=false/\avg l < -m)\/(wiB m (avg l)=false/\m<avg l):=by
  by_cases h:-m<=avg l/\avg l<=m
  ·exact .inl ⟨av h,h⟩
  ·by_cases h':avg l < -m
   ·exact .inr (.inl ⟨aj h,h'⟩)
   ·exact .inr (.inr ⟨aj h,by omega⟩)
 obtain⟨m1,m2⟩:=hm;obtain⟨b1,b2⟩:=hbd;generalize avg l=r at *;generalize wiB m r=q at *;clear h hs h4;rcases hwn with⟨rfl,d1,d2⟩|⟨rfl,d1⟩|⟨rfl,d1⟩
 all_goals
  go_enter Tryz.func182,Tryz.ntmps182
  go_wp2_with fail;refine R.o.mono ?_;rintro e w1 ⟨rfl,hb1⟩;have c0:=HC.o w1 hb1;go_wp2;go_ret2;exact⟨rfl,hb1⟩
theorem Ei(c:Cx 11)(g:Nat)(m:Int)(v:Value)(l:List Int)(n:Int)(w:World)(h:RKt c w g m v l)(h4:l.length<=4):
  Calls Tryz.prog 124 #[↑(g,11),↑n] w λe w'=>e=.returned (.tuple #[])/\(∃v',RKt c w' g m v' (iT l n)/\∀b,jv v'=some b->w.heap.size<=b)/\Only g w w':=by
 have HK4:Hid (l.length=4->iT l n=(l++[n]).drop 1):=af (λh=>by
  unfold iT;rw[au h,List.drop_append_of_le_length (by omega)])
 have HKn:Hid (¬l.length=4->iT l n=l++[n]):=af (λh=>by unfold iT;rw[ai h]);generalize iT l n=K at *;have a1:=bn (.cells #[] 3) (h.blk.cell 1 rfl);have hem:=af (uV w 3 rfl w w lr rfl);have hse:=af (h.sees.alloc (.cells #[] 3));have hgl:=h.blk.lt;have hbA:=af ((ah w w).alloc lr (.cells #[] 3));have HB:Hid (∀W,Below w w W->PB c W g #[↑m,v]):=af (λW hW=>h.blk.below hW h.blk.lt);clear h
 go_enter Tryz.func124,Tryz.ntmps124
 go_wp2_with (at_builtin;go_loud (refine pE _ rfl (.tmp 5) (.tmp 9) 33 rfl w oh Tryz.underlying33 _ [] hem.o rfl _ v l rfl hse.o (by simp) (by simp;omega) ?_));intro v1 w1 ho1 hx1;have hb1:=hbA.o.trans (hx1.toBelow (B:=w.heap.size) (by simp) (λj hj=>by simp[Value.ownBlock]at hj;omega));have ho1:jg w1 w v1 l:=ho1;clear a1 hem hse hbA hx1;have hsX:=af (tE w1 3 #[↑n] [n] rfl (w1.heap.size+1) (by omega) (by simp[maxLen]) _ 1 1 rfl rfl rfl);go_wp2_with (at_builtin;go_loud (refine pE _ rfl (.tmp 10) (.tmp 12) 33 rfl w oh Tryz.underlying33 _ l (ho1.alloc _) rfl _ _ [n] rfl hsX.o (by have:=hb1.size;simp;omega) (by simp;omega) ?_));intro v2 w2 ho2 hx2;have hb2:=(hb1.alloc hb1.size (.cells #[↑n] 3)).trans (hx2.toBelow (B:=w.heap.size) (by have:=hb1.size;simp;omega) (λj hj=>(ho1.lt j hj).1));have hB2:=HB.o w2 hb2;have d1:=hB2.cell 1 rfl;have e1:=hB2.frozen 12;obtain⟨b,cp,rfl,k1,k2,k3,k4⟩:=ho2.uW (by simp);have hl5:(l++[n]).length=l.length+1:=by simp
 have hown2:=af ho2;have hs2:=af (ho2.sees.only (g:=g) ((aE g w2).set 12 (.slice (some (b,0)) (l++[n]).length cp)) lr (by simp[jv];omega));have hB3:=af (hB2.set 1 (by simp) (.slice (some (b,0)) (l++[n]).length cp));rw[hl5]at hs2 hB3 k1 ⊢;have H5:=af hl5;clear hl5 hown2 ho2 ho1 hx2 hsX;by_cases hl:l.length=4
 ·have q1:decide ((4:Int)<((l.length:Nat):Int)+1)=true:=av (by omega)
  have q2:¬cp=1:=by omega
  have hs4:=af (hs2.o.sub H5.o.symm 1 (l.length+1) (by omega) lr (by omega) (o:=1) (by omega) (m:=l.length+1-1) rfl (c':=cp-1) rfl);have hs5:=af (hs4.o.only (g:=g) ((aE g _).set 12 (.slice (some (b,1)) (l.length+1-1) (cp-1))) (by simp[World.setCell]) (by simp[jv];omega));have hB5:=af (hB3.o.set 1 (by simp) (.slice (some (b,1)) (l.length+1-1) (cp-1)));have HL:=af hl;clear hl hs4;go_wp2;refine aD (ax (by rfl) _ _ _) rfl ⟨rfl,⟨.slice (some (b,1)) (l.length+1-1) (cp-1),?_⟩,((iQ g hb2).trans ((aE g w2).set 12 _)).set 12 _⟩;rw[HK4.o HL.o];have h1:=hs5.o;rw[gE (by simp)]at h1;exact⟨⟨hB5.o,h1.more (by simp[World.setCell]),(by simp[jv];omega)⟩,λj hj=>by simp[jv]at hj;omega⟩
 ·have q1:decide ((4:Int)<((l.length:Nat):Int)+1)=false:=aj (by omega)
  have hKn:=af (HKn.o hl);clear hl;go_wp2;refine aD (ax (by rfl) _ _ _) rfl ⟨rfl,⟨.slice (some (b,0)) (l.length+1) cp,?_⟩,(iQ g hb2).trans ((aE g w2).set 12 _)⟩;rw[hKn.o];exact⟨⟨hB3.o,hs2.o.more (by simp[World.setCell]),(by simp[jv];omega)⟩,λj hj=>by simp[jv]at hj;omega⟩
end
end Go.Proofs.YteadkhigkmijiaaGreat
