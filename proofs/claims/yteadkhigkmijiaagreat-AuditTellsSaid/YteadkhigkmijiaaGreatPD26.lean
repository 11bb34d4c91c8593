/- Texts NdZ, RnM in one. -/
import Derived.Test.YteadkhigkmijiaaGreatPD1
import Derived.Test.YteadkhigkmijiaaGreatPD13
import Derived.Test.YteadkhigkmijiaaGreatPD14
import Derived.Test.YteadkhigkmijiaaGreatPD17
import Derived.Test.YteadkhigkmijiaaGreatPD25
set_option linter.all false
namespace Go.Proofs.YteadkhigkmijiaaGreat
section
set_option maxHeartbeats 1000000
open Go.RowKit
open Fr (St F)
theorem Mr(b:Bool)(G:Nat->Prop)(g:Nat)(m:NM)(h:Hn)(vx vy:Value)(w:World)(hm:NA b G w g m)(hi:NI b m)(hG:∀x,w.heap.size<=x->G x)(hh:HOk w h vx vy)(ha:m.ty.a<900)(hf:m.ty.f<900)(ht:-4611686018427387904<=m.tm/\m.tm<=4611686018427387904):
  Calls Tryz.prog 70 #[↑(g,0),hdV h vx vy] w λe w'=>∃b',e=.returned (.tuple #[])/\NA b' G w' g (m.take h)/\NI b' (m.take h)/\Only g w w':=by
 have hj:=hi.j;have hmay:=hj.may;have hn8:=hmay.n8;have hsl:=hj.sl;have ho:=hh.o;have hHW:∀W,Below w w W->HOk W h vx vy:=λW hW=>⟨(hh.x.below hW).more hW.size,hh.bx,(hh.y.below hW).more hW.size,hh.by_,hh.o⟩;have hGW:∀W,Below w w W->∀x,W.heap.size<=x->G x:=λW hW x hx=>hG x (aW hW.size hx);obtain⟨Ax,cx,rfl,-⟩:=hh.x.at_;obtain⟨Ay,cy,rfl,-⟩:=hh.y.at_;by_cases hoff:m.st=0\/m.st=5
 ·have eT:m.take h=m:=by unfold NM.take;rw[au hoff]
  rw[eT];have hfin:∀(e:Ending)(w':World),(e=.returned (.tuple #[])/\NA b G w' g m/\Only g w w')->∃b',e=.returned (.tuple #[])/\NA b' G w' g m/\NI b' m/\Only g w w':=λe w' h=>⟨b,h.1,h.2.1,hi,h.2.2⟩;exact(Mf b G g m h Ax Ay _ _ cx cy w hm hoff).mono hfin
 ·by_cases h1:m.st=1
  ·have hb:b=false:=by
    cases b
    ·rfl
    ·have:=(hi.b1 rfl).2;omega
   subst hb;rcases hl:m.kY h with _|l
   ·have eT:m.take h=if h.a≠0\/h.b≠0 then {m with wt:=0}else m:=by unfold NM.take;rw[ai hoff,au h1,hl]
    rw[eT];refine(C8 false G g m h Ax Ay _ _ cx cy false _ w hm h1 (λW hW=>Md false G g m h _ _ W (hm.below hW) (hHW W hW) hl)).mono ?_;rintro e w' ⟨rfl,h',o⟩;refine⟨false,rfl,h',?_,o⟩
    split
    ·exact⟨⟨hj.is,hj.i,hj.st,hj.rd,hj.sl,hj.da,sC (m:=m) hj.is hj.i,hj.ck,hj.dr⟩,(λh=>by cases h),hi.b2⟩
    ·exact hi
   ·have eT:m.take h=(m.knows (Fr.res l NM.z3) h.o).goOn:=by unfold NM.take;rw[ai hoff,au h1,hl]
    have htl:m.tells l:=by
     have:=List.find?_some hl;exact dh this
    obtain⟨he,hk1,hs1,hs2⟩:=htl;have hrm:=(St.mM _).1 (wO he);have hjk:=hj.knows (Fr.res l NM.z3) h.o hrm.1 ⟨hrm.2.1.1,hs1⟩;have hgk:NG (m.knows (Fr.res l NM.z3) h.o):=hjk.ng (by show -4611687117939015680<=m.tm+h.o/\m.tm+h.o<=4611687117939015680;omega);rw[eT];refine(C8 false G g m h Ax Ay _ _ cx cy false _ w hm h1 (λW hW=>Me false G g m h _ _ l W (hm.below hW) (hGW W hW) (hHW W hW) hl hgk ht hrm.2.1.1)).mono ?_;rintro e w' ⟨rfl,h',o⟩;exact⟨false,rfl,h',NI.goOn hjk,o⟩
  ·have hst:m.st=2\/m.st=3\/m.st=4:=by have:=hj.st;omega
   by_cases hs:m.sl=m.i
   ·have hse:b=m.se:=by
     rcases hi.b2 with e|e
     ·exact e
     ·omega
    have eT:m.take h=({m with ck:=if m.se=true then m.meas m.i 0 else m.ck}:NM).goOn:=by unfold NM.take;rw[ai hoff,ai h1,au hs]
    by_cases hs1:m.se=true
    ·by_cases hsy:m.me.sy=true
     ·have eC:m.take h=({m with ck:=iT m.ck 0}:NM).goOn:=by
       rw[eT,au hs1];unfold NM.meas;rw[au (show(m.at_ m.i).sy=true from hsy)]
      rw[eC];have hjc:=hj.ck_ (iT m.ck 0) (hj.ck.mW (by omega));have hg:NG ({m with ck:=iT m.ck 0}:NM):=hjc.ng (by show -4611687117939015680<=m.tm/\m.tm<=4611687117939015680;omega);have hfin:∀(e:Ending)(w':World),(e=.returned (.tuple #[])/\NA false G w' g (({m with ck:=iT m.ck 0}:NM).goOn)/\Only g w w')->∃b',e=.returned (.tuple #[])/\NA b' G w' g (({m with ck:=iT m.ck 0}:NM).goOn)/\NI b' (({m with ck:=iT m.ck 0}:NM).goOn)/\Only g w w':=λe w' h=>⟨false,h.1,h.2.1,NI.goOn hjc,h.2.2⟩;exact(Mg b G g m h Ax Ay _ _ cx cy w hm hst hs (hse.trans hs1) hsy hg).mono hfin
     ·have wQ:m.me.sy=false:=by simpa using hsy
      have eC:m.take h=m.goOn:=by
       rw[eT,au hs1];unfold NM.meas;rw[ai (show ¬(m.at_ m.i).sy=true from hsy)]
      rw[eC];have hg:NG m:=hj.ng (by omega);have hfin:∀(e:Ending)(w':World),(e=.returned (.tuple #[])/\NA false G w' g m.goOn/\Only g w w')->∃b',e=.returned (.tuple #[])/\NA b' G w' g m.goOn/\NI b' m.goOn/\Only g w w':=λe w' h=>⟨false,h.1,h.2.1,NI.goOn hj,h.2.2⟩;exact(Mh b G g m h Ax Ay _ _ cx cy w hm hst hs (hse.trans hs1) wQ hg).mono hfin
    ·have hs0:m.se=false:=by simpa using hs1
     have eC:m.take h=m.goOn:=by rw[eT,ai hs1]
     rw[eC];have hg:NG m:=hj.ng (by omega);have hfin:∀(e:Ending)(w':World),(e=.returned (.tuple #[])/\NA false G w' g m.goOn/\Only g w w')->∃b',e=.returned (.tuple #[])/\NA b' G w' g m.goOn/\NI b' m.goOn/\Only g w w':=λe w' h=>⟨false,h.1,h.2.1,NI.goOn hj,h.2.2⟩;exact(Mi b G g m h Ax Ay _ _ cx cy w hm hst hs (hse.trans hs0) hg).mono hfin
   ·have other:∀m2,NJ m2->m2.tm=m.tm->(∀W,Below w w W->Calls Tryz.prog 110 #[↑(g,0),hdV h (.slice Ax h.x.length cx) (.slice Ay h.y.length cy)] W λe w'=>e=.returned (.tuple #[])/\NA b G w' g m2/\Only g W w')->m.take h=m2.goOn->
      Calls Tryz.prog 70 #[↑(g,0),hdV h (.slice Ax h.x.length cx) (.slice Ay h.y.length cy)] w λe w'=>∃b',e=.returned (.tuple #[])/\NA b' G w' g (m.take h)/\NI b' (m.take h)/\Only g w w':=λm2 j2 t2 HJ eT=>by
     rw[eT];have hg:NG m2:=j2.ng (by rw[t2];omega);have hfin:∀(e:Ending)(w':World),(e=.returned (.tuple #[])/\NA false G w' g m2.goOn/\Only g w w')->∃b',e=.returned (.tuple #[])/\NA b' G w' g m2.goOn/\NI b' m2.goOn/\Only g w w':=λe w' h=>⟨false,h.1,h.2.1,NI.goOn j2,h.2.2⟩;exact(Mj b G g m h Ax Ay _ _ cx cy m2 w hm hst hs HJ hg).mono hfin
    have hs8:m.sl<8:=by omega
    rcases hl:m.lg h with _|l
    ·by_cases hq:h.a=0/\h.b=0
     ·exact other (m.took (m.ty.miss m.sl) m.so m.ck) (hj.took _ _ _ hj.ck) rfl (λW hW=>CZ b G g m h _ _ W (hm.below hW) (hHW W hW) hs8 hl _ (.inl ⟨hq,rfl⟩)) (by unfold NM.take;rw[ai hoff,ai h1,ai hs,hl];exact au hq)
     ·exact other (m.took (m.ty.wrong m.sl) m.so m.ck) (hj.took _ _ _ hj.ck) rfl (λW hW=>CZ b G g m h _ _ W (hm.below hW) (hHW W hW) hs8 hl _ (.inr ⟨hq,by omega,rfl⟩)) (by unfold NM.take;rw[ai hoff,ai h1,ai hs,hl];exact ai hq)
    ·by_cases hsy:(m.at_ m.sl).sy=true
     ·refine other (m.took (m.ty.right m.sl) (m.so.put m.sl (Fr.res l m.own).d) (iT m.ck h.o)) (hj.took _ _ _ (hj.ck.mW ho)) rfl (λW hW=>C0 b G g m h _ _ l W (hm.below hW) (hHW W hW) hs8 hl (hGW W hW) (by omega) hsl hn8 _ (.inl ⟨hsy,rfl⟩)) ?_
      unfold NM.take;rw[ai hoff,ai h1,ai hs,hl];simp only[NM.meas,au hsy]
     ·refine other (m.took (m.ty.right m.sl) (m.so.put m.sl (Fr.res l m.own).d) m.ck) (hj.took _ _ _ hj.ck) rfl (λW hW=>C0 b G g m h _ _ l W (hm.below hW) (hHW W hW) hs8 hl (hGW W hW) (by omega) hsl hn8 _ (.inr ⟨by simpa using hsy,rfl⟩)) ?_
      unfold NM.take;rw[ai hoff,ai h1,ai hs,hl];simp only[NM.meas,ai hsy]
structure NAt(F:List Nat)(W:World)(g:Nat)(m:NM):Prop where
 a:∃b,NA b (λx=>x∈F) W g m/\NI b m
 g:g∈F
 lt:∀f,f∈F->f<W.heap.size
section
variable {F:List Nat}{W W':World}{g:Nat}{m:NM}
theorem Dc{v:Value}{l:List Int}(h:iI W W v l)(hn:Nar (λx=>x∈F) v l)(hs:W.heap.size<=W'.heap.size)(hF:∀f,f∈F->W'.heap[f]?=W.heap[f]?):iI W' W' v l:=⟨by
 obtain⟨A,c,rfl,h1,h2,h3,h4⟩:=h.at_;refine⟨A,c,rfl,h1,h2,λh0=>?_,h4⟩;obtain⟨b,off,rfl,hb,hc⟩:=h3 h0;have hm:b∈F:=hn (aX.1 h0) b rfl;exact⟨b,off,rfl,aN hb hs,λj hj=>by rw[<-hc j hj];simp only[World.cell?,hF b hm]⟩⟩
theorem Dd{v:Value}{l:List Tb.D}(h:jh W W v l)(hn:Nar (λx=>x∈F) v l)(hs:W.heap.size<=W'.heap.size)(hF:∀f,f∈F->W'.heap[f]?=W.heap[f]?):jh W' W' v l:=⟨by
 obtain⟨A,c,rfl,h1,h2,h3,h4⟩:=h.at_;refine⟨A,c,rfl,h1,h2,λh0=>?_,h4⟩;obtain⟨b,off,rfl,hb,hc⟩:=h3 h0;have hm:b∈F:=hn (aX.1 h0) b rfl;exact⟨b,off,rfl,aN hb hs,λj hj=>(hc j hj).keep λo=>by simp only[World.cell?,hF b hm]⟩⟩
theorem Df{v:Value}{l:List R4}(h:jl W W v l)(hn:Nar (λx=>x∈F) v l)(hs:W.heap.size<=W'.heap.size)(hF:∀f,f∈F->W'.heap[f]?=W.heap[f]?):jl W' W' v l:=⟨by
 obtain⟨A,c,rfl,h1,h2,h3,h4⟩:=h.at_;refine⟨A,c,rfl,h1,h2,λh0=>?_,h4⟩;obtain⟨b,off,rfl,hb,hc⟩:=h3 h0;have hm:b∈F:=hn (aX.1 h0) b rfl;exact⟨b,off,rfl,aN hb hs,λj hj=>(hc j hj).keep λo=>by simp only[World.cell?,hF b hm]⟩⟩
theorem NA.p8{b:Bool}(h:NA b (λx=>x∈F) W g m)(hg:g∈F)(hs:W.heap.size<=W'.heap.size)(hF:∀f,f∈F->W'.heap[f]?=W.heap[f]?):NA b (λx=>x∈F) W' g m:=by
 obtain⟨V,D,R,sv,hB,hV⟩:=h.ex;have hD:∀{v:Value}{l:List Int},jr (λx=>x∈F) [g] W v l->jr (λx=>x∈F) [g] W' v l:=λh=>⟨⟨Dc h.1.1 h.2 hs hF,h.1.2⟩,h.2⟩;exact⟨⟨V,D,R,sv,(hF g hg).trans hB,⟨Dd hV.t hV.tn hs hF,hV.tf,hV.tn,hD hV.d,λi hi=>hD (hV.s i hi),Df hV.r hV.rn hs hF,hV.rf,hV.rn⟩⟩,h.tyo,h.cko,h.soo,h.al8,h.n16,h.r16⟩
theorem NAt.keep(h:NAt F W g m)(hs:W.heap.size<=W'.heap.size)(hF:∀f,f∈F->W'.heap[f]?=W.heap[f]?):NAt F W' g m:=by
 obtain⟨b,ha,hi⟩:=h.a;exact⟨⟨b,ha.p8 h.g hs hF,hi⟩,h.g,λf hf=>aN (h.lt f hf) hs⟩
theorem NAt.close{b:Bool}{m':NM}(h:NAt F W g m)(ha:NA b (λx=>x∈F\/W.heap.size<=x) W' g m')(hi:NI b m')(o:Only g W W'):∃F',NAt F' W' g m'/\Eff F F' W W':=by
 obtain⟨F',h1,h2,h3⟩:=ha.list (.inl h.g);exact⟨F',⟨⟨b,h1,hi⟩,h3,λf hf=>(h2 f hf).2⟩,o.kq h.g,λf hf=>(h2 f hf).1⟩
theorem NAt.open_(h:NAt F W g m):∃b,NA b (λx=>x∈F\/W.heap.size<=x) W g m/\NI b m:=by
 obtain⟨b,ha,hi⟩:=h.a;exact⟨b,ha.mono λ_ hx=>.inl hx,hi⟩
end
theorem Ms{t:Tb.T}{i dr:Int}{l:List R4}(h:NM.may t i dr l):NI false (NM.new t i.toNat dr l):=by
 obtain⟨h1,h2,h3,-⟩:=h;have hm:=Tb.T.may h1;have hn:=hm.n4;have hd:=hm.dr;refine⟨⟨h1,by show i.toNat<t.ns.length;omega,bH _,⟨Int.le_refl _,by show(0:Int)<=65535;decide⟩,by show 0<t.ns.length;omega,⟨bH _,λx hx=>by simp[NM.new]at hx⟩,?_,qD,by show -1000<=dr/\dr<=1000;omega⟩,(λh=>by cases h),.inl rfl⟩;exact sC (m:=NM.new t i.toNat dr l) h1 (by show i.toNat<t.ns.length;omega)
theorem oP:NodeApi NAt where
 keep h hs hF:=h.keep hs hF
 lt h:=h.lt
 CB t v u i dr l w hv hu hm:=by
  refine(LV t v u i dr l w hv hu ⟨hm.2.2.2.1,hm.2.2.2.2⟩ hm.1 hm.2.1.1 hm.2.1.2 hm.2.2.1.1 hm.2.2.1.2).mono ?_;rintro _ w' ⟨g,rfl,hg,ha,b⟩;obtain⟨F',h1,h2,h3⟩:=ha.list hg;exact⟨g,F',rfl,⟨⟨false,h1,Ms hm⟩,h3,λf hf=>(h2 f hf).2⟩,λf hf=>(h2 f hf).1,b⟩
 on {F w g s} a h:=by
  obtain⟨b,ha,hi⟩:=h.open_;refine(Lx b _ g s a w ha hi.j.st).mono ?_;rintro _ w' ⟨rfl,h',o⟩;obtain⟨F',h1,h2⟩:=h.close h' (hi.on a) o;exact⟨F',rfl,h1,h2⟩
 send {F w g s} h:=by
  obtain⟨b,ha,hi⟩:=h.open_;refine(Da b _ g s w ha hi).mono ?_;rintro _ w' ⟨v,b',rfl,hv,h',hi',o⟩;obtain⟨F',h1,h2⟩:=h.close h' hi' o;exact⟨v,F',rfl,hv.sees,h1,h2⟩
 take {F w g s vx vy} hd h hx bx hy by_ ha hf ht ho:=by
  obtain⟨b,hna,hi⟩:=h.open_;refine(Mr b _ g s hd vx vy w hna hi (λx hx=>.inr hx) ⟨hx,bx,hy,by_,ho⟩ ha hf ht).mono ?_;rintro _ w' ⟨b',rfl,h',hi',o⟩;obtain⟨F',h1,h2⟩:=h.close h' hi' o;exact⟨F',rfl,h1,h2⟩
 state {F w g s} h:=by
  obtain⟨b,ha,hi⟩:=h.a;refine(Lm b _ g s w ha).mono ?_;rintro _ w' ⟨rfl,rfl⟩;exact⟨rfl,ah _ _⟩
 view {F w g s} h:=by
  obtain⟨b,ha,hi⟩:=h.a;exact pX b _ g s w ha
 clock {F w g s} h:=by
  obtain⟨b,ha,hi⟩:=h.a;refine(Lp b _ g s w ha).mono ?_;rintro _ w' ⟨rfl,rfl⟩;exact⟨rfl,ah _ _⟩
theorem Mt{F:List Nat}{w:World}{g:Nat}{s:NM}(h:NAt F w g s):Calls Tryz.prog 67 #[↑(g,0)] w λe w'=>∃v F',e=.returned v/\iJ w' w v s.sent/\NAt F' w' g s.iL/\Eff F F' w w':=by
 obtain⟨b,ha,hi⟩:=h.open_;refine(Da b _ g s w ha hi).mono ?_;rintro _ w' ⟨v,b',rfl,hv,h',hi',o⟩;obtain⟨F',h1,h2⟩:=h.close h' hi' o;exact⟨v,F',rfl,hv,h1,h2⟩
theorem qX:NodeMore NAt where
 off {F w g s} h:=by
  obtain⟨b,ha,hi⟩:=h.open_;refine(Lv b _ g s w ha).mono ?_;rintro _ w' ⟨rfl,h',o⟩;obtain⟨F',h1,h2⟩:=h.close h' hi.off o;exact⟨F',rfl,h1,h2⟩
 write {F w g s v l} h hv hl:=by
  obtain⟨b,ha,hi⟩:=h.open_;refine(Ly b _ g s v l w w ha (λx hx=>.inr hx) hv hi.j.meB.2.2).mono ?_;rintro _ w' ⟨rfl,h',o⟩;obtain⟨F',h1,h2⟩:=h.close h' (hi.write l hl) o;exact⟨F',rfl,h1,h2⟩
 read {F w g s} n h:=by
  obtain⟨b,ha,hi⟩:=h.a;exact Lu b _ g s n w ha
 rings {F w g s} n h:=by
  obtain⟨b,ha,hi⟩:=h.a;refine(Lr b _ g s n w ha).mono ?_;rintro _ w' ⟨rfl,rfl⟩;exact⟨rfl,ah _ _⟩
 ack {F w g s} n h:=by
  obtain⟨b,ha,hi⟩:=h.open_;refine(Ls b _ g s n w ha).mono ?_;rintro _ w' ⟨rfl,h',o⟩;obtain⟨F',h1,h2⟩:=h.close h' ⟨⟨hi.j.is,hi.j.i,hi.j.st,hi.j.rd,hi.j.sl,hi.j.da,hi.j.wt,hi.j.ck,hi.j.dr⟩,hi.b1,hi.b2⟩ o;exact⟨F',rfl,h1,h2⟩
end
section
open Go.RowKit
structure RX where
 m:Nat
 s:Nat
 a:Nat
 n:Nat
 r:Nat
def RX.own(x:RX)(g:Nat):List Nat:=[g,x.m,x.s,x.n,x.r]
def rnH(m:NM)(V:Value)(x:RX):Array Value:=#[V,↑m.t.dr,↑m.t.wi,↑m.t.lm,↑(m.i:Nat),↑m.dr,↑(m.st:Nat),↑m.rd,↑(m.sl:Nat),↑(x.m,0),↑m.tm]
def rnT(m:NM)(D:Value)(x:RX)(b:Bool):Array Value:=#[↑(x.s,0),↑(x.a,0),D,↑(m.wt:Nat),↑b]
def rnc(m:NM)(V L D:Value)(x:RX)(b:Bool):Array Value:=#[V,↑m.t.dr,↑m.t.wi,↑m.t.lm,↑(m.i:Nat),↑m.dr,↑(m.st:Nat),↑m.rd,↑(m.sl:Nat),↑(x.m,0),↑m.tm,↑m.t.lm,L,↑(x.s,0),↑(x.a,0),D,↑(m.wt:Nat),↑b]
theorem EF(m:NM)(V L D:Value)(x:RX)(b:Bool):rnc m V L D x b=rnH m V x++#[.int .i64 m.t.lm,L]++rnT m D x b:=rfl
def two(K:Nat)(f:Nat->Nat):Array Value:=if K=0 then #[]else #[↑(f 0:Nat),↑(f 1:Nat)]
structure GS where
 own:Nat->Prop
 ro:Nat->Prop
instance:CoeFun GS (λ_=>Nat->Prop):=⟨GS.own⟩
instance:Coe GS (Nat->Prop):=⟨GS.own⟩
structure KG(G:GS)(w w':World):Prop where
 os:w'.os=w.os
 tape:w'.tape=w.tape
 output:w'.output=w.output
 size:w.heap.size<=w'.heap.size
 block:∀k,k<w.heap.size->¬G k->w'.heap[k]?=w.heap[k]?
section
variable {G:GS}{w w1 w2:World}{g:Nat}
theorem KG.refl(G:GS)(w:World):KG G w w:=⟨rfl,rfl,rfl,aR _,λ_ _ _=>rfl⟩
theorem KG.trans(h:KG G w w1)(k:KG G w1 w2):KG G w w2:=⟨k.os.trans h.os,k.tape.trans h.tape,k.output.trans h.output,aW h.size k.size,λi hi hn=>(k.block i (aN hi h.size) hn).trans (h.block i hi hn)⟩
theorem Only.kg(h:Only g w w1)(hg:G g):KG G w w1:=⟨h.os,h.tape,h.output,h.size,λi hi hn=>h.block i hi (by intro e;cases e;exact hn hg)⟩
theorem iZ(h:Below w w w1):KG G w w1:=⟨h.os,h.tape,h.output,h.size,λi hi _=>h.block i hi⟩
theorem KG.kq{F:List Nat}{R:Nat->Prop}(h:KG ⟨λx=>x∈F\/w.heap.size<=x,R⟩ w w1):Kq F w w1:=⟨h.os,h.tape,h.output,h.size,λk hk hn=>h.block k hk (λhg=>hg.elim hn (λh=>by omega))⟩
end
structure RV(G:GS)(P:List Nat)(W:World)(ns:List Tb.D)(ck:List Int)(da:List Int)(al:List R4)(V L D R:Value):Prop where
 t:jh W W V ns
 tf:∀f,f∈P->ns≠[]->V.ownBlock≠some f
 tn:Nar (λk=>G k\/G.ro k) V ns
 l:ja W W L ck
 lf:∀f,f∈P->jv L≠some f
 ln:ck≠[]->∀b,jv L=some b->G b
 ll:∀b,jv L=some b->b<W.heap.size
 d:jr G P W D da
 r:jl W W R al
 rf:∀f,f∈P->al≠[]->R.ownBlock≠some f
 rn:Nar (λk=>G k\/G.ro k) R al
structure RA(b:Bool)(G:GS)(W:World)(g:Nat)(m:NM)(x:RX):Prop where
 ex:∃V L D R,Blk W g (rnc m V L D x b) 93/\Blk W x.a #[R,.slice (some (x.n,0)) m.al.length m.al.length,.slice (some (x.r,0)) m.al.length m.al.length] 162/\RV G (x.own g) W m.t.ns m.ck m.da m.al V L D R
 ty:TAt 164 W x.m m.ty
 so:SRt G (x.own g) W x.s m.so
 nb:Blk W x.n (two m.al.length m.an) 3
 rb:Blk W x.r (two m.al.length m.ar) 3
 nd:(x.a::x.own g).Nodup
 gs:∀k,k∈x.a::x.own g->G k
 al2:m.al.length=0\/m.al.length=2
 cko:m.ck.length<=4
 n16:∀i,i<m.al.length->m.an i<16/\m.ar i<16/\m.ar i ||| m.an i=m.ar i
section
variable {b:Bool}{G G':GS}{W W':World}{g:Nat}{m:NM}{x:RX}{V L D R:Value}{P:List Nat}{ns:List Tb.D}{ck da:List Int}{al:List R4}
theorem jh.p9{l:List Tb.D}(h:jh W W V l)(hF:∀f,f∈P->l≠[]->V.ownBlock≠some f)(k:Kp P W W'):jh W' W' V l:=⟨by
 obtain⟨A,c,rfl,h1,h2,h3,h4⟩:=h.at_;refine⟨A,c,rfl,h1,h2,λh0=>?_,h4⟩;obtain⟨b,off,rfl,hb,hc⟩:=h3 h0;have hn:b∉P:=λhm=>hF b hm (aX.1 h0) rfl;exact⟨b,off,rfl,aN hb k.size,λj hj=>(hc j hj).keep λo=>by simp only[World.cell?,k.block b hb hn]⟩⟩
theorem ja.p9{l:List Int}(h:ja W W V l)(hF:∀f,f∈P->l≠[]->jv V≠some f)(k:Kp P W W'):ja W' W' V l:=⟨by
 obtain⟨A,c,rfl,h1,h2,h3,h4⟩:=h.at_;refine⟨A,c,rfl,h1,h2,λh0=>?_,h4⟩;obtain⟨b,off,rfl,hb,hc⟩:=h3 h0;have hn:b∉P:=λhm=>hF b hm (aX.1 h0) rfl;exact⟨b,off,rfl,aN hb k.size,λj hj=>by rw[<-hc j hj];simp only[World.cell?,k.block b hb hn]⟩⟩
theorem RV.keep(h:RV G P W ns ck da al V L D R)(k:Kp P W W'):RV G P W' ns ck da al V L D R:=
 ⟨h.t.p9 h.tf k,h.tf,h.tn,h.l.p9 (λf hf _=>h.lf f hf) k,h.lf,h.ln,λb hb=>aN (h.ll b hb) k.size,h.d.keep k,h.r.mI h.rf k,h.rf,h.rn⟩
theorem RA.keep(h:RA b G W g m x)(k:Kp (x.own g) W W')(e:∀f,f∈x.a::x.own g->W'.heap[f]?=W.heap[f]?):RA b G W' g m x:=by
 obtain⟨V,L,D,R,hB,hA,hV⟩:=h.ex;have e0:=e g (by simp[RX.own]);have e1:=e x.m (by simp[RX.own]);have e2:=e x.s (by simp[RX.own]);have e3:=e x.n (by simp[RX.own]);have e4:=e x.r (by simp[RX.own]);have e5:=e x.a (by simp);obtain⟨⟨sv,hS,hd⟩,hk⟩:=h.so;exact⟨⟨V,L,D,R,e0.trans hB,e5.trans hA,hV.keep k⟩,⟨e1.trans h.ty.1,h.ty.2⟩,⟨⟨sv,e2.trans hS,λi hi=>(hd i hi).keep k⟩,hk⟩,e3.trans h.nb,e4.trans h.rb,h.nd,h.gs,h.al2,h.cko,h.n16⟩
theorem RA.lts(h:RA b G W g m x):∀f,f∈x.a::x.own g->f<W.heap.size:=by
 obtain⟨V,L,D,R,hB,hA,hV⟩:=h.ex;intro f hf;simp only[RX.own,bq,cM,fL]at hf;rcases hf with rfl|rfl|rfl|rfl|rfl|rfl
 ·exact hA.lt
 ·exact hB.lt
 ·exact h.ty.lt
 ·exact SRt.lt h.so
 ·exact h.nb.lt
 ·exact h.rb.lt
theorem RA.lt(h:RA b G W g m x):g<W.heap.size:=h.lts g (by simp[RX.own])
theorem RA.below(h:RA b G W g m x)(k:Below W W W'):RA b G W' g m x:=h.keep (ku k) λf hf=>k.block f (h.lts f hf)
theorem RA.drew(h:RA b G W g m x):RA b G W.drew g m x:=h.below (ah _ W).drew
theorem RA.drewN(h:RA b G W g m x)(n:Nat):RA b G (W.drewN n) g m x:=h.below (aC (ah _ W) n)
theorem RA.alloc(h:RA b G W g m x)(o:Obj):RA b G (W.alloc o) g m x:=h.below ((ah _ W).alloc lr o)
theorem RA.se_(h:RA b G W g m x)(q:Bool):RA b G W g {m with se:=q} x:=⟨h.ex,h.ty,h.so,h.nb,h.rb,h.nd,h.gs,h.al2,h.cko,h.n16⟩
theorem RA.G_(h:RA b G W g m x):G g:=h.gs g (by simp[RX.own])
theorem RA.ne(h:RA b G W g m x):x.a≠g/\x.a≠x.m/\x.a≠x.s/\x.a≠x.n/\x.a≠x.r/\g≠x.m/\g≠x.s/\g≠x.n/\g≠x.r/\x.m≠x.s/\x.m≠x.n/\x.m≠x.r/\x.s≠x.n/\x.s≠x.r/\x.n≠x.r:=by
 have:=h.nd;simp only[RX.own,ia,bq,cM,fL,not_or,iz,gu,fQ]at this;obtain⟨⟨a1,a2,a3,a4,a5⟩,⟨b1,b2,b3,b4⟩,⟨c1,c2,c3⟩,⟨d1,d2⟩,e1⟩:=this;exact⟨a1,a2,a3,a4,a5,b1,b2,b3,b4,c1,c2,c3,d1,d2,e1⟩
theorem RA.upM(h:RA b G W g m x){ty:TS}(hT:TAt 164 W' x.m ty)(o:Only x.m W W'):RA b G W' g {m with ty:=ty} x:=by
 obtain⟨V,L,D,R,hB,hA,hV⟩:=h.ex;obtain⟨n1,n2,n3,n4,n5,n6,n7,n8,n9,n10,n11,n12,n13,n14,n15⟩:=h.ne;have k:Kp (x.own g) W W':=o.kp (by simp[RX.own]);obtain⟨⟨sv,hS,hd⟩,hk⟩:=h.so;exact⟨⟨V,L,D,R,hB.only o n6,hA.only o n2,hV.keep k⟩,hT,⟨⟨sv,hS.only o (dH n10),λi hi=>(hd i hi).keep k⟩,hk⟩,h.nb.only o (dH n11),h.rb.only o (dH n12),h.nd,h.gs,h.al2,h.cko,h.n16⟩
theorem RA.upS(h:RA b G W g m x){so:MS}(hT:SRt G (x.own g) W' x.s so)(o:Only x.s W W'):RA b G W' g {m with so:=so} x:=by
 obtain⟨V,L,D,R,hB,hA,hV⟩:=h.ex;obtain⟨n1,n2,n3,n4,n5,n6,n7,n8,n9,n10,n11,n12,n13,n14,n15⟩:=h.ne;have k:Kp (x.own g) W W':=o.kp (by simp[RX.own]);exact⟨⟨V,L,D,R,hB.only o n7,hA.only o n3,hV.keep k⟩,h.ty.only o n10,hT,h.nb.only o (dH n13),h.rb.only o (dH n14),h.nd,h.gs,h.al2,h.cko,h.n16⟩
theorem RA.upG(h:RA b G W g m x)(k:Nat)(y:Value)(b':Bool)(m':NM)(e:∀V L D,(rnc m V L D x b).setIfInBounds k y=rnc m' V L D x b')(e1:m'.t.ns=m.t.ns)(e2:m'.ty=m.ty)(e3:m'.ck=m.ck)(e4:m'.so=m.so)(e5:m'.al=m.al)(e6:m'.an=m.an)(e7:m'.ar=m.ar)(e8:m'.da=m.da):RA b' G (W.setCell (g,k) y) g m' x:=by
 obtain⟨V,L,D,R,hB,hA,hV⟩:=h.ex;obtain⟨n1,n2,n3,n4,n5,n6,n7,n8,n9,n10,n11,n12,n13,n14,n15⟩:=h.ne;have o:Only g W (W.setCell (g,k) y):=(aE g W).set k y;have kk:Kp (x.own g) W (W.setCell (g,k) y):=o.kp (by simp[RX.own]);obtain⟨⟨sv,hS,hd⟩,hk⟩:=h.so;refine⟨⟨V,L,D,R,(hB.set k y).eq (e V L D),e5▸hA.only o n1,?_⟩,e2▸h.ty.only o (dH n6),e4 ▸ ⟨⟨sv,hS.only o (dH n7),λi hi=>(hd i hi).keep kk⟩,hk⟩,e5▸e6▸h.nb.only o (dH n8),e5▸e7▸h.rb.only o (dH n9),h.nd,h.gs,e5▸h.al2,e3▸h.cko,e5▸e6▸e7▸h.n16⟩;rw[e1,e3,e5,e8];exact hV.keep kk
theorem RA.sSt(h:RA b G W g m x)(k:Nat):RA b G (W.setCell (g,6) ↑(k:Nat)) g {m with st:=k} x:=h.upG 6 _ b _ (λ_ _ _=>rfl) rfl rfl rfl rfl rfl rfl rfl rfl
theorem RA.sRd(h:RA b G W g m x)(k:Int):RA b G (W.setCell (g,7) ↑k) g {m with rd:=k} x:=h.upG 7 _ b _ (λ_ _ _=>rfl) rfl rfl rfl rfl rfl rfl rfl rfl
theorem RA.sSl(h:RA b G W g m x)(k:Nat):RA b G (W.setCell (g,8) ↑(k:Nat)) g {m with sl:=k} x:=h.upG 8 _ b _ (λ_ _ _=>rfl) rfl rfl rfl rfl rfl rfl rfl rfl
theorem RA.sTm(h:RA b G W g m x)(k:Int):RA b G (W.setCell (g,10) ↑k) g {m with tm:=k} x:=h.upG 10 _ b _ (λ_ _ _=>rfl) rfl rfl rfl rfl rfl rfl rfl rfl
theorem RA.sWt(h:RA b G W g m x)(k:Nat):RA b G (W.setCell (g,16) ↑(k:Nat)) g {m with wt:=k} x:=h.upG 16 _ b _ (λ_ _ _=>rfl) rfl rfl rfl rfl rfl rfl rfl rfl
theorem RA.sSe(h:RA b G W g m x)(k:Bool):RA k G (W.setCell (g,17) ↑k) g m x:=h.upG 17 _ k _ (λ_ _ _=>rfl) rfl rfl rfl rfl rfl rfl rfl rfl
theorem RA.mono(h:RA b G W g m x)(hG:∀k,G k->G' k)(hR:∀k,G.ro k->G'.ro k):RA b G' W g m x:=by
 obtain⟨V,L,D,R,hB,hA,hV⟩:=h.ex;have hn:∀{α:Type}{v:Value}{l:List α},Nar G v l->Nar G' v l:=λh h0 y hy=>hG y (h h0 y hy);have hm:∀{α:Type}{v:Value}{l:List α},Nar (λk=>G k\/G.ro k) v l->Nar (λk=>G' k\/G'.ro k) v l:=λh h0 y hy=>(h h0 y hy).imp (hG y) (hR y);exact⟨⟨V,L,D,R,hB,hA,⟨hV.t,hV.tf,hm hV.tn,hV.l,hV.lf,λh0 k hk=>hG k (hV.ln h0 k hk),hV.ll,⟨hV.d.1,hn hV.d.2⟩,hV.r,hV.rf,hm hV.rn⟩⟩,h.ty,h.so.mono hG,h.nb,h.rb,h.nd,λk hk=>hG k (h.gs k hk),h.al2,h.cko,h.n16⟩
end
end
end Go.Proofs.YteadkhigkmijiaaGreat
