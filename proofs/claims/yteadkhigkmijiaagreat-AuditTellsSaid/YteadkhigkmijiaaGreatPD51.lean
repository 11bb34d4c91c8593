/- Texts RaZ, RaI, DwA in one. -/
import Derived.Test.YteadkhigkmijiaaGreatPD1
import Derived.Test.YteadkhigkmijiaaGreatPD26
import Derived.Test.YteadkhigkmijiaaGreatPD32
import Derived.Test.YteadkhigkmijiaaGreatPD42
import Derived.Test.YteadkhigkmijiaaGreatPD47
import Derived.Test.YteadkhigkmijiaaGreatPD49
import Derived.Test.YteadkhigkmijiaaGreatPD50
set_option linter.all false
namespace Go.Proofs.YteadkhigkmijiaaGreat
section
open Go.RowKit
open Fr (St F)
section
variable {b:Bool}{G G':GS}{w W W':World}{g:Nat}{m:NM}{x:RX}{Fs Rs:List Nat}
theorem RA.cut(h:RA b G W g m x)(hg:∀k,G k->k<W.heap.size->G' k)(hr:∀k,G.ro k->G'.ro k):RA b G' W g m x:=by
 obtain⟨Vn,L,D,R,hB,hA,hV⟩:=h.ex;obtain⟨⟨sv,hS,hd⟩,hk⟩:=h.so;have dat:∀{P:List Nat}{v:Value}{l:List Int},jr G P W v l->jr G' P W v l:=λh=>⟨h.1,λh0 k e=>hg k (h.2 h0 k e) (Em h.1.1 h0 e)⟩;exact⟨⟨Vn,L,D,R,hB,hA,⟨hV.t,hV.tf,λh0 k e=>(hV.tn h0 k e).imp (λh=>hg k h (qz hV.t h0 e)) (hr k),hV.l,hV.lf,λh0 k e=>hg k (hV.ln h0 k e) (hV.ll k e),hV.ll,dat hV.d,hV.r,hV.rf,λh0 k e=>(hV.rn h0 k e).imp (λh=>hg k h (xB hV.r h0 e)) (hr k)⟩⟩,h.ty,⟨⟨sv,hS,λi hi=>dat (hd i hi)⟩,hk⟩,h.nb,h.rb,h.nd,λk hk=>hg k (h.gs k hk) (h.lts k hk),h.al2,h.cko,h.n16⟩
theorem OM{v:Value}{l:List Int}(h:ja W W v l)(hn:l≠[]->∀k,jv v=some k->k∈Fs)(hs:W.heap.size<=W'.heap.size)(hF:∀f,f∈Fs->W'.heap[f]?=W.heap[f]?):ja W' W' v l:=⟨by
 obtain⟨A,c,rfl,h1,h2,h3,h4⟩:=h.at_;refine⟨A,c,rfl,h1,h2,λh0=>?_,h4⟩;obtain⟨bl,off,rfl,hb,hc⟩:=h3 h0;refine⟨bl,off,rfl,aN hb hs,λj hj=>?_⟩;rw[<-hc j hj];simp only[World.cell?,hF bl (hn (aX.1 h0) bl rfl)]⟩
theorem jr.p8{P:List Nat}{v:Value}{l:List Int}(h:jr (λk=>k∈Fs) P W v l)(hs:W.heap.size<=W'.heap.size)(hF:∀f,f∈Fs->W'.heap[f]?=W.heap[f]?):jr (λk=>k∈Fs) P W' v l:=
 ⟨⟨Dc h.1.1 h.2 hs hF,h.1.2⟩,h.2⟩
theorem RA.p8(h:RA b ⟨λk=>k∈Fs,λk=>k∈Rs⟩ W g m x)(hs:W.heap.size<=W'.heap.size)(hF:∀f,f∈Fs->W'.heap[f]?=W.heap[f]?)(hR:∀f,f∈Rs->W'.heap[f]?=W.heap[f]?):RA b ⟨λk=>k∈Fs,λk=>k∈Rs⟩ W' g m x:=by
 obtain⟨V,L,D,R,hB,hA,hV⟩:=h.ex;obtain⟨⟨sv,hS,hd⟩,hk⟩:=h.so;have e:∀f,f∈x.a::x.own g->W'.heap[f]?=W.heap[f]?:=λf hf=>hF f (h.gs f hf);exact⟨⟨V,L,D,R,(e g (by simp[RX.own])).trans hB,(e x.a (by simp)).trans hA,⟨Dd (F:=Fs++Rs) hV.t (λh0 k e=>bG.2 (hV.tn h0 k e)) hs (λf hf=>(bG.1 hf).elim (hF f) (hR f)),hV.tf,hV.tn,OM hV.l hV.ln hs hF,hV.lf,hV.ln,λk e=>aN (hV.ll k e) hs,hV.d.p8 hs hF,Df (F:=Fs++Rs) hV.r (λh0 k e=>bG.2 (hV.rn h0 k e)) hs (λf hf=>(bG.1 hf).elim (hF f) (hR f)),hV.rf,hV.rn⟩⟩,⟨(e x.m (by simp[RX.own])).trans h.ty.1,h.ty.2⟩,⟨⟨sv,(e x.s (by simp[RX.own])).trans hS,λi hi=>(hd i hi).p8 hs hF⟩,hk⟩,(e x.n (by simp[RX.own])).trans h.nb,(e x.r (by simp[RX.own])).trans h.rb,h.nd,h.gs,h.al2,h.cko,h.n16⟩
end
structure RN(q:Bool->Prop)(Fs Rs:List Nat)(W:World)(g:Nat)(m:NM):Prop where
 ra:∃b x,q b/\RA b ⟨λk=>k∈Fs,λk=>k∈Rs⟩ W g m x
 j:NJ m
def jO(_:Bool):Prop:=True
section
variable {q:Bool->Prop}{w W W':World}{g:Nat}{m m':NM}{x:RX}{Fs Rs:List Nat}
theorem RN.any(h:RN q Fs Rs W g m):RN jO Fs Rs W g m:=by
 obtain⟨⟨b,x,-,h⟩,j⟩:=h;exact⟨⟨b,x,trivial,h⟩,j⟩
theorem RN.keep(h:RN q Fs Rs W g m)(hs:W.heap.size<=W'.heap.size)(hF:∀f,f∈Fs->W'.heap[f]?=W.heap[f]?)(hR:∀f,f∈Rs->W'.heap[f]?=W.heap[f]?):RN q Fs Rs W' g m:=by
 obtain⟨⟨b,x,hq,h⟩,j⟩:=h;exact⟨⟨b,x,hq,h.p8 hs hF hR⟩,j⟩
theorem RN.lt(h:RN q Fs Rs W g m):g<W.heap.size:=by
 obtain⟨⟨b,x,-,h⟩,-⟩:=h;exact h.lt
def newF(Fs:List Nat)(n k:Nat):List Nat:=Fs++List.range' n (k-n)
theorem nH{f n k:Nat}:f∈newF Fs n k↔f∈Fs\/(n<=f/\f<k)\/(n<=f/\f<n+(k-n)):=by
 unfold newF;rw[bG,List.mem_range'_1];constructor
 ·rintro(h|h)
  ·exact .inl h
  ·exact .inr (.inr h)
 ·rintro(h|h|h)
  ·exact .inl h
  ·exact .inr ⟨h.1,by omega⟩
  ·exact .inr h
theorem RN.open_(h:RN q Fs Rs W g m):∃b x,q b/\RA b ⟨λk=>k∈Fs\/W.heap.size<=k,λk=>k∈Rs⟩ W g m x/\GN ⟨λk=>k∈Fs\/W.heap.size<=k,λk=>k∈Rs⟩ W:=by
 obtain⟨⟨b,x,hq,h⟩,j⟩:=h;exact⟨b,x,hq,h.mono (λk hk=>.inl hk) λ_ h=>h,λk hk=>.inr hk⟩
theorem qj{b:Bool}(hq:q b)(hr:RS b ⟨λk=>k∈Fs\/w.heap.size<=k,λk=>k∈Rs⟩ W g m)(hk:KG ⟨λk=>k∈Fs\/w.heap.size<=k,λk=>k∈Rs⟩ w W)(j:NJ m):∃F',RN q F' Rs W g m/\Eff Fs F' w W:=by
 obtain⟨x,hr⟩:=hr;refine⟨newF Fs w W,⟨⟨b,x,hq,hr.cut (λk hk hlt=>nH.2 (hk.elim .inl λh=>.inr (.inl ⟨h,hlt⟩))) λ_ h=>h⟩,j⟩,hk.kq,λf hf=>?_⟩;rcases nH.1 hf with h|h|h
 ·exact .inl h
 ·exact .inr h.1
 ·exact .inr h.1
end
theorem pI{Fs Rs:List Nat}{w w':World}(b:Below w w w'):Eff Fs Fs w w':=⟨yJ b,λ_ h=>.inl h⟩
variable {q:Bool->Prop}{w:World}{g:Nat}{m:NM}{Fs Rs:List Nat}
theorem IQ(a:Int)(h:RN q Fs Rs w g m)(j:NJ (m.on a)):Calls Tryz.prog 35 #[↑(g,0),↑a] w λe w'=>∃F',e=.returned ↑(m.onE a)/\RN jO F' Rs w' g (m.on a)/\Eff Fs F' w w':=by
 obtain⟨b,x,-,ha,hG⟩:=h.open_;refine(Nt b _ g m x a w ha hG h.j.st).mono ?_;rintro _ w' ⟨rfl,⟨b',hr⟩,hk⟩;obtain⟨F',h1,h2⟩:=qj (q:=jO) (b:=b') trivial hr hk j;exact⟨F',rfl,h1,h2⟩
theorem IV(h:RN q Fs Rs w g m)(j:NJ m.off):Calls Tryz.prog 38 #[↑(g,0)] w λe w'=>∃F',e=.returned (.tuple #[])/\RN jO F' Rs w' g m.off/\Eff Fs F' w w':=by
 obtain⟨b,x,-,ha,hG⟩:=h.open_;refine(Ns b _ g m x w ha hG).mono ?_;rintro _ w' ⟨rfl,hr,hk⟩;obtain⟨F',h1,h2⟩:=qj (q:=jO) trivial hr hk j;exact⟨F',rfl,h1,h2⟩
theorem IX{v:Value}{l:List Int}{B:Nat}(h:RN q Fs Rs w g m)(hv:iI w B v l)(j:NJ (m.write l)):Calls Tryz.prog 36 #[↑(g,0),v] w λe w'=>∃F',e=.returned ↑(m.kN l)/\RN jO F' Rs w' g (m.write l)/\Eff Fs F' w w':=by
 obtain⟨b,x,-,ha,hG⟩:=h.open_;refine(Nu b _ g m x v l B w ha hG h.j.i hv (by have:=h.j.meB;omega)).mono ?_;rintro _ w' ⟨rfl,hr,hk⟩;obtain⟨F',h1,h2⟩:=qj (q:=jO) (b:=b) trivial ⟨x,hr⟩ hk j;exact⟨F',rfl,h1,h2⟩
theorem Am(n:Int)(h:RN q Fs Rs w g m)(j:NJ {m with ar:=jS m.al m.an m.ar n}):∃ga,w.cell? (g,14)=some (.pointer (some ⟨ga,0,none⟩))/\Calls Tryz.prog 37 #[.pointer (some ⟨ga,0,none⟩),↑n] w λe w'=>∃F',e=.returned ↑(jP m.al m.an m.ar n)/\RN jO F' Rs w' g {m with ar:=jS m.al m.an m.ar n}/\Eff Fs F' w w':=by
 obtain⟨b,x,-,ha,hG⟩:=h.open_;refine⟨x.a,ha.c14,(Ol b _ g m x n w ha).mono ?_⟩;rintro _ w' ⟨rfl,hr,hk⟩;obtain⟨F',h1,h2⟩:=qj (q:=jO) (b:=b) trivial ⟨x,hr⟩ hk j;exact⟨F',rfl,h1,h2⟩
theorem Ja(h:RN q Fs Rs w g m):Calls Tryz.prog 43 #[↑(g,0)] w λe w'=>e=.returned (csV m.rd m.sl m.ty.m)/\Below w w w':=by
 obtain⟨⟨b,x,-,ha⟩,j⟩:=h;exact ug b _ g m x w ha
theorem z8(h:RN q Fs Rs w g m):w.cell? (g,6)=some ↑(m.st:Nat)/\w.cell? (g,10)=some ↑m.tm:=by
 obtain⟨⟨b,x,-,ha⟩,j⟩:=h;exact⟨ha.c6,ha.c10⟩
theorem zO(h:RN q Fs Rs w g m):m.ty.m<256:=by
 obtain⟨⟨b,x,-,ha⟩,j⟩:=h;exact ha.ty.2
def isS(s b:Bool):Prop:=b=s
theorem Ix(h:RN q Fs Rs w g m)(ha2:m.ty.a<1000)(j:NJ m.iL):Calls Tryz.prog 74 #[↑(g,0)] w λe w'=>∃v F',e=.returned v/\iJ w' w v m.sent/\RN (isS m.iL.se) F' Rs w' g m.iL/\Eff Fs F' w w':=by
 obtain⟨b,x,-,ha,hG⟩:=h.open_;have hj:=h.j;have key:∀k,(m.jB=k)->Snd ⟨λk=>k∈Fs\/w.heap.size<=k,λk=>k∈Rs⟩ g m m.iL k w->Calls Tryz.prog 74 #[↑(g,0)] w λe w'=>∃v F',e=.returned v/\iJ w' w v m.sent/\RN (isS m.iL.se) F' Rs w' g m.iL/\Eff Fs F' w w':=λk hk hs=>by
  refine hs.mono ?_;rintro _ w' ⟨v,rfl,hv,hr,hkg⟩;obtain⟨F',h1,h2⟩:=qj (q:=isS m.iL.se) rfl hr hkg j;refine⟨v,F',rfl,?_,h1,h2⟩;unfold NM.sent;rw[hk];by_cases h0:k=0
  ·rw[au h0]at hv ⊢
   exact hv
  ·rw[ai h0]at hv ⊢
   have hk3:1<=k/\k<=3:=by
    rw[<-hk];rw[<-hk]at h0;revert h0;unfold NM.jB
    repeat' split
    all_goals (intro h0;omega)
   have hn8:=j.may.n8;have hsl:=j.sl
   rwa[show kJ (m.iL.frm k)=(m.iL.frm k).bytes from wP hk3 (qW j.rd (by omega) (zO h1)) j.da.1]at hv
 by_cases h1:m.st=1
 ·by_cases hw:(m.wt:Int)+1<m.me.li
  ·exact key 0 (by unfold NM.jB;rw[au h1,au hw]) (by
    have e:m.iL={m with wt:=m.wt+1,se:=false}:=by unfold NM.iL;rw[au h1,au hw]
    rw[e];exact Oo b _ g m x w ha hG hj h1 hw)
  ·exact key 3 (by unfold NM.jB;rw[au h1,ai hw]) (by
    have e:m.iL={m.begun with se:=true}:=by unfold NM.iL;rw[au h1,ai hw]
    rw[e];exact Ot b _ g m x w ha hG hj h1 hw)
 ·by_cases h2:m.st=0\/m.st=5\/m.sl≠m.i
  ·exact key 0 (by unfold NM.jB;rw[ai h1,au h2]) (by
    have e:m.iL={m with se:=false}:=by unfold NM.iL;rw[ai h1,au h2]
    rw[e];exact Ov b _ g m x w ha hj.st h1 h2)
  ·have hst:m.st=2\/m.st=3\/m.st=4:=by have:=hj.st;omega
   have hs:m.sl=m.i:=by omega
   by_cases he:m.enter.st=4
   ·exact key m.kd (by unfold NM.jB;rw[ai h1,ai h2,ai (λh=>h he)];rfl) (by
     have e:m.iL={m.enter.joined with se:=true}:=by unfold NM.iL;rw[ai h1,ai h2,ai (λh=>h he)]
     rw[e];exact Oy b _ g m x w ha hG hj hst hs ha2 he)
   ·exact key 0 (by unfold NM.jB;rw[ai h1,ai h2,au he]) (by
     have e:m.iL={m.enter with se:=false}:=by unfold NM.iL;rw[ai h1,ai h2,au he]
     rw[e];exact Ow b _ g m x w ha hG hst hs ha2 he)
end
section
open Go.RowKit
open Fr (St F)
theorem IC{Fs Rs:List Nat}{w:World}{g:Nat}{m:NM}(h:Hn){vx vy:Value}(hr:RN (isS m.se) Fs Rs w g m)(hh:HOk w h vx vy)(ha:m.ty.a<900)(hf:m.ty.f<900)(ht:-4611686018427387904<=m.tm/\m.tm<=4611686018427387904)(j:NJ (m.take h)):
  Calls Tryz.prog 76 #[↑(g,0),hdV h vx vy] w λe w'=>∃F',e=.returned (.tuple #[])/\RN jO F' Rs w' g (m.take h)/\Eff Fs F' w w':=by
 obtain⟨b,x,hb,hm,hG⟩:=hr.open_;have hj:=hr.j;have hmay:=hj.may;have hn8:=hmay.n8;have hsl:=hj.sl;have ho:=hh.o;have fin:Tke ⟨λk=>k∈Fs\/w.heap.size<=k,λk=>k∈Rs⟩ g (m.take h) h vx vy w->Calls Tryz.prog 76 #[↑(g,0),hdV h vx vy] w λe w'=>∃F',e=.returned (.tuple #[])/\RN jO F' Rs w' g (m.take h)/\Eff Fs F' w w':=λht=>by
  refine ht.mono ?_;rintro _ w' ⟨rfl,⟨b',hr'⟩,hk⟩;obtain⟨F',h1,h2⟩:=qj (q:=jO) (b:=b') trivial hr' hk j;exact⟨F',rfl,h1,h2⟩
 refine fin ?_;have hHW:∀W,Below w w W->HOk W h vx vy:=λW hW=>⟨(hh.x.below hW).more hW.size,hh.bx,(hh.y.below hW).more hW.size,hh.by_,hh.o⟩;by_cases hoff:m.st=0\/m.st=5
 ·have eT:m.take h=m:=by unfold NM.take;rw[au hoff]
  rw[eT];exact NS b _ g m x h vx vy w hm hh hoff
 ·by_cases h1:m.st=1
  ·rcases hl:m.kY h with _|l
   ·have eT:m.take h=if h.a≠0\/h.b≠0 then {m with wt:=0}else m:=by unfold NM.take;rw[ai hoff,au h1,hl]
    rw[eT];exact DZ b b _ g m _ x h vx vy w hm hh h1 λW hW=>NT b _ g m x h vx vy W (hm.below hW) (hHW W hW) hl
   ·have eT:m.take h=(m.knows (Fr.res l NM.z3) h.o).goOn:=by unfold NM.take;rw[ai hoff,au h1,hl]
    have htl:m.tells l:=by
     have:=List.find?_some hl;exact dh this
    obtain⟨he,hk1,hs1,hs2⟩:=htl;have hrm:=(St.mM _).1 (wO he);have hjk:=hj.knows (Fr.res l NM.z3) h.o hrm.1 ⟨hrm.2.1.1,hs1⟩;have hgk:NG (m.knows (Fr.res l NM.z3) h.o):=hjk.ng (by show -4611687117939015680<=m.tm+h.o/\m.tm+h.o<=4611687117939015680;omega);have hl2:l=h.x\/l=h.y:=tJ (fI hl);have hbl:iK l:=by
     rcases hl2 with e|e
     ·rw[e];exact hh.bx
     ·rw[e];exact hh.by_
    rw[eT];exact DZ b false _ g m _ x h vx vy w hm hh h1 λW hW=>NU b _ g m x h vx vy l W (hm.below hW) (hG.up hW.size) (hHW W hW) hl hgk ht ⟨hrm.2.1.1,by omega⟩ (qV _ _ hbl)
  ·have hst:m.st=2\/m.st=3\/m.st=4:=by have:=hj.st;omega
   by_cases hs:m.sl=m.i
   ·have eT:m.take h=({m with ck:=if m.se=true then m.meas m.i 0 else m.ck}:NM).goOn:=by unfold NM.take;rw[ai hoff,ai h1,au hs]
    have hb:b=m.se:=hb;by_cases hs1:m.se=true
    ·rw[hs1]at hb
     subst hb;by_cases hsy:m.me.sy=true
     ·have eC:m.take h=({m with ck:=iT m.ck 0}:NM).goOn:=by
       rw[eT,au hs1];unfold NM.meas;rw[au (show(m.at_ m.i).sy=true from hsy)]
      rw[eC];have hjc:=hj.ck_ (iT m.ck 0) (hj.ck.mW (by omega));exact NY _ g m x h vx vy w hm hG hh hst hs hj.i hsy (hjc.ng (by show -4611687117939015680<=m.tm/\m.tm<=4611687117939015680;omega))
     ·have wQ:m.me.sy=false:=by simpa using hsy
      have eC:m.take h=m.goOn:=by
       rw[eT,au hs1];unfold NM.meas;rw[ai (show ¬(m.at_ m.i).sy=true from hsy)]
      rw[eC];exact NZ _ g m x h vx vy w hm hG hh hst hs hj.i wQ (hj.ng (by omega))
    ·have hs0:m.se=false:=by simpa using hs1
     rw[hs0]at hb;subst hb;have eC:m.take h=m.goOn:=by rw[eT,ai hs1]
     rw[eC];exact N7 _ g m x h vx vy w hm hG hh hst hs hj.i (hj.ng (by omega))
   ·rcases hl:m.lg h with _|l
    ·by_cases hq:h.a=0/\h.b=0
     ·have eT:m.take h=(m.took (m.ty.miss m.sl) m.so m.ck).goOn:=by unfold NM.take;rw[ai hoff,ai h1,ai hs,hl];exact au hq
      rw[eT];exact D5 b _ g m x h vx vy w hm hG hh hst hs ⟨hsl,hn8⟩ ⟨by omega,by omega⟩ hl (.inl ⟨hq,rfl⟩) ((hj.took _ _ _ hj.ck).ng (by show -4611687117939015680<=m.tm/\m.tm<=4611687117939015680;omega))
     ·have eT:m.take h=(m.took (m.ty.wrong m.sl) m.so m.ck).goOn:=by unfold NM.take;rw[ai hoff,ai h1,ai hs,hl];exact ai hq
      rw[eT];exact D5 b _ g m x h vx vy w hm hG hh hst hs ⟨hsl,hn8⟩ ⟨by omega,by omega⟩ hl (.inr ⟨hq,rfl⟩) ((hj.took _ _ _ hj.ck).ng (by show -4611687117939015680<=m.tm/\m.tm<=4611687117939015680;omega))
    ·have hbl:iK l:=by
      rcases tJ (fI hl)with e|e
      ·rw[e];exact hh.bx
      ·rw[e];exact hh.by_
     by_cases hsy:(m.at_ m.sl).sy=true
     ·have eT:m.take h=(m.took (m.ty.right m.sl) (m.so.put m.sl (Fr.res l m.own).d) (iT m.ck h.o)).goOn:=by
       unfold NM.take;rw[ai hoff,ai h1,ai hs,hl];simp only[NM.meas,au hsy]
      rw[eT];exact N9 b _ g m x h vx vy l w hm hG hh hst hs ⟨hsl,hn8⟩ ⟨by omega,by omega⟩ hl (qV _ _ hbl) hsy ((hj.took _ _ _ (hj.ck.mW ho)).ng (by show -4611687117939015680<=m.tm/\m.tm<=4611687117939015680;omega))
     ·have eT:m.take h=(m.took (m.ty.right m.sl) (m.so.put m.sl (Fr.res l m.own).d) m.ck).goOn:=by
       unfold NM.take;rw[ai hoff,ai h1,ai hs,hl];simp only[NM.meas,ai hsy]
      rw[eT];exact Oa b _ g m x h vx vy l w hm hG hh hst hs ⟨hsl,hn8⟩ ⟨by omega,by omega⟩ hl (qV _ _ hbl) (by simpa using hsy) ((hj.took _ _ _ hj.ck).ng (by show -4611687117939015680<=m.tm/\m.tm<=4611687117939015680;omega))
end
section
open Go.RowKit
section
variable {q:Bool->Prop}{W W':World}{g:Nat}{m:NM}{Fs Rs:List Nat}
theorem RN.lts(h:RN q Fs Rs W g m):∃Fs',RN q Fs' Rs W g m/\(∀f,f∈Fs'->f∈Fs/\f<W.heap.size):=by
 obtain⟨⟨b,x,hq,hr⟩,j⟩:=h;refine⟨Fs.filter λf=>decide (f<W.heap.size),⟨⟨b,x,hq,hr.cut (λk hk hl=>List.mem_filter.2 ⟨hk,av hl⟩) λ_ h=>h⟩,j⟩,λf hf=>?_⟩;obtain⟨h1,h2⟩:=List.mem_filter.1 hf;exact⟨h1,dh h2⟩
end
theorem Iq{W:World}{v:Value}{l:List Int}(h:ja W W v l)(h0:l≠[]){k:Nat}(e:jv v=some k):k<W.heap.size:=by
 obtain⟨A,c,rfl,h1,h2,h3,h4⟩:=h.at_;obtain⟨b,off,rfl,hb,-⟩:=h3 (aX.2 h0);simp only[jv,bB]at e;omega
theorem RG.cut{Q Q':GS}{W:World}{g:Nat}{t:Tb.T}{s:G}(h:RG Q W g t s)(h1:∀k,Q k->k<W.heap.size->Q' k)(h2:∀k,Q.ro k->Q'.ro k):RG Q' W g t s:=by
 obtain⟨⟨sl,si,L,h,hkn⟩,hg⟩:=h;obtain⟨V,hB,hT,hf,hn⟩:=h.ex;exact⟨⟨sl,si,L,⟨⟨V,hB,hT,hf,λh0 k e=>(hn h0 k e).imp (λh=>h1 k h (qz hT h0 e)) (h2 k)⟩,h.ls,h.lf,λh0 k e=>h1 k (h.ln h0 k e) (Iq h.ls h0 e),h1 g h.q h.lt⟩,hkn⟩,hg⟩
structure DP where
 nb:Nat
 gs:Nat
 g0:Nat
 g1:Nat
 cap:Nat
 S:List Nat
 gp:Nat->Nat
 F:Nat->List Nat
def DP.fx(q:DP)(x:Nat):List Nat:=[x,q.nb,q.gs,q.g0,q.g1]
def DP.all(q:DP)(x N:Nat):List Nat:=q.fx x++q.S++(List.range N).flatMap q.F
theorem DP.kA{q:DP}{x N p:Nat}:p∈q.all x N↔p∈q.fx x\/p∈q.S\/∃i,i<N/\p∈q.F i:=by
 unfold DP.all;simp only[bG,fY,cA,or_assoc]
def gsS(S:List Nat)(g:Nat):GS:=⟨λk=>k=g\/k∈S,λk=>k∈S⟩
structure DIn(qf:Nat->Bool->Prop)(P Rs:List Nat)(N:Nat)(t:Tb.T)(q:DP)(W:World)(x:Nat)(u:WM):Prop where
 blk:Blk W x #[.slice (some (q.nb,0)) N q.cap,↑(q.gs,0),↑(u.sl:Nat)] 74
 star:Blk W q.gs #[↑(q.g0,0),↑(q.g1,0)] 144
 s:RG (gsS q.S q.g0) W q.g0 t u.s
 t:RG (gsS q.S q.g1) W q.g1 t u.t
 ptr:∀i,i<N->W.cell? ⟨q.nb,i,none⟩=some ↑(q.gp i,0)
 nd:∀i,i<N->RN (qf i) (q.F i) Rs W (q.gp i) (u.ms i)
 lF:∀i,i<N->∀f,f∈q.F i->f<W.heap.size
 lX:∀f,f∈q.fx x\/f∈q.S\/f∈P->f<W.heap.size
 rs:∀f,f∈Rs->f∈q.S
 own:∀i,i<N->∀p,p∈q.fx x\/p∈q.S\/p∈P->p∉q.F i
 dis:∀i j,i<N->j<N->i≠j->∀f,f∈q.F i->f∉q.F j
 ne:(q.fx x).Nodup
 sep:∀p,p∈q.fx x->p∉q.S/\p∉P
 sep':∀p,p∈P->p∉q.S
 cap:N<=q.cap
section
variable {qf:Nat->Bool->Prop}{P Rs:List Nat}{N:Nat}{t:Tb.T}{q:DP}{W W':World}{x:Nat}{u:WM}
theorem DIn.nes(h:DIn qf P Rs N t q W x u):x≠q.nb/\x≠q.gs/\x≠q.g0/\x≠q.g1/\q.nb≠q.gs/\q.nb≠q.g0/\q.nb≠q.g1/\q.gs≠q.g0/\q.gs≠q.g1/\q.g0≠q.g1:=by
 have:=h.ne;unfold DP.fx at this;simp only[ia,bq,cM,fL,not_or,fQ,iz,gu]at this;obtain⟨⟨a,b,c,d⟩,⟨e,f,g⟩,⟨i,j⟩,k⟩:=this;exact⟨a,b,c,d,e,f,g,i,j,k⟩
theorem DIn.keep(h:DIn qf P Rs N t q W x u)(hs:W.heap.size<=W'.heap.size)(hb:∀b,b∈q.all x N->W'.heap[b]?=W.heap[b]?):DIn qf P Rs N t q W' x u:=by
 have hX:∀b,b∈q.fx x->W'.heap[b]?=W.heap[b]?:=λb hm=>hb b (DP.kA.2 (.inl hm));have hS:∀b,b∈q.S->W'.heap[b]?=W.heap[b]?:=λb hm=>hb b (DP.kA.2 (.inr (.inl hm)));have hG:∀g,g∈q.fx x->∀k,k<W.heap.size->gsS q.S g k\/(gsS q.S g).ro k->W'.heap[k]?=W.heap[k]?:=λg hg k _ hk=>by
  rcases hk with(e|e)|e
  ·rw[e];exact hX g hg
  ·exact hS k e
  ·exact hS k e
 exact⟨(hX x (by simp[DP.fx])).trans h.blk,(hX q.gs (by simp[DP.fx])).trans h.star,h.s.lT hs (hG q.g0 (by simp[DP.fx])),h.t.lT hs (hG q.g1 (by simp[DP.fx])),λi hi=>(nG (hX q.nb (by simp[DP.fx]))).trans (h.ptr i hi),
  λi hi=>(h.nd i hi).keep hs (λf hf=>hb f (DP.kA.2 (.inr (.inr ⟨i,hi,hf⟩)))) λf hf=>hS f (h.rs f hf),λi hi f hf=>aN (h.lF i hi f hf) hs,λf hf=>aN (h.lX f hf) hs,h.rs,h.own,h.dis,h.ne,h.sep,h.sep',h.cap⟩
theorem DIn.lt(h:DIn qf P Rs N t q W x u):∀p,p∈q.all x N->p<W.heap.size:=λp hp=>by
 rcases DP.kA.1 hp with e|e|⟨i,hi,e⟩
 ·exact h.lX p (.inl e)
 ·exact h.lX p (.inr (.inl e))
 ·exact h.lF i hi p e
theorem DIn.below(h:DIn qf P Rs N t q W x u)(b:Below W W W'):DIn qf P Rs N t q W' x u:=h.keep b.size λk hk=>b.block k (h.lt k hk)
theorem DIn.o(h:DIn qf P Rs N t q W x u){p:Nat}(hp:p∈P):p∉q.all x N:=λhm=>by
 rcases DP.kA.1 hm with e|e|⟨i,hi,e⟩
 ·exact(h.sep p e).2 hp
 ·exact h.sep' p hp e
 ·exact h.own i hi p (.inr (.inr hp)) e
theorem DIn.only(h:DIn qf P Rs N t q W x u){p:Nat}(hp:p∈P\/W.heap.size<=p)(o:Only p W W'):DIn qf P Rs N t q W' x u:=by
 refine h.keep o.size λk hk=>o.block k (h.lt k hk) λe=>?_
 cases e
 rcases hp with hp|hp
 ·exact h.o hp hk
 ·have:=h.lt p hk;omega
theorem DIn.more{E:List Nat}(h:DIn qf P Rs N t q W x u)(h':DIn qf P Rs N t q W' x u)(hE:∀p,p∈E->W.heap.size<=p/\p<W'.heap.size):DIn qf (E++P) Rs N t q W' x u:=by
 have hout:∀p,p∈E->p∉q.all x N:=λp hp hm=>by have:=h.lt p hm;have:=(hE p hp).1;omega
 refine⟨h'.blk,h'.star,h'.s,h'.t,h'.ptr,h'.nd,h'.lF,λf hf=>?_,h'.rs,λi hi p hp=>?_,h'.dis,h'.ne,λp hp=>⟨(h'.sep p hp).1,λhm=>?_⟩,λp hp hm=>?_,h'.cap⟩
 ·rcases hf with e|e|e
  ·exact h'.lX f (.inl e)
  ·exact h'.lX f (.inr (.inl e))
  ·rcases bG.1 e with e|e
   ·exact(hE f e).2
   ·exact h'.lX f (.inr (.inr e))
 ·rcases hp with e|e|e
  ·exact h'.own i hi p (.inl e)
  ·exact h'.own i hi p (.inr (.inl e))
  ·rcases bG.1 e with e|e
   ·exactλhm=>hout p e (DP.kA.2 (.inr (.inr ⟨i,hi,hm⟩)))
   ·exact h'.own i hi p (.inr (.inr e))
 ·rcases bG.1 hm with e|e
  ·exact hout p e (DP.kA.2 (.inl hp))
  ·exact(h'.sep p hp).2 e
 ·rcases bG.1 hp with e|e
  ·exact hout p e (DP.kA.2 (.inr (.inl hm)))
  ·exact h'.sep' p e hm
theorem DIn.box(h:DIn qf P Rs N t q W x u)(o:Obj):DIn qf (W.heap.size::P) Rs N t q (W.alloc o) x u:=
 h.more (E:=[W.heap.size]) (h.below ((ah W W).alloc lr o)) λp hp=>by
  rw[bD.1 hp];simp
theorem DIn.less{P':List Nat}(h:DIn qf P Rs N t q W x u)(hP:∀p,p∈P'->p∈P):DIn qf P' Rs N t q W x u:=
 ⟨h.blk,h.star,h.s,h.t,h.ptr,h.nd,h.lF,λf hf=>h.lX f (hf.imp id λh=>h.imp id (hP f)),h.rs,λi hi p hp=>h.own i hi p (hp.imp id λh=>h.imp id (hP p)),h.dis,h.ne,λp hp=>⟨(h.sep p hp).1,λhm=>(h.sep p hp).2 (hP p hm)⟩,λp hp=>h.sep' p (hP p hp),h.cap⟩
theorem DIn.eff(h:DIn qf P Rs N t q W x u){i:Nat}(hi:i<N){F':List Nat}{m':NM}{r:Bool->Prop}(hn:RN r F' Rs W' (q.gp i) m')(e:Eff (q.F i) F' W W'):∃F'',DIn (je qf i r) P Rs N t {q with F:=je q.F i F''} W' x {u with ms:=je u.ms i m'}/\Eff (q.F i) F'' W W':=by
 obtain⟨F'',hn,hF⟩:=hn.lts;have hsz:=e.1.size;have e2:∀f,f∈F''->f∈q.F i\/W.heap.size<=f:=λf hf=>e.2 f (hF f hf).1;have oX:∀b,b∈q.fx x\/b∈q.S\/b∈P->W'.heap[b]?=W.heap[b]?:=λb hb=>e.1.block b (h.lX b hb) (h.own i hi b hb);have fresh:∀p,p<W.heap.size->p∉q.F i->p∉F'':=λp hp hn hm=>by
  rcases e2 p hm with h1|h1
  ·exact hn h1
  ·omega
 have hG:∀g,g∈q.fx x->∀k,k<W.heap.size->gsS q.S g k\/(gsS q.S g).ro k->W'.heap[k]?=W.heap[k]?:=λg hg k _ hk=>by
  rcases hk with(e|e)|e
  ·rw[e];exact oX g (.inl hg)
  ·exact oX k (.inr (.inl e))
  ·exact oX k (.inr (.inl e))
 refine⟨F'',⟨(oX x (.inl (by simp[DP.fx]))).trans h.blk,(oX q.gs (.inl (by simp[DP.fx]))).trans h.star,h.s.lT hsz (hG q.g0 (by simp[DP.fx])),h.t.lT hsz (hG q.g1 (by simp[DP.fx])),λj hj=>(nG (oX q.nb (.inl (by simp[DP.fx])))).trans (h.ptr j hj),
  λj hj=>?_,λj hj f hf=>?_,λf hf=>aN (h.lX f hf) hsz,h.rs,λj hj p hp=>?_,λj k hj hk hne f hf=>?_,h.ne,h.sep,h.sep',h.cap⟩,e.1,e2⟩
 ·by_cases ej:j=i
  ·subst ej;simp only[j9];exact hn
  ·simp only[kB _ _ _ ej]
   exact(h.nd j hj).keep hsz (λf hf=>e.1.block f (h.lF j hj f hf) (h.dis j i hj hi ej f hf)) λf hf=>oX f (.inr (.inl (h.rs f hf)))
 ·by_cases ej:j=i
  ·subst ej
   simp only[j9]at hf;exact(hF f hf).2
  ·simp only[kB _ _ _ ej]at hf
   exact aN (h.lF j hj f hf) hsz
 ·by_cases ej:j=i
  ·subst ej
   simp only[j9];exact fresh p (h.lX p hp) (h.own j hj p hp)
  ·simp only[kB _ _ _ ej];exact h.own j hj p hp
 ·by_cases ej:j=i
  ·subst ej
   simp only[j9]at hf;simp only[kB _ _ _ (show k≠j from λe=>hne e.symm)];intro hk';rcases e2 f hf with h1|h1
   ·exact h.dis j k hj hk hne f h1 hk'
   ·have:=h.lF k hk f hk';omega
  ·simp only[kB _ _ _ ej]at hf
   by_cases ek:k=i
   ·subst ek
    simp only[j9];exact fresh f (h.lF j hj f hf) (h.dis j k hj hk hne f hf)
   ·simp only[kB _ _ _ ek];exact h.dis j k hj hk hne f hf
theorem DIn.u7(h:DIn qf P Rs N t q W x u){i:Nat}(hi:i<N){F'':List Nat}(e:Eff (q.F i) F'' W W'):Eff (q.all x N) (({q with F:=je q.F i F''}:DP).all x N) W W':=by
 refine⟨⟨e.1.os,e.1.tape,e.1.output,e.1.size,λk hk hn=>e.1.block k hk λhm=>hn (DP.kA.2 (.inr (.inr ⟨i,hi,hm⟩)))⟩,λf hf=>?_⟩;rcases DP.kA.1 hf with h1|h1|⟨j,hj,h1⟩
 ·exact .inl (DP.kA.2 (.inl h1))
 ·exact .inl (DP.kA.2 (.inr (.inl h1)))
 ·by_cases ej:j=i
  ·subst ej
   simp only[j9]at h1;exact(e.2 f h1).imp (λh2=>DP.kA.2 (.inr (.inr ⟨j,hj,h2⟩))) id
  ·simp only[kB _ _ _ ej]at h1
   exact .inl (DP.kA.2 (.inr (.inr ⟨j,hj,h1⟩)))
theorem DIn.vg(h:DIn qf P Rs N t q W x u){s' t':G}(o:Kq [q.g0,q.g1] W W')(hs:RG ⟨λk=>gsS q.S q.g0 k\/W.heap.size<=k,(gsS q.S q.g0).ro⟩ W' q.g0 t s')(ht:RG ⟨λk=>gsS q.S q.g1 k\/W.heap.size<=k,(gsS q.S q.g1).ro⟩ W' q.g1 t t'):
  DIn qf P Rs N t {q with S:=newF q.S W W'.heap.size} W' x {u with s:=s',t:=t'}/\Eff (q.all x N) (({q with S:=newF q.S W W'.heap.size}:DP).all x N) W W':=by
 obtain⟨n1,n2,n3,n4,n5,n6,n7,n8,n9,n10⟩:=h.nes;have hsz:=o.size;have g0m:q.g0∈q.fx x:=by simp[DP.fx]
 have g1m:q.g1∈q.fx x:=by simp[DP.fx]
 have old:∀b,b<W.heap.size->b≠q.g0->b≠q.g1->W'.heap[b]?=W.heap[b]?:=λb hb h0 h1=>o.block b hb (by simp[h0,h1]);have oS:∀b,b∈q.S\/b∈P->W'.heap[b]?=W.heap[b]?:=λb hb=>old b (h.lX b (.inr hb)) (λe=>by
  subst e;exact hb.elim (h.sep _ g0m).1 (h.sep _ g0m).2) (λe=>by
  subst e;exact hb.elim (h.sep _ g1m).1 (h.sep _ g1m).2)
 have oF:∀i,i<N->∀b,b∈q.F i->W'.heap[b]?=W.heap[b]?:=λi hi b hb=>old b (h.lF i hi b hb) (λe=>by
  subst e;exact h.own i hi _ (.inl g0m) hb) (λe=>by
  subst e;exact h.own i hi _ (.inl g1m) hb)
 have mS:∀{f},f∈newF q.S W W'.heap.size->f∈q.S\/(W.heap.size<=f/\f<W'.heap.size):=λhf=>by
  rcases nH.1 hf with h1|h1|h1
  ·exact .inl h1
  ·exact .inr h1
  ·exact .inr (by omega)
 have zL:∀{g:Nat}{s:G},RG ⟨λk=>gsS q.S g k\/W.heap.size<=k,(gsS q.S g).ro⟩ W' g t s->RG (gsS (newF q.S W W') g) W' g t s:=λhr=>hr.cut (λk hk hl=>by
  rcases hk with(e|e)|e
  ·exact .inl e
  ·exact .inr (nH.2 (.inl e))
  ·exact .inr (nH.2 (.inr (.inl ⟨e,hl⟩)))) λk hk=>nH.2 (.inl hk)
 refine⟨⟨(old x (h.lX x (.inl (by simp[DP.fx]))) n3 n4).trans h.blk,(old q.gs (h.lX _ (.inl (by simp[DP.fx]))) n8 n9).trans h.star,zL hs,zL ht,λi hi=>(nG (old q.nb (h.lX _ (.inl (by simp[DP.fx]))) n6 n7)).trans (h.ptr i hi),
  λi hi=>(h.nd i hi).keep hsz (oF i hi) λf hf=>oS f (.inl (h.rs f hf)),λi hi f hf=>aN (h.lF i hi f hf) hsz,λf hf=>?_,λf hf=>nH.2 (.inl (h.rs f hf)),λi hi p hp=>?_,h.dis,h.ne,λp hp=>⟨λhm=>?_,(h.sep p hp).2⟩,λp hp hm=>?_,h.cap⟩,?_,λf hf=>?_⟩
 ·rcases hf with e|e|e
  ·exact aN (h.lX f (.inl e)) hsz
  ·rcases mS e with e|e
   ·exact aN (h.lX f (.inr (.inl e))) hsz
   ·exact e.2
  ·exact aN (h.lX f (.inr (.inr e))) hsz
 ·rcases hp with e|e|e
  ·exact h.own i hi p (.inl e)
  ·rcases mS e with e|e
   ·exact h.own i hi p (.inr (.inl e))
   ·exactλhm=>by have:=h.lF i hi p hm;omega
  ·exact h.own i hi p (.inr (.inr e))
 ·rcases mS hm with e|e
  ·exact(h.sep p hp).1 e
  ·have:=h.lX p (.inl hp);omega
 ·rcases mS hm with e|e
  ·exact h.sep' p hp e
  ·have:=h.lX p (.inr (.inr hp));omega
 ·exact⟨o.os,o.tape,o.output,o.size,λk hk hn=>o.block k hk λhm=>hn (DP.kA.2 (.inl (by
   rcases bq.1 hm with e|hm
   ·rw[e];exact g0m
   ·rw[bD.1 hm];exact g1m)))⟩
 ·rcases DP.kA.1 hf with h1|h1|h1
  ·exact .inl (DP.kA.2 (.inl h1))
  ·exact(mS h1).imp (λh2=>DP.kA.2 (.inr (.inl h2))) λh2=>h2.1
  ·exact .inl (DP.kA.2 (.inr (.inr h1)))
theorem DIn.slots(h:DIn qf P Rs N t q W x u)(k:Nat):DIn qf P Rs N t q (W.setCell (x,2) ↑(k:Nat)) x {u with sl:=k}/\Eff (q.all x N) (q.all x N) W (W.setCell (x,2) ↑(k:Nat)):=by
 obtain⟨n1,n2,n3,n4,n5,n6,n7,n8,n9,n10⟩:=h.nes;have o:Only x W (W.setCell (x,2) ↑(k:Nat)):=(aE x W).set 2 _;have xm:x∈q.fx x:=by simp[DP.fx]
 have old:∀b,b<W.heap.size->b≠x->(W.setCell (x,2) ↑(k:Nat)).heap[b]?=W.heap[b]?:=λb hb hn=>o.block b hb (by intro e;cases e;exact hn rfl);have oS:∀b,b∈q.S->(W.setCell (x,2) ↑(k:Nat)).heap[b]?=W.heap[b]?:=λb hb=>old b (h.lX b (.inr (.inl hb))) λe=>(h.sep x xm).1 (e▸hb);have hG:∀g,g∈q.fx x->g≠x->∀k',k'<W.heap.size->gsS q.S g k'\/(gsS q.S g).ro k'->(W.setCell (x,2) ↑(k:Nat)).heap[k']?=W.heap[k']?:=λg hg hx k' _ hk=>by
  rcases hk with(e|e)|e
  ·rw[e];exact old g (h.lX g (.inl hg)) hx
  ·exact oS k' e
  ·exact oS k' e
 refine⟨⟨(h.blk.set 2 _).eq (by simp),(old q.gs (h.lX _ (.inl (by simp[DP.fx]))) n2.symm).trans h.star,h.s.lT o.size (hG q.g0 (by simp[DP.fx]) n3.symm),h.t.lT o.size (hG q.g1 (by simp[DP.fx]) n4.symm),λi hi=>(nG (old q.nb (h.lX _ (.inl (by simp[DP.fx]))) n1.symm)).trans (h.ptr i hi),
  λi hi=>(h.nd i hi).keep o.size (λf hf=>old f (h.lF i hi f hf) λe=>h.own i hi x (.inl xm) (e▸hf)) λf hf=>oS f (h.rs f hf),λi hi f hf=>aN (h.lF i hi f hf) o.size,λf hf=>aN (h.lX f hf) o.size,h.rs,h.own,h.dis,h.ne,h.sep,h.sep',h.cap⟩,⟨o.os,o.tape,o.output,o.size,λb hb hn=>old b hb λe=>hn (DP.kA.2 (.inl (e▸xm)))⟩,λf hf=>.inl hf⟩
end
def RD(D Rs:List Nat)(N:Nat)(t:Tb.T)(W:World)(x:Nat)(u:WM):Prop:=∃q:DP,q.all x N=D/\DIn (λ_=>jO) [] Rs N t q W x u
end
end Go.Proofs.YteadkhigkmijiaaGreat
