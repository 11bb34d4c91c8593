/- Texts QgD, QmH, QmD in one. -/
import Derived.BigRegion
import Derived.Deep.RegionWith
import Derived.Test.YteadkhigkmijiaaGreatPC1
import Derived.Test.YteadkhigkmijiaaGreatPC8
import Derived.Test.YteadkhigkmijiaaGreatPC22
import Derived.Test.YteadkhigkmijiaaGreatPC25
import Derived.Test.YteadkhigkmijiaaGreatPC26
import Derived.Test.YteadkhigkmijiaaGreatPC33
import Derived.Test.YteadkhigkmijiaaGreatPC37
import Derived.Test.YteadkhigkmijiaaGreatPC42
set_option linter.all false
namespace Go.Proofs.YteadkhigkmijiaaGreat
section
set_option maxRecDepth 100000
set_option maxHeartbeats 4000000
open Go.RowKit
open Fr (St F)
theorem G.MG(s:G)(N:Nat)(h:s.n=N):s.on={s with slot:=nxt N s.slot,now:=if s.slot+1=N then s.now+jb s.lm s.l else s.now,l:=if s.slot+1=N then []else s.l}:=by
 subst h;unfold G.on nxt;by_cases e:s.slot+1=s.n
 ·simp only[au e]
 ·simp only[ai e]
theorem MH(l:List Int)(n:Int)(h:l.length<=4):(iT l n).length<=4:=by
 unfold iT
 split<;>simp<;>omega
def l5(Q:GS)(g:Nat)(t:Tb.T)(s':G)(v:Value)(at_:Int)(w:World):Prop:=
 Calls Tryz.prog 179 #[↑(g,0),v,↑at_] w λe w'=>e=.returned (.tuple #[])/\RG Q w' g t s'/\Only g w w'
section
variable {Q:GS}{g:Nat}{t:Tb.T}{s:G}{w:World}{sl si:Int}{L v:Value}{l:List Int}{at_:Int}
theorem tP(hg:GT t s)(k:Nat)(h:RC Q w g t true (k:Nat) s.now si L s.l)(esi:si=(s.si:Nat))(hk:k<t.ns.length)(h8:t.ns.length<=8)(hsm:small s.l)(hlm:0<=t.lm/\t.lm<=1099511627776)(jz:-2251799813685248<=s.now/\s.now<=2251799813685248):
  Calls Tryz.prog 210 #[↑(g,0)] w λe w'=>e=.returned (.tuple #[])/\RG Q w' g t {s with kn:=true,slot:=k}.on/\Only g w w':=by
 refine(MF Q g t true k s.now si L s.l w h hk h8 hsm hg.l4 hlm jz).mono ?_;rintro _ w' ⟨rfl,⟨L',hr⟩,o⟩;refine⟨rfl,?_,o⟩;rw[G.MG {s with kn:=true,slot:=k} t.ns.length hg.n];refine⟨⟨_,_,L',by rw[<-hg.lm]at hr;exact hr,λ_=>⟨rfl,esi⟩⟩,hg.n,hg.wi,hg.lm,hg.sy,?_⟩;show(if k+1=t.ns.length then []else s.l).length<=4
 split
 ·simp
 ·exact hg.l4
theorem MI(hg:GT t s)(h:RC Q w g t false sl s.now si L s.l)(hkn:s.kn=false)(h8:t.ns.length<=8)(hlm:0<=t.lm/\t.lm<=1099511627776)(hat:-2251799813685248<=at_/\at_<=2251799813685248)(hv:iI w w v l)(hl:iK l):
  l5 Q g t (s.mX l at_) v at_ w:=by
 have hD:=af (qI v l z0 w hv hl);have hts:=af (vS hl);have HS:=af (show RG Q w g t s from⟨⟨sl,si,L,by rw[hkn];exact h,λe=>by rw[hkn]at e;cases e⟩,hg⟩);unfold Dec stV z0 at hD;unfold G.mX tells l5;simp only at hD;have ez:(⟨0,0,0⟩:St)=z0:=rfl;rw[ez]at hD;generalize Fr.err l z0=er at *;generalize Fr.res l z0=R at *;obtain⟨k,⟨r,s2,m⟩,d⟩:=R;unfold frV at hD;simp only at hD hts ⊢;clear ez;have c4:=h.c4;have en:=hg.n;obtain⟨s',hs0⟩:∃s',(if(decide (er=0)&&!decide (k=1)&&decide (s2<(s.n:Int)))=true then({s with kn:=true,slot:=s2.toNat,now:=at_,si:=0,l:=[]}:G).on else s)=s':=⟨_,rfl⟩;rw[hs0];have hS':=af hs0;clear hs0
 go_enter Tryz.func179,Tryz.ntmps179
 go_wp2_with fail;refine hD.o.mono ?_;rintro e w1 ⟨v1,rfl,ho,hb⟩;obtain⟨A1,n1,rfl,-⟩:=ho.sees.at_;have hB1:=(hb.alloc hb.size (.cells (aF k r s2 m A1 (d.length) n1) 182));have H1:=h.below hB1;have hO1:=iQ g hB1;have hX:=aJ w1 _ rfl (aF k r s2 m A1 (d.length) n1) 182;have hgw:g<w1.heap.size:=aN h.lt hb.size;have hS1:=af (HS.o.below hB1);clear c4 HS;go_wp2_with fail;generalize hW1:w1.alloc (.cells (aF k r s2 m A1 (d.length) n1) 182)=W1 at *;have x0:=hX.cell 0 (x:=↑k) rfl;have x2:=hX.cell 2 (x:=↑s2) rfl;obtain⟨Av,cv,c0,-⟩:=H1.c0;generalize w1.heap.size=b at *;clear ho hB1 hW1 hb hX hD hv h;have HH:Hid (∀n,RG Q (W1.drewN n) g t s):=af λn=>hS1.o.below (aC (ah _ _) n);have HO:Hid (∀n,Only g w (W1.drewN n)):=af λn=>hO1.trans (iQ g (aC (ah _ W1) n));have HR:Hid (∀n,RC Q (W1.drewN n) g t false sl s.now si L s.l/\(W1.drewN n).cell? (b,2)=some ↑s2):=af λn=>⟨H1.drewN n,((aC (ah (b+1) W1) n).cell (p:=(b,2)) (cJ _)).trans x2⟩;clear H1 hO1 hS1;by_cases p1:er=0
 ·subst p1
  obtain⟨s0,s8⟩:=hts.o rfl;by_cases p2:k=1
  ·subst p2
   go_quiet (fail)
   go_wp2;exact aK (ax (by rfl) _ _ _) rfl ⟨rfl,RG.of (by(rw[<-hS'.o];simp)) (HH.o _),HO.o _⟩
  ·have q2:(k==1)=false:=by rw[aB];exact p2
   by_cases p3:s2<(t.ns.length:Int)
   ·have q3:decide (s2<((t.ns.length:Nat):Int))=true:=av p3
    go_quiet (fail)
    obtain⟨H2,y2⟩:=HR.o nq;have hO2:=HO.o nq;clear HR HH HO x0 x2 c0;generalize W1.drewN nq=W2 at *;clear q3;obtain⟨j,rfl⟩:∃j:Nat,s2=j:=⟨s2.toNat,by omega⟩;have eS:=af (show({s with kn:=true,slot:=j,now:=at_,si:=0,l:=[]}:G).on=s' by
     rw[<-hS'.o,au (by simp[p2];omega)];simp)
    have c4:=H2.c4;have c5:=H2.c5;have c6:=H2.c6;have c9:=H2.c9;have f4:=H2.frozen 4;have f5:=H2.frozen 5;have f6:=H2.frozen 6;have f9:=H2.frozen 9;have H3:=((((H2.up 4 ↑true (kn':=true) (λ_=>rfl)).up 5 ↑(j:Nat) (sl':=(j:Nat)) (λ_=>rfl)).up 6 ↑at_ (now':=at_) (λ_=>rfl)).up 9 ↑(0:Int) (si':=0) (λ_=>rfl)).drew;have hO3:=((((hO2.set 4 ↑true).set 5 ↑(j:Nat)).set 6 ↑at_).set 9 ↑(0:Int)).drew;have H3:=af H3;have hO3:=af hO3;clear H2 hO2;go_wp2_with fail
    go_region
    all_goals
     generalize((((W2.setCell (g,4) ↑true).setCell (g,5) ↑(j:Nat)).setCell (g,6) ↑at_).setCell (g,9) ↑(0:Int)).drew=W3 at *;clear c4 c5 c6 c9 f4 f5 f6 f9 y2;obtain⟨cx,hc,hup⟩:=H3.o.clock;have hC:=af (wR cx g t.lm L s.l _ hc);have hup:=af hup;clear hc;go_wp2_with fail;refine hC.o.mono ?_;rintro _ w5 ⟨rfl,hk5,o5⟩;have h6:=hup.o _ _ _ hk5 o5 (λh=>absurd rfl h);have hOn:=af (tP (s:={s with now:=at_,si:=0,l:=[]}) ⟨hg.n,hg.wi,hg.lm,hg.sy,by simp⟩ j h6 rfl (by omega) h8 (λx hx=>by cases hx) hlm hat);clear hC hup H3 h6 hk5;go_wp2_with fail;refine hOn.o.mono ?_;rintro _ w6 ⟨rfl,hr,o6⟩;have hr:=af hr;have oo:=af ((hO3.o.trans o5).trans o6);go_wp2;exact aK (ax (by rfl) _ _ _) rfl ⟨rfl,by rw[<-eS.o];exact hr.o,oo.o⟩
   ·have q3:decide (s2<((t.ns.length:Nat):Int))=false:=aj p3
    go_quiet (fail)
    go_wp2;exact aK (ax (by rfl) _ _ _) rfl ⟨rfl,RG.of (by(rw[<-hS'.o,ai (by simp;omega)])) (HH.o _),HO.o _⟩
 ·have q1:(er==0)=false:=by rw[aB];exact p1
  go_quiet (fail)
  go_wp2;exact aK (ax (by rfl) _ _ _) rfl ⟨rfl,RG.of (by(rw[<-hS'.o];simp[p1])) (HH.o _),HO.o _⟩
theorem MJ(hg:GT t s)(hkn:s.kn=true)(h:RC Q w g t true (s.slot:Nat) s.now si L s.l)(hQ:∀k,w.heap.size<=k->Q k)(hs:s.slot<t.ns.length)(h8:t.ns.length<=8)(hsm:small s.l)(hlm:0<=t.lm/\t.lm<=1099511627776)(jz:-2251799813685248<=s.now/\s.now<=2251799813685248)(hnr:-1099511627776<=at_-s.now/\at_-s.now<=1099511627776)(hv:iI w w v l)(h0:0<l.length):
  l5 Q g t (s.heard at_) v at_ w:=by
 obtain⟨A,c,rfl,v1,v2,-⟩:=hv.at_;obtain⟨bl,off,cn,c0,d0,hcn⟩:=h.lV hs;rw[<-hg.sy _ hs]at d0;have c4:=h.c4;have c9:=h.c9;have f9:=h.frozen 9;have q0:decide ((0:Int)<((l.length:Nat):Int))=true:=av (by omega);have h1:=h.up 9 ↑(0:Int) (si':=0) (λ_=>rfl);have o1:=(aE g w).set 9 ↑(0:Int);have hn:=hg.n;have i1:(s.slot:Int)<((t.ns.length:Nat):Int):=by omega
 obtain⟨bl',off',cn',e0,e1,-⟩:=h1.lV hs;rw[<-hg.sy _ hs]at e1;have e5:=h1.c5;have h1:=af h1;clear h hv;unfold l5 G.heard
 cases hsy:s.sy s.slot
 ·rw[hsy]at e1
  simp only[bA,dB]
  go_enter Tryz.func179,Tryz.ntmps179
  go_wp2_with fail;generalize w.setCell (g,9) ↑(0:Int)=w1 at *
  go_quiet (fail)
  have h2:=h1.o.drewN nq;have o2:=o1.trans (iQ g (aC (ah _ w1) nq));generalize w1.drewN nq=w2 at *;have hOn:=af (tP (s:={s with si:=0}) ⟨hg.n,hg.wi,hg.lm,hg.sy,hg.l4⟩ s.slot h2 rfl hs h8 hsm hlm jz);clear h2 c0 c4 c9 f9 d0 e0 e1 e5 h1;go_wp2_with fail;refine hOn.o.mono ?_;rintro _ w6 ⟨rfl,hr,o6⟩;have hr:=af hr;have oo:=af (o2.trans o6);go_wp2;exact aK (ax (by rfl) _ _ _) rfl ⟨rfl,by have:=hr.o;simpa[hkn]using this,oo.o⟩
 ·rw[hsy]at e1
  simp only[dG];have wd:IntKind.i64.wrap (at_-s.now)=at_-s.now:=aO _ (by omega)
  go_enter Tryz.func179,Tryz.ntmps179
  go_wp2_with fail;generalize w.setCell (g,9) ↑(0:Int)=w1 at *
  go_quiet (fail)
  have h2:=h1.o.drewN nq;have o2:=o1.trans (iQ g (aC (ah _ w1) nq));clear c0 c4 c9 f9 d0 e0 e1 e5 h1 o1;generalize w1.drewN nq=w2 at *;have c6:=h2.c6;have hz2:=o2.size;have HM:Hid (∀W,Below w2 w2 W->Calls Tryz.prog 124 #[↑(g,7),↑(at_-s.now:Int)] W λe w'=>e=.returned (.tuple #[])/\(∃L',RC Q w' g t true (s.slot:Nat) s.now 0 L' (iT s.l (at_-s.now)))/\Only g w2 w'):=af λW hW=>by
   obtain⟨cx,hc,hup⟩:=(h2.below hW).clock;refine(ME cx g t.lm L s.l (at_-s.now) W hc hg.l4).mono ?_;rintro _ w' ⟨rfl,⟨v',hk',hb'⟩,o⟩;exact⟨rfl,⟨v',hup _ _ _ hk' o λ_ k e=>hQ k (by have:=hb' k e;have:=hW.size;omega)⟩,(iQ g hW).trans o⟩
  clear h2;have hb2:=ah w2 w2;go_wp2_with fail
  go_region_with (first
   |(go_at_call 124;refine(HM.o w2.drew hb2.drew).mono ?_;rintro _ w3 ⟨rfl,⟨L',h3⟩,o3⟩)
   |fail)
  all_goals
   have MK:small (iT s.l (at_-s.now)):=hsm.iT hnr;have hOn:=af (tP (s:={s with si:=0,l:=iT s.l (at_-s.now)}) ⟨hg.n,hg.wi,hg.lm,hg.sy,MH _ _ hg.l4⟩ s.slot h3 rfl hs h8 MK hlm jz);clear h3 HM c6;go_wp2_with fail;refine hOn.o.mono ?_;rintro _ w6 ⟨rfl,hr,o6⟩;have hr:=af hr;have oo:=af ((o2.trans o3).trans o6);go_wp2;exact aK (ax (by rfl) _ _ _) rfl ⟨rfl,by have:=hr.o;simpa[hkn]using this,oo.o⟩
theorem ML(A:Option Addr)(c0 c1:Nat)(hc0:c0=0)(hg:GT t s)(hkn:s.kn=true)(h:RC Q w g t true (s.slot:Nat) s.now (s.si:Nat) L s.l)(hs:s.slot<t.ns.length)(hsi:s.si<2*t.ns.length)(h8:t.ns.length<=8)(hsm:small s.l)(hlm:0<=t.lm/\t.lm<=1099511627776)(jz:-2251799813685248<=s.now/\s.now<=2251799813685248):
  l5 Q g t s.missed (.slice A c0 c1) at_ w:=by
 have c4:=h.c4;have c9:=h.c9;have f9:=h.frozen 9;have q0:decide ((0:Int)<((c0:Nat):Int))=false:=aj (by omega);have q00:decide (0<c0)=false:=aj (by omega);have z0:¬0<c0:=by omega
 clear hc0;have h1:=h.up 9 ↑((s.si:Int)+1:Int) (si':=(s.si:Int)+1) (λ_=>rfl);have o1:=(aE g w).set 9 ↑((s.si:Int)+1:Int);have hn:=hg.n;have wk:IntKind.i64.wrap ((s.si:Int)+1)=(s.si:Int)+1:=aO _ (by omega);have w2:IntKind.i64.wrap (2*((t.ns.length:Nat):Int))=2*((t.ns.length:Nat):Int):=aO _ (by omega);obtain⟨Av,cv,e0,-⟩:=h1.c0;have e9:=h1.c9;have h1:=af h1;clear h;unfold l5 G.missed;by_cases hm:s.si+1=2*s.n
 ·rw[au hm]
  have q1:decide (2*((t.ns.length:Nat):Int)<=(s.si:Int)+1)=true:=av (by omega)
  go_enter Tryz.func179,Tryz.ntmps179
  go_wp2_with fail;generalize w.setCell (g,9) ↑((s.si:Int)+1:Int)=w1 at *
  go_quiet (fail)
  have h2:=h1.o.drewN nq;have o2:=o1.trans (iQ g (aC (ah _ w1) nq));clear c4 c9 f9 e0 e9 h1 o1;generalize w1.drewN nq=w2 at *;have c4:=h2.c4;have f4:=h2.frozen 4;have h3:=af (h2.up 4 ↑false (kn':=false) (λ_=>rfl));have o3:=af (o2.set 4 ↑false);clear h2 o2;go_wp2;exact aK (ax (by rfl) _ _ _) rfl ⟨rfl,⟨⟨_,_,L,h3.o,λe=>by cases e⟩,hg.n,hg.wi,hg.lm,hg.sy,hg.l4⟩,o3.o⟩
 ·rw[ai hm]
  have q1:decide (2*((t.ns.length:Nat):Int)<=(s.si:Int)+1)=false:=aj (by omega)
  go_enter Tryz.func179,Tryz.ntmps179
  go_wp2_with fail;generalize w.setCell (g,9) ↑((s.si:Int)+1:Int)=w1 at *
  go_quiet (fail)
  have h2:=h1.o.drewN nq;have o2:=o1.trans (iQ g (aC (ah _ w1) nq));generalize w1.drewN nq=w2 at *;have hOn:=af (tP (s:={s with si:=s.si+1}) ⟨hg.n,hg.wi,hg.lm,hg.sy,hg.l4⟩ s.slot h2 (by show((s.si:Nat):Int)+1=((s.si+1:Nat):Int);omega) hs h8 hsm hlm jz);clear h2 c4 c9 f9 e0 e9 h1;go_wp2_with fail;refine hOn.o.mono ?_;rintro _ w6 ⟨rfl,hr,o6⟩;have hr:=af hr;have oo:=af (o2.trans o6);go_wp2;exact aD (ax (by rfl) _ _ _) rfl ⟨rfl,by have:=hr.o;simpa[hkn]using this,oo.o⟩
theorem Dk(h:RG Q w g t s)(hQ:∀k,w.heap.size<=k->Q k)(ok:s.Ok at_)(hsi:s.kn=true->s.si<2*s.n)(hv:iI w w v l)(hl:iK l):
  l5 Q g t (s.ended l at_) v at_ w:=by
 obtain⟨⟨sl,si,L,hc,hk⟩,hg⟩:=h;have o1:=ok.n;have o2:=ok.slot;have o3:=ok.lm;have o4:=ok.now;have o5:=ok.near;have o6:-2251799813685248<=s.now/\s.now<=2251799813685248:=by omega
 rw[hg.n]at o1 o2 hsi;rw[hg.lm]at o3;unfold G.ended
 cases hkn:s.kn
 ·rw[hkn]at hc
  simp only[bA,dB];exact MI hg hc hkn o1 o3 (by omega) hv hl
 ·rw[hkn]at hc
  obtain⟨rfl,rfl⟩:=hk hkn;simp only[dG];by_cases h0:0<l.length
  ·rw[au h0]
   exact MJ hg hkn hc hQ o2 o1 ok.small o3 o6 o5 hv h0
  ·rw[ai h0]
   have e0:l=[]:=List.eq_nil_of_length_eq_zero (by omega);subst e0;obtain⟨A,c,rfl,-⟩:=hv.at_;exact ML A _ c rfl hg hkn hc o2 (hsi hkn) o1 ok.small o3 o6
end
end
section
set_option maxRecDepth 100000
set_option maxHeartbeats 4000000
open Go.RowKit
theorem Dz(n:Nat)(q:Nat->Int):(tk n q=2\/tl n q=[])/\(tk n q=0\/tk n q=1\/tk n q=2):=by
 unfold tk tl
 cases kC q n
 ·by_cases h:n%8=0/\j3 q n=true
  ·simp[h]
  ·refine⟨.inr ?_,?_⟩
   ·rw[ai]
    rintro⟨-,h1,h2⟩;exact h ⟨h1,h2⟩
   ·simp[h]
 ·simp
theorem Nl(Q:GS)(g g0 g1 ab:Nat)(t:Tb.T)(s:G)(x:Air)(n:Nat)(q:Nat->Int)(v:Value)(p:Int)(w:World)(hS:Blk w g #[↑(g0,0),↑(g1,0)] 144)(hG:RG Q w g0 t s)(hA:∀j,j<8->w.cell? (ab,8+j)=some ↑(x.s j).at_)(hQ:∀k,w.heap.size<=k->Q k)(ok:s.Ok (x.jq p))(hsi:s.kn=true->s.si<2*s.n)(hv:iI w w v (tl n q))(hp:p=-1\/∃j:Nat,p=j/\j<8):
  Calls Tryz.prog 122 #[↑(g,0),↑(ab,0),↑(0:Int),↑(tk n q),v,↑p] w λe w'=>e=.returned (.tuple #[])/\RG Q w' g0 t (s.ended (tl n q) (x.jq p))/\Only g0 w w':=by
 obtain⟨hk,hk2⟩:=Dz n q;have hby:=qg n q;generalize tk n q=K at *;generalize tl n q=l at *;have HE:Hid (∀a,a=x.jq p->∀u,iI w w u l->l5 Q g0 t (s.ended l a) u a w):=af (by
  rintro a rfl u hu;exact Dk hG hQ ok hsi hu hby)
 have s0:=hS.cell 0 (x:=↑(g0,0)) rfl;unfold l5 at HE;have hvf:=af hv;have hK:(K=2)\/(K≠2/\l=[]):=(Classical.em (K=2)).imp id λh=>⟨h,hk.resolve_left h⟩;obtain⟨A,c,rfl,-⟩:=hv.at_;clear hS hG hQ ok hsi hv hk hk2;rcases hK with rfl|⟨hK,rfl⟩
 ·rcases hp with rfl|⟨j,rfl,hj⟩
  ·have hE:=af (HE.o 0 rfl _ hvf.o)
   have ez:x.jq (-1)=0:=rfl;rw[ez];clear HE hvf
   go_enter Tryz.func122,Tryz.ntmps122
   go_wp2_with fail;refine hE.o.mono ?_;rintro e w2 ⟨rfl,hr,o⟩;have hr:=af hr;go_wp2;exact aD (ax (by rfl) _ _ _) rfl ⟨rfl,hr.o,o⟩
  ·have ez:x.jq (j:Nat)=(x.s j).at_:=by unfold Air.jq;rw[ai (by omega),aQ]
   have hE:=af (HE.o (x.s j).at_ ez.symm _ hvf.o);rw[ez];have d:=hA j hj;have j8:(j:Int)<8:=by omega
   clear HE hvf hA ez;generalize(x.s j).at_=a at *
   go_enter Tryz.func122,Tryz.ntmps122
   go_wp2_with fail;refine hE.o.mono ?_;rintro e w2 ⟨rfl,hr,o⟩;have hr:=af hr;go_wp2;exact aD (ax (by rfl) _ _ _) rfl ⟨rfl,hr.o,o⟩
 ·have k2:(K != 2)=true:=by rw[bV];exact hK
  rcases hp with rfl|⟨j,rfl,hj⟩
  ·have hE:=af (HE.o 0 rfl (.slice none 0 0) gR)
   have ez:x.jq (-1)=0:=rfl;rw[ez];clear HE hvf
   go_enter Tryz.func122,Tryz.ntmps122
   go_wp2_with fail;refine hE.o.mono ?_;rintro e w2 ⟨rfl,hr,o⟩;have hr:=af hr;go_wp2;exact aD (ax (by rfl) _ _ _) rfl ⟨rfl,hr.o,o⟩
  ·have ez:x.jq (j:Nat)=(x.s j).at_:=by unfold Air.jq;rw[ai (by omega),aQ]
   have hE:=af (HE.o (x.s j).at_ ez.symm (.slice none 0 0) gR);rw[ez];have d:=hA j hj;have j8:(j:Int)<8:=by omega
   clear HE hvf hA ez;generalize(x.s j).at_=a at *
   go_enter Tryz.func122,Tryz.ntmps122
   go_wp2_with fail;refine hE.o.mono ?_;rintro e w2 ⟨rfl,hr,o⟩;have hr:=af hr;go_wp2;exact aD (ax (by rfl) _ _ _) rfl ⟨rfl,hr.o,o⟩
theorem Nn(Q:GS)(g g0 g1 ab:Nat)(t:Tb.T)(s:G)(x:Air)(n:Nat)(q:Nat->Int)(v:Value)(p:Int)(w:World)(hS:Blk w g #[↑(g0,0),↑(g1,0)] 144)(hG:RG Q w g1 t s)(hA:∀j,j<8->w.cell? (ab,8+j)=some ↑(x.s j).at_)(hQ:∀k,w.heap.size<=k->Q k)(ok:s.Ok (x.jq p))(hsi:s.kn=true->s.si<2*s.n)(hv:iI w w v (tl n q))(hp:p=-1\/∃j:Nat,p=j/\j<8):
  Calls Tryz.prog 122 #[↑(g,0),↑(ab,0),↑(1:Int),↑(tk n q),v,↑p] w λe w'=>e=.returned (.tuple #[])/\RG Q w' g1 t (s.ended (tl n q) (x.jq p))/\Only g1 w w':=by
 obtain⟨hk,hk2⟩:=Dz n q;have hby:=qg n q;generalize tk n q=K at *;generalize tl n q=l at *;have HE:Hid (∀a,a=x.jq p->∀u,iI w w u l->l5 Q g1 t (s.ended l a) u a w):=af (by
  rintro a rfl u hu;exact Dk hG hQ ok hsi hu hby)
 have s1:=hS.cell 1 (x:=↑(g1,0)) rfl;unfold l5 at HE;have hvf:=af hv;have hK:(K=2)\/(K≠2/\l=[]):=(Classical.em (K=2)).imp id λh=>⟨h,hk.resolve_left h⟩;obtain⟨A,c,rfl,-⟩:=hv.at_;clear hS hG hQ ok hsi hv hk hk2;rcases hK with rfl|⟨hK,rfl⟩
 ·rcases hp with rfl|⟨j,rfl,hj⟩
  ·have hE:=af (HE.o 0 rfl _ hvf.o)
   have ez:x.jq (-1)=0:=rfl;rw[ez];clear HE hvf
   go_enter Tryz.func122,Tryz.ntmps122
   go_wp2_with fail;refine hE.o.mono ?_;rintro e w2 ⟨rfl,hr,o⟩;have hr:=af hr;go_wp2;exact aD (ax (by rfl) _ _ _) rfl ⟨rfl,hr.o,o⟩
  ·have ez:x.jq (j:Nat)=(x.s j).at_:=by unfold Air.jq;rw[ai (by omega),aQ]
   have hE:=af (HE.o (x.s j).at_ ez.symm _ hvf.o);rw[ez];have d:=hA j hj;have j8:(j:Int)<8:=by omega
   clear HE hvf hA ez;generalize(x.s j).at_=a at *
   go_enter Tryz.func122,Tryz.ntmps122
   go_wp2_with fail;refine hE.o.mono ?_;rintro e w2 ⟨rfl,hr,o⟩;have hr:=af hr;go_wp2;exact aD (ax (by rfl) _ _ _) rfl ⟨rfl,hr.o,o⟩
 ·have k2:(K != 2)=true:=by rw[bV];exact hK
  rcases hp with rfl|⟨j,rfl,hj⟩
  ·have hE:=af (HE.o 0 rfl (.slice none 0 0) gR)
   have ez:x.jq (-1)=0:=rfl;rw[ez];clear HE hvf
   go_enter Tryz.func122,Tryz.ntmps122
   go_wp2_with fail;refine hE.o.mono ?_;rintro e w2 ⟨rfl,hr,o⟩;have hr:=af hr;go_wp2;exact aD (ax (by rfl) _ _ _) rfl ⟨rfl,hr.o,o⟩
  ·have ez:x.jq (j:Nat)=(x.s j).at_:=by unfold Air.jq;rw[ai (by omega),aQ]
   have hE:=af (HE.o (x.s j).at_ ez.symm (.slice none 0 0) gR);rw[ez];have d:=hA j hj;have j8:(j:Int)<8:=by omega
   clear HE hvf hA ez;generalize(x.s j).at_=a at *
   go_enter Tryz.func122,Tryz.ntmps122
   go_wp2_with fail;refine hE.o.mono ?_;rintro e w2 ⟨rfl,hr,o⟩;have hr:=af hr;go_wp2;exact aD (ax (by rfl) _ _ _) rfl ⟨rfl,hr.o,o⟩
theorem Air.nO(f:Ft)(x:Air)(h4:f.k≠4)(h7:f.k≠7):x.fault f={x with s:=upV x.s f.n.toNat ((x.s f.n.toNat).fault f)}:=by
 unfold Air.fault;rw[ai h4,ai h7]
 congr 1
 funext i
 unfold upV;by_cases e:i=f.n.toNat
 ·rw[au e,au e,e]
 ·rw[ai e,ai e]
def nB(ab:Nat)(f:Ft)(x:Air)(w:World)(e:Ending)(w':World):Prop:=e=.returned (.tuple #[])/\∃V',jF w' ab V' (x.fault f)/\Only ab w w'
theorem M5(V:Nat->Value)(x:Air)(j:Nat)(hj:j<2)(a:Int)(dl:List Int):(jC V x).setIfInBounds (24+j) ↑true=jC V (x.fault ⟨4,(j:Nat),a,dl⟩):=by
 rw[M0 V x j hj];unfold Air.fault;rw[au rfl];refine qY (λ_ _=>rfl) (λ_ _=>rfl) (λ_ _=>rfl) (λi _=>?_) (λ_ _=>rfl);show upV x.bl j true i=(x.bl i||decide (((j:Nat):Int)=(i:Int)));unfold upV;by_cases e:i=j
 ·subst e;simp
 ·rw[ai e,aj (by omega),gX]
theorem M6(V:Nat->Value)(x:Air)(j:Nat)(hj:j<2)(a:Int)(dl:List Int):(jC V x).setIfInBounds (26+j) ↑true=jC V (x.fault ⟨7,(j:Nat),a,dl⟩):=by
 rw[M4 V x j hj];unfold Air.fault;rw[ai (by simp),au rfl];refine qY (λ_ _=>rfl) (λ_ _=>rfl) (λ_ _=>rfl) (λ_ _=>rfl) (λi _=>?_);show upV x.lk j true i=(x.lk i||decide (((j:Nat):Int)=(i:Int)));unfold upV;by_cases e:i=j
 ·subst e;simp
 ·rw[ai e,aj (by omega),gX]
theorem M7(V:Nat->Value)(x:Air)(j:Nat)(hj:j<8)(a:Int)(dl:List Int):(jC V x).setIfInBounds (16+j) ↑true=jC V (x.fault ⟨3,(j:Nat),a,dl⟩):=by
 rw[MZ V x j hj,Air.nO ⟨3,(j:Nat),a,dl⟩ x (by simp) (by simp)]
 rfl
theorem qC(V:Nat->Value)(x:Air)(j:Nat)(hj:j<8)(a:Int)(dl:List Int):(jC V x).setIfInBounds (8+j) ↑((x.s j).at_+a:Int)=jC V (x.fault ⟨6,(j:Nat),a,dl⟩):=by
 rw[Dp V x j hj,Air.nO ⟨6,(j:Nat),a,dl⟩ x (by simp) (by simp)]
 rfl
theorem Dat.M8{F:List Nat}{W:World}:Dat F W (.slice none 0 0) []:=⟨gR,λ_ _ h=>absurd rfl h⟩
theorem Dq{W:World}{ab:Nat}{v:Value}{l:List Int}(h:iI W ab v l)(hb:ab<W.heap.size):Dat [ab] W v l:=⟨h.more (Nat.le_of_lt hb),λf hf h0 e=>by
 rw[bD.1 hf]at e;obtain⟨A,c,rfl,-,-,h3,-⟩:=h.at_;obtain⟨b,off,rfl,hb,-⟩:=h3 (aX.2 h0);simp only[Value.ownBlock,bB]at e;omega⟩
theorem M9(ab:Nat)(V:Nat->Value)(x:Air)(j:Nat)(a:Int)(dv:Value)(dl:List Int)(w:World)(h:jF w ab V x)(hj:j<8)(hd:iI w ab dv dl)(hy:iK dl)(h24:dl.length<=24):
  Calls Tryz.prog 118 #[↑(ab,0),.agg #[↑(1:Int),↑(j:Nat),↑a,dv]] w (nB ab ⟨1,(j:Nat),a,dl⟩ x w):=by
 have hb0:=(ah w w).alloc lr (.cells #[↑(1:Int),↑(j:Nat),↑a,dv] 56);have hX:=aJ w _ rfl #[↑(1:Int),↑(j:Nat),↑a,dv] 56;obtain⟨Ad,cd,rfl,-⟩:=hd.at_;have H:=h.below hb0;have hok:=h.ok.fault (f:=⟨1,(j:Nat),a,dl⟩) hy h24;have o0:=iQ ab hb0;have x0:=hX.cell 0 (x:=↑(1:Int)) rfl;have x1:=hX.cell 1 (x:=↑(j:Nat)) rfl;have x2:=hX.cell 2 (x:=↑a) rfl;have x3:=hX.cell 3 (x:=.slice Ad dl.length cd) rfl;have j8:(j:Int)<8:=by omega
 have y:=H.blk.cell (j) (nN V x j hj);have fz:=H.blk.frozen (j);have HH:=af (H.wW hj Dat.M8 (x':=x.fault ⟨1,(j:Nat),a,dl⟩) (Air.nO _ _ (by simp) (by simp)) hok).drew;have KK:=af (o0.set (j) (.slice none 0 0)).drew;clear hX h H hb0 hd o0 hok
 go_enter Tryz.func118,Tryz.ntmps118
 go_wp2_with fail
 go_region
 all_goals
  go_wp2;exact aD (ax (by rfl) _ _ _) rfl ⟨rfl,_,HH.o,KK.o⟩
theorem Na(ab:Nat)(V:Nat->Value)(x:Air)(j:Nat)(a:Int)(dv:Value)(dl:List Int)(w:World)(h:jF w ab V x)(hj:j<8)(hd:iI w ab dv dl)(hy:iK dl)(h24:dl.length<=24):
  Calls Tryz.prog 118 #[↑(ab,0),.agg #[↑(3:Int),↑(j:Nat),↑a,dv]] w (nB ab ⟨3,(j:Nat),a,dl⟩ x w):=by
 have hb0:=(ah w w).alloc lr (.cells #[↑(3:Int),↑(j:Nat),↑a,dv] 56);have hX:=aJ w _ rfl #[↑(3:Int),↑(j:Nat),↑a,dv] 56;obtain⟨Ad,cd,rfl,-⟩:=hd.at_;have H:=h.below hb0;have hok:=h.ok.fault (f:=⟨3,(j:Nat),a,dl⟩) hy h24;have o0:=iQ ab hb0;have x0:=hX.cell 0 (x:=↑(3:Int)) rfl;have x1:=hX.cell 1 (x:=↑(j:Nat)) rfl;have x2:=hX.cell 2 (x:=↑a) rfl;have x3:=hX.cell 3 (x:=.slice Ad dl.length cd) rfl;have j8:(j:Int)<8:=by omega
 have y:=H.blk.cell (16+j) (tQ V x j hj);have fz:=H.blk.frozen (16+j);have HH:=af (H.j5 (16+j) ↑true (M7 V x j hj a dl) (λi hi=>by rw[Air.nO ⟨3,(j:Nat),a,dl⟩ x (by simp) (by simp)];show(upV x.s j _ i).b=_;unfold upV;split<;>simp_all[Db.fault]) hok).drew;have KK:=af (o0.set (16+j) ↑true).drew;clear hX h H hb0 hd o0 hok
 go_enter Tryz.func118,Tryz.ntmps118
 go_wp2_with fail
 go_region
 all_goals
  go_wp2;exact aD (ax (by rfl) _ _ _) rfl ⟨rfl,_,HH.o,KK.o⟩
theorem Nb(ab:Nat)(V:Nat->Value)(x:Air)(j:Nat)(a:Int)(dv:Value)(dl:List Int)(w:World)(h:jF w ab V x)(hj:j<2)(hd:iI w ab dv dl)(hy:iK dl)(h24:dl.length<=24):
  Calls Tryz.prog 118 #[↑(ab,0),.agg #[↑(4:Int),↑(j:Nat),↑a,dv]] w (nB ab ⟨4,(j:Nat),a,dl⟩ x w):=by
 have hb0:=(ah w w).alloc lr (.cells #[↑(4:Int),↑(j:Nat),↑a,dv] 56);have hX:=aJ w _ rfl #[↑(4:Int),↑(j:Nat),↑a,dv] 56;obtain⟨Ad,cd,rfl,-⟩:=hd.at_;have H:=h.below hb0;have hok:=h.ok.fault (f:=⟨4,(j:Nat),a,dl⟩) hy h24;have o0:=iQ ab hb0;have x0:=hX.cell 0 (x:=↑(4:Int)) rfl;have x1:=hX.cell 1 (x:=↑(j:Nat)) rfl;have x2:=hX.cell 2 (x:=↑a) rfl;have x3:=hX.cell 3 (x:=.slice Ad dl.length cd) rfl;have j8:(j:Int)<2:=by omega
 have y:=H.blk.cell (24+j) (wU V x j hj);have fz:=H.blk.frozen (24+j);have HH:=af (H.j5 (24+j) ↑true (M5 V x j hj a dl) (λi hi=>rfl) hok).drew;have KK:=af (o0.set (24+j) ↑true).drew;clear hX h H hb0 hd o0 hok
 go_enter Tryz.func118,Tryz.ntmps118
 go_wp2_with fail
 go_region
 all_goals
  go_wp2;exact aD (ax (by rfl) _ _ _) rfl ⟨rfl,_,HH.o,KK.o⟩
theorem Nc(ab:Nat)(V:Nat->Value)(x:Air)(j:Nat)(a:Int)(dv:Value)(dl:List Int)(w:World)(h:jF w ab V x)(hj:j<2)(hd:iI w ab dv dl)(hy:iK dl)(h24:dl.length<=24):
  Calls Tryz.prog 118 #[↑(ab,0),.agg #[↑(7:Int),↑(j:Nat),↑a,dv]] w (nB ab ⟨7,(j:Nat),a,dl⟩ x w):=by
 have hb0:=(ah w w).alloc lr (.cells #[↑(7:Int),↑(j:Nat),↑a,dv] 56);have hX:=aJ w _ rfl #[↑(7:Int),↑(j:Nat),↑a,dv] 56;obtain⟨Ad,cd,rfl,-⟩:=hd.at_;have H:=h.below hb0;have hok:=h.ok.fault (f:=⟨7,(j:Nat),a,dl⟩) hy h24;have o0:=iQ ab hb0;have x0:=hX.cell 0 (x:=↑(7:Int)) rfl;have x1:=hX.cell 1 (x:=↑(j:Nat)) rfl;have x2:=hX.cell 2 (x:=↑a) rfl;have x3:=hX.cell 3 (x:=.slice Ad dl.length cd) rfl;have j8:(j:Int)<2:=by omega
 have y:=H.blk.cell (26+j) (wV V x j hj);have fz:=H.blk.frozen (26+j);have HH:=af (H.j5 (26+j) ↑true (M6 V x j hj a dl) (λi hi=>rfl) hok).drew;have KK:=af (o0.set (26+j) ↑true).drew;clear hX h H hb0 hd o0 hok
 go_enter Tryz.func118,Tryz.ntmps118
 go_wp2_with fail
 go_region
 all_goals
  go_wp2;exact aD (ax (by rfl) _ _ _) rfl ⟨rfl,_,HH.o,KK.o⟩
theorem Nf(ab:Nat)(V:Nat->Value)(x:Air)(j:Nat)(a:Int)(dv:Value)(dl:List Int)(w:World)(h:jF w ab V x)(hj:j<8)(hd:iI w ab dv dl)(hy:iK dl)(h24:dl.length<=24)(ha:-1000<=a/\a<=1000)(hs:∀i,i<8->wide (x.s i).at_):
  Calls Tryz.prog 118 #[↑(ab,0),.agg #[↑(6:Int),↑(j:Nat),↑a,dv]] w (nB ab ⟨6,(j:Nat),a,dl⟩ x w):=by
 have hb0:=(ah w w).alloc lr (.cells #[↑(6:Int),↑(j:Nat),↑a,dv] 56);have hX:=aJ w _ rfl #[↑(6:Int),↑(j:Nat),↑a,dv] 56;obtain⟨Ad,cd,rfl,-⟩:=hd.at_;have H:=h.below hb0;have hok:=h.ok.fault (f:=⟨6,(j:Nat),a,dl⟩) hy h24;have o0:=iQ ab hb0;have x0:=hX.cell 0 (x:=↑(6:Int)) rfl;have x1:=hX.cell 1 (x:=↑(j:Nat)) rfl;have x2:=hX.cell 2 (x:=↑a) rfl;have x3:=hX.cell 3 (x:=.slice Ad dl.length cd) rfl;have j8:(j:Int)<8:=by omega
 have y:=H.blk.cell (8+j) (nA V x j hj);have fz:=H.blk.frozen (8+j);have hw:=hs j hj;have w1:IntKind.i64.wrap ((x.s j).at_+a)=(x.s j).at_+a:=aO _ (by unfold wide at hw;omega);have HH:=af (H.j5 (8+j) ↑((x.s j).at_+a:Int) (qC V x j hj a dl) (λi hi=>by rw[Air.nO ⟨6,(j:Nat),a,dl⟩ x (by simp) (by simp)];show(upV x.s j _ i).b=_;unfold upV;split<;>simp_all[Db.fault]) hok).drew;have KK:=af (o0.set (8+j) ↑((x.s j).at_+a:Int)).drew;clear hX h H hb0 hd o0 hok hs hw;generalize(x.s j).at_=z at *
 go_enter Tryz.func118,Tryz.ntmps118
 go_wp2_with fail
 go_region
 all_goals
  go_wp2;exact aD (ax (by rfl) _ _ _) rfl ⟨rfl,_,HH.o,KK.o⟩
theorem Ng(ab:Nat)(V:Nat->Value)(x:Air)(j:Nat)(a:Int)(dv:Value)(dl:List Int)(w:World)(h:jF w ab V x)(hj:j<8)(hd:iI w ab dv dl)(hy:iK dl)(h24:dl.length<=24)(ha:-1000<=a/\a<=1000)(hs:∀i,i<8->wide (x.s i).at_):
  Calls Tryz.prog 118 #[↑(ab,0),.agg #[↑(5:Int),↑(j:Nat),↑a,dv]] w (nB ab ⟨5,(j:Nat),a,dl⟩ x w):=by
 have hb0:=(ah w w).alloc lr (.cells #[↑(5:Int),↑(j:Nat),↑a,dv] 56);have hX:=aJ w _ rfl #[↑(5:Int),↑(j:Nat),↑a,dv] 56;obtain⟨Ad,cd,rfl,-⟩:=hd.at_;have H:=h.below hb0;have hok:=h.ok.fault (f:=⟨5,(j:Nat),a,dl⟩) hy h24;have o0:=iQ ab hb0;have x0:=hX.cell 0 (x:=↑(5:Int)) rfl;have x1:=hX.cell 1 (x:=↑(j:Nat)) rfl;have x2:=hX.cell 2 (x:=↑a) rfl;have x3:=hX.cell 3 (x:=.slice Ad dl.length cd) rfl;have j8:(j:Int)<8:=by omega
 have y:=H.blk.cell j (nN V x j hj);have fz:=H.blk.frozen j;have hz0:(w.alloc (.cells #[↑(5:Int),↑(j:Nat),↑a,.slice Ad dl.length cd] 56)).heap.size=w.heap.size+1:=by simp
 have hlt:=h.lt;have hD:Dat [ab] (w.alloc (.cells #[↑(5:Int),↑(j:Nat),↑a,.slice Ad dl.length cd] 56)) (.slice Ad dl.length cd) dl:=Dq (hd.below (hb0.mono (by omega))) (by omega);have hy1:iK dl:=hy;have H1:=H.wW (u:=.slice Ad dl.length cd) (l:=dl) hj hD rfl ⟨λi=>by
  show Db.Ok (upV x.s j _ i);unfold upV
  split
  ·exact⟨hy1,by show dl.length<=50;omega⟩
  ·exact h.ok.s i⟩
 have hw:=hs j hj;have w1:IntKind.i64.wrap ((x.s j).at_+a)=(x.s j).at_+a:=aO _ (by unfold wide at hw;omega);have o1:=o0.set j (.slice Ad dl.length cd);have hX1:=hX.only ((aE ab _).set j (.slice Ad dl.length cd)) (by omega)
 go_enter Tryz.func118,Tryz.ntmps118
 go_wp2_with fail;generalize(w.alloc (.cells #[↑(5:Int),↑(j:Nat),↑a,.slice Ad dl.length cd] 56))=w0 at *;have hX1:=af hX1;have H1:=af H1;have o1:=af o1;clear H hX hD h
 go_region
 all_goals
  have hX1:=hX1.o;have H1:=H1.o;have o1:=o1.o;have H2:=H1.drew;have o2:=o1.drew;have hX2:=hX1.drew;generalize(World.setCell _ _ _).drew=w2 at *;clear x0 x1 x2 x3 y fz;have x0:=hX2.cell 0 (x:=↑(5:Int)) rfl;have x1:=hX2.cell 1 (x:=↑(j:Nat)) rfl;have x2:=hX2.cell 2 (x:=↑a) rfl;have y:=H2.blk.cell (8+j) (nA _ _ j hj);rw[show(({x with s:=upV x.s j {x.s j with b:=dl}}:Air).s j).at_=(x.s j).at_ by show(upV x.s j _ j).at_=_;unfold upV;rw[au rfl]]at y;have fz:=H2.blk.frozen (8+j);have HH:=af (H2.j5 (x':=x.fault ⟨5,(j:Nat),a,dl⟩) (8+j) ↑((x.s j).at_+a:Int) (by
   rw[Dp _ _ j hj,Air.nO ⟨5,(j:Nat),a,dl⟩ x (by simp) (by simp)];refine qY (λ_ _=>rfl) (λi _=>?_) (λi _=>?_) (λ_ _=>rfl) (λ_ _=>rfl)
   ·simp only[upV,aQ,Db.fault];split<;>simp_all
   ·simp only[upV,aQ,Db.fault];split<;>simp_all) (λi hi=>by
   rw[Air.nO ⟨5,(j:Nat),a,dl⟩ x (by simp) (by simp)];simp only[upV,aQ,Db.fault];split<;>simp_all) hok).drew
  have KK:=af (o2.set (8+j) ↑((x.s j).at_+a:Int)).drew;clear hb0 hd o0 hok hs hw H1 H2 o1 o2 hX1 hX2;generalize(x.s j).at_=z at *;go_wp2_with fail
  go_region
  all_goals
   go_wp2;exact aD (ax (by rfl) _ _ _) rfl ⟨rfl,_,HH.o,KK.o⟩
theorem Nh(ab:Nat)(V:Nat->Value)(x:Air)(j:Nat)(a:Int)(dv:Value)(dl:List Int)(w:World)(h:jF w ab V x)(hj:j<8)(hd:iI w ab dv dl)(hy:iK dl)(h24:dl.length<=24)(ha:-1000<=a/\a<=1000):
  Calls Tryz.prog 118 #[↑(ab,0),.agg #[↑(2:Int),↑(j:Nat),↑a,dv]] w (nB ab ⟨2,(j:Nat),a,dl⟩ x w):=by
 have hb0:=(ah w w).alloc lr (.cells #[↑(2:Int),↑(j:Nat),↑a,dv] 56);have hX:=aJ w _ rfl #[↑(2:Int),↑(j:Nat),↑a,dv] 56;obtain⟨Ad,cd,rfl,-⟩:=hd.at_;have H:=h.below hb0;have hok:=h.ok.fault (f:=⟨2,(j:Nat),a,dl⟩) hy h24;have o0:=iQ ab hb0;have x0:=hX.cell 0 (x:=↑(2:Int)) rfl;have x1:=hX.cell 1 (x:=↑(j:Nat)) rfl;have x2:=hX.cell 2 (x:=↑a) rfl;have x3:=hX.cell 3 (x:=.slice Ad dl.length cd) rfl;have j8:(j:Int)<8:=by omega
 obtain⟨Av,cv,eV⟩:=H.form hj;have y:=H.blk.cell j (nN V x j hj);have hdj:=H.dat j hj;rw[eV]at y hdj;have fz:=H.blk.frozen j;have hbj:=H.ok.s j;have HC:=λW(hW:Below (w.alloc (.cells #[↑(2:Int),↑(j:Nat),↑a,.slice Ad dl.length cd] 56)).heap.size (w.alloc (.cells #[↑(2:Int),↑(j:Nat),↑a,.slice Ad dl.length cd] 56)) W)=>af (MX (.slice Av (x.s j).b.length cv) (x.s j).b a W ((hdj.1.below hW).more hW.size) hbj.b hbj.l ha);have HN:Hid (∀W,Below (w.alloc (.cells #[↑(2:Int),↑(j:Nat),↑a,.slice Ad dl.length cd] 56)).heap.size (w.alloc (.cells #[↑(2:Int),↑(j:Nat),↑a,.slice Ad dl.length cd] 56)) W->jF W ab V x/\Only ab w W/\W.cell? (w,1)=some ↑(j:Nat)/\W.cell? (w,2)=some ↑a/\W.cell? (ab,j)=some (.slice Av (x.s j).b.length cv)/\W.frozen? (ab,j)=false):=af λW hW=>by
  have hX2:=hX.below hW hX.lt;have hA:=H.below hW;exact⟨hA,o0.trans (iQ ab hW),hX2.cell 1 rfl,hX2.cell 2 rfl,eV▸hA.blk.cell j (nN V x j hj),hA.blk.frozen j⟩
 have hlt:=H.lt;clear hd hdj hbj;have hN:=af (aL hok (aL hX hb0));clear h H hX hb0 o0 hok
 go_enter Tryz.func118,Tryz.ntmps118
 go_wp2_with fail;generalize(w.alloc (.cells #[↑(2:Int),↑(j:Nat),↑a,.slice Ad dl.length cd] 56))=w1 at *;have hB1:=ah w1 w1
 go_region_with (first
  |(go_at_call 174;refine(HC w1.drew hB1.drew).o.mono ?_;rintro e w2 ⟨u,rfl,hu,hnw,hb2⟩;have hB2:=hB1.drew.trans hb2;obtain⟨H2,o2,z1,z2,z3,z4⟩:=HN.o w2 hB2;obtain⟨A2,c2,rfl,-⟩:=hu.at_)
  |fail)
 all_goals
  have HH:=af (H2.wW (u:=_) (l:=kV (x.s j).b a) (x':=x.fault ⟨2,(j:Nat),a,dl⟩) hj ⟨hu,λf hf h0 e=>by rw[bD.1 hf]at e;have:=hnw h0 _ e;simp at this;omega⟩ (Air.nO _ _ (by simp) (by simp)) hN.o.1);have KK:=af (o2.set j (.slice A2 (kV (x.s j).b a).length c2));clear HC HN hu hnw;go_wp2;exact aD (ax (by rfl) _ _ _) rfl ⟨rfl,_,HH.o,KK.o⟩
theorem Ni(ab:Nat)(V:Nat->Value)(x:Air)(f:Ft)(dv:Value)(w:World)(h:jF w ab V x)(hm:f.may=true)(hd:iI w ab dv f.d)(hy:iK f.d)(hs:∀i,i<8->wide (x.s i).at_):
  Calls Tryz.prog 118 #[↑(ab,0),ftV f dv] w (nB ab f x w):=by
 obtain⟨fk,fn,fa,fd⟩:=f;unfold Ft.may at hm;rw[nu]at hm;simp only at hm hd hy;obtain⟨k1,k2,k3,k4,k5,k6,k7⟩:=hm;obtain⟨j,rfl⟩:∃j:Nat,fn=j:=⟨fn.toNat,by omega⟩;unfold ftV;rcases(by omega:fk=1\/fk=2\/fk=3\/fk=4\/fk=5\/fk=6\/fk=7)with rfl|rfl|rfl|rfl|rfl|rfl|rfl
 ·exact M9 ab V x j fa dv fd w h (by simp at k4;omega) hd hy k7
 ·exact Nh ab V x j fa dv fd w h (by simp at k4;omega) hd hy k7 ⟨k5,k6⟩
 ·exact Na ab V x j fa dv fd w h (by simp at k4;omega) hd hy k7
 ·exact Nb ab V x j fa dv fd w h (by simp at k4;omega) hd hy k7
 ·exact Ng ab V x j fa dv fd w h (by simp at k4;omega) hd hy k7 ⟨k5,k6⟩ hs
 ·exact Nf ab V x j fa dv fd w h (by simp at k4;omega) hd hy k7 ⟨k5,k6⟩ hs
 ·exact Nc ab V x j fa dv fd w h (by simp at k4;omega) hd hy k7
end
end Go.Proofs.YteadkhigkmijiaaGreat
