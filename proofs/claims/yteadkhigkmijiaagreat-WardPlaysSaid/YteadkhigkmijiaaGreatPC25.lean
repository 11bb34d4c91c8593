/- Texts SgA1, SfA, QmC, QmB in one. -/
import Derived.Test.YteadkhigkmijiaaGreatPC1
import Derived.Test.YteadkhigkmijiaaGreatPC2
import Derived.Test.YteadkhigkmijiaaGreatPC9
import Derived.Test.YteadkhigkmijiaaGreatPC14
import Derived.Test.YteadkhigkmijiaaGreatPC18
import Derived.Test.YteadkhigkmijiaaGreatPC22
import Derived.Test.YteadkhigkmijiaaGreatPC24
set_option linter.all false
namespace Go.Proofs.YteadkhigkmijiaaGreat
section
set_option maxRecDepth 100000
set_option maxHeartbeats 1000000
open Go.RowKit
open Clk (avg)
def jj(c:Cx 1)(W:World)(g:Nat)(s:G):Prop:=PB c W g (grd s)/\s.l.length<=4
section
variable {c:Cx 1}{W W':World}{g:Nat}{s:G}
theorem jj.below(h:jj c W g s){B:Nat}(hb:Below B W W')(hg:g<B):jj c W' g s:=⟨h.1.below hb hg,h.2⟩
theorem jj.lt(h:jj c W g s):g<W.heap.size:=h.1.lt
theorem jj.clk(h:jj c W g s):W.cell? (g,11)=some ↑s.lm/\W.cell? (g,12)=some ↑(s.l.getD 0 0)/\W.cell? (g,13)=some ↑(s.l.getD 1 0)/\W.cell? (g,14)=some ↑(s.l.getD 2 0)/\W.cell? (g,15)=some ↑(s.l.getD 3 0)/\W.cell? (g,16)=some ↑(s.l.length:Nat):=
 ⟨h.1.cell 10 rfl,h.1.cell 11 rfl,h.1.cell 12 rfl,h.1.cell 13 rfl,h.1.cell 14 rfl,h.1.cell 15 rfl⟩
theorem jj.frz(h:jj c W g s):W.frozen? (g,11)=false/\W.frozen? (g,12)=false/\W.frozen? (g,13)=false/\W.frozen? (g,14)=false/\W.frozen? (g,15)=false/\W.frozen? (g,16)=false:=
 ⟨h.1.frozen 11,h.1.frozen 12,h.1.frozen 13,h.1.frozen 14,h.1.frozen 15,h.1.frozen 16⟩
end
theorem EM(c:Cx 1)(g:Nat)(s:G)(w:World)(h:jj c w g s):
  Calls Tryz.prog 89 #[↑(g,11)] w λe w'=>e=.returned (.tuple #[])/\jj c w' g {s with l:=[]}/\Only g w w':=by
 obtain⟨c0,c1,c2,c3,c4,c5⟩:=h.clk;obtain⟨f0,f1,f2,f3,f4,f5⟩:=h.frz;have hB:Hid (PB c ((((((w.setCell (g,11) ↑s.lm).setCell (g,12) ↑(0:Int)).setCell (g,13) ↑(0:Int)).setCell (g,14) ↑(0:Int)).setCell (g,15) ↑(0:Int)).setCell (g,16) ↑(0:Int)) g (grd {s with l:=[]})):=af ((((((h.1.set 10 (by simp[grd]) _).set 11 (by simp[grd]) _).set 12 (by simp[grd]) _).set 13 (by simp[grd]) _).set 14 (by simp[grd]) _).set 15 (by simp[grd]) _);clear h
 go_enter Tryz.func89,Tryz.ntmps89
 go_wp2;exact aD (ax (by rfl) _ _ _) rfl ⟨rfl,⟨hB.o,by simp⟩,((((((aE g w).set 11 _).set 12 _).set 13 _).set 14 _).set 15 _).set 16 _⟩
theorem Pt(c:Cx 1)(g:Nat)(s:G)(n:Int)(w:World)(h:jj c w g s)(h4:s.l.length=4):
  Calls Tryz.prog 108 #[↑(g,11),↑n] w λe w'=>e=.returned (.tuple #[])/\jj c w' g {s with l:=s.l.drop 1++[n]}/\Only g w w':=by
 obtain⟨c0,c1,c2,c3,c4,c5⟩:=h.clk;obtain⟨f0,f1,f2,f3,f4,f5⟩:=h.frz;have c5':w.cell? (g,16)=some ↑(4:Int):=by rw[c5,h4];rfl
 clear c5;have hB:Hid (PB c ((((((w.setCell (g,12) ↑(s.l.getD 1 0)).setCell (g,13) ↑(s.l.getD 2 0)).setCell (g,14) ↑(s.l.getD 3 0)).setCell (g,16) ↑(3:Int)).setCell (g,15) ↑n).setCell (g,16) ↑(4:Int)).drew.drew g (grd {s with l:=s.l.drop 1++[n]})):=af (((((((h.1.set 11 (by simp[grd]) ↑(s.l.getD 1 0)).set 12 (by simp[grd]) ↑(s.l.getD 2 0)).set 13 (by simp[grd]) ↑(s.l.getD 3 0)).set 15 (by simp[grd]) ↑(3:Int)).set 14 (by simp[grd]) ↑n).set 15 (by simp[grd]) ↑(4:Int)).drew.drew.eq (BI s n h4));have H4:=af h4;clear h h4;generalize s.l.getD 0 0=a0 at *;generalize s.l.getD 1 0=a1 at *;generalize s.l.getD 2 0=a2 at *;generalize s.l.getD 3 0=a3 at *;have hrun:=run_copy_cells (P:=Tryz.prog) w.drew 33 33 3 3 g 12 4 4 (g,13) 3 3 [↑a1,↑a2,↑a3] Tryz.underlying33 (by kernel_rfl) (by simp) (λj v hj=>by
  match j,hj with
  |0,hj=>simp at hj;subst hj;exact c2
  |1,hj=>simp at hj;subst hj;exact c3
  |2,hj=>simp at hj;subst hj;exact c4
  |j+3,hj=>simp at hj) (λj hj=>by
  match j,hj with
  |0,_=>show(w.cell? _).isSome=true;rw[c1];rfl
  |1,_=>show(w.cell? _).isSome=true;rw[c2];rfl
  |2,_=>show(w.cell? _).isSome=true;rw[c3];rfl
  |j+3,hj=>simp at hj;omega) (λj hj=>by
  match j,hj with
  |0,_=>exact f1
  |1,_=>exact f2
  |2,_=>exact f3
  |j+3,hj=>simp at hj;omega) (by simp[Value.oneCell'])
 simp[World.setCells]at hrun
 go_enter Tryz.func108,Tryz.ntmps108
 go_wp2
 go_region
 go_wp2
 go_region
 go_wp2;exact aD (ax (by rfl) _ _ _) rfl ⟨rfl,⟨hB.o,by have:=H4.o;simp;omega⟩,(((((((aE g w).set 12 _).set 13 _).set 14 _).set 16 _).set 15 _).set 16 _).drew.drew⟩
theorem Pu(c:Cx 1)(g:Nat)(s:G)(n:Int)(w:World)(h:jj c w g s)(h4:s.l.length<4):
  Calls Tryz.prog 108 #[↑(g,11),↑n] w λe w'=>e=.returned (.tuple #[])/\jj c w' g {s with l:=s.l++[n]}/\Only g w w':=by
 obtain⟨c0,c1,c2,c3,c4,c5⟩:=h.clk;obtain⟨f0,f1,f2,f3,f4,f5⟩:=h.frz;have q4:((s.l.length:Int)==4)=false:=by rw[aB];omega
 have hB:Hid (PB c ((w.setCell (g,12+s.l.length) ↑n).setCell (g,16) ↑((s.l.length:Int)+1:Int)).drew g (grd {s with l:=s.l++[n]})):=af (((PBs (p':=12+s.l.length) (h.1.set (11+s.l.length) (by have:(grd s).size=20:=rfl;omega) ↑n) (by omega) rfl).set 15 (by simp[grd]) ↑((s.l.length:Int)+1:Int)).drew.eq (BJ s n _ rfl h4));have ck:∃x,w.cell? (g,12+s.l.length)=some x:=by
  rcases(by omega:s.l.length=0\/s.l.length=1\/s.l.length=2\/s.l.length=3)with e|e|e|e<;>rw[e]
  ·exact⟨_,c1⟩
  ·exact⟨_,c2⟩
  ·exact⟨_,c3⟩
  ·exact⟨_,c4⟩
 have fk:w.frozen? (g,12+s.l.length)=false:=h.1.frozen _;obtain⟨x,ck⟩:=ck;clear h c0 c1 c2 c3 c4 f0 f1 f2 f3 f4
 go_enter Tryz.func108,Tryz.ntmps108
 go_wp2
 go_region
 go_wp2;exact aD (ax (by rfl) _ _ _) rfl ⟨rfl,⟨hB.o,by simp;omega⟩,(((aE g w).set (12+s.l.length) _).set 16 _).drew⟩
theorem Pv(c:Cx 1)(g:Nat)(s:G)(n:Int)(w:World)(h:jj c w g s):
  Calls Tryz.prog 108 #[↑(g,11),↑n] w λe w'=>e=.returned (.tuple #[])/\jj c w' g {s with l:=iT s.l n}/\Only g w w':=by
 unfold iT;by_cases h4:s.l.length=4
 ·rw[au h4];exact Pt c g s n w h h4
 ·rw[ai h4];exact Pu c g s n w h (by have:=h.2;omega)
theorem jj.sees{c:Cx 1}{W:World}{g:Nat}{s:G}(h:jj c W g s):ja W W (.slice (some (g,12)) s.l.length 4) s.l:=by
 refine⟨some (g,12),4,rfl,h.2,by simp[maxLen],λ_=>⟨g,12,rfl,h.1.lt,λk hk=>?_⟩,λh=>by cases h⟩;obtain⟨-,c1,c2,c3,c4,-⟩:=h.clk;have:=h.2;rcases(by omega:k=0\/k=1\/k=2\/k=3)with rfl|rfl|rfl|rfl
 ·exact c1
 ·exact c2
 ·exact c3
 ·exact c4
theorem Pw(c:Cx 1)(g:Nat)(s:G)(w:World)(h:jj c w g s)(hs:small s.l)(hm:0<=s.lm/\s.lm<=9223372036854775807):
  Calls Tryz.prog 202 #[↑(g,11)] w λe w'=>e=.returned (.tuple #[↑(jb s.lm s.l),↑(wiB s.lm (avg s.l))])/\Below w w w':=by
 have hT:Hid (∀W,Below w w W->jj c W g s):=af (λW hW=>h.below hW h.1.lt);have A1:=λW(hW:Below w w W)=>af (uX s.l _ W W lr (hT.o W hW).sees hs h.2);have R:=λn W=>af (uU s.lm n W hm);have hl4:=h.2;unfold jb;generalize avg s.l=r at *;have R:=R r;generalize hq:wiB s.lm r=q at *;clear hq;obtain⟨c0,-,-,-,-,c5⟩:=h.clk;have HC:Hid (∀W,Below w w W->W.cell? (g,11)=some ↑s.lm/\W.cell? (g,16)=some ↑(s.l.length:Nat)):=af (λW hW=>by
  obtain⟨c0,-,-,-,-,c5⟩:=(hT.o W hW).clk;exact⟨c0,c5⟩)
 have hb0:=ah w w;have n1:(0:Int)<=(s.l.length:Nat):=by omega
 have n2:((s.l.length:Nat):Int)<=4:=by omega
 clear h hs hm
 go_enter Tryz.func202,Tryz.ntmps202
 go_wp2
 go_region_held3 (λW=>W.cell? (g,11)=some ↑s.lm/\W.cell? (g,16)=some ↑(s.l.length:Nat))
  ((refine HC.o _ ?_;first|exact hb0|exact hb0.drew|exact hb1))
  (first
   |((go_at_call 226;with_reducible refine(A1 _ ?_).o.mono ?_);(first|exact hb0|exact hb0.drew);rintro e w1 ⟨rfl,hb⟩;have hb1:=hb0.drew.trans (hb.mono hb0.size))
   |fail)
 clear c0 c5;obtain⟨c0,c5⟩:=HC.o w1 hb1
 cases q
 ·go_wp2_with fail
  refine(R w1).o.mono ?_;rintro e w2 ⟨rfl,rfl⟩;go_wp2;go_ret2;exact⟨rfl,hb1⟩
 ·go_wp2_with fail
  refine(R w1).o.mono ?_;rintro e w2 ⟨rfl,rfl⟩;go_wp2;go_ret2;exact⟨rfl,hb1⟩
theorem uG(c:Cx 1)(g:Nat)(s:G)(w:World)(h:jj c w g s)(hs:s.slot<s.n)(hn:s.n<=8)(hsm:small s.l)(hm:0<=s.lm/\s.lm<=9223372036854775807)(jz:s.slot+1=s.n->time (s.now+jb s.lm s.l)):
  Calls Tryz.prog 221 #[↑(g,1)] w λe w'=>e=.returned (.tuple #[])/\jj c w' g s.on/\Only g w w':=by
 have c8:=PBa (h.1.cell 8 (x:=↑(s.n:Nat)) rfl) (show 1+8=9 from rfl);have c18:=PBa (h.1.cell 18 (x:=↑(s.slot:Nat)) rfl) (show 1+18=19 from rfl);have f18:=h.1.frozen 19;have z1:IntKind.i64.wrap ((s.slot:Int)+1)=(s.slot:Int)+1:=aO _ (by omega);by_cases hc:s.slot+1=s.n
 ·have z2:Int.tmod ((s.slot:Int)+1) (s.n:Int)=0:=by rw[show((s.slot:Int)+1)=(s.n:Int) by omega];simp
  have z3:¬(s.n:Int)=0:=by omega
  have H1:Hid (jj c (w.setCell (g,19) ↑(0:Int)).drew g {s with slot:=0}):=af ⟨((h.1.set 18 (by simp[grd]) ↑(0:Nat)).drew).eq (nL s 0),h.2⟩
  go_enter Tryz.func221,Tryz.ntmps221
  go_wp2
  go_region
  have hO:=af (((aE g w).set 19 ↑(0:Int)).drew);have xQ:=H1.o.1.cell 18 (x:=↑(0:Nat)) rfl;generalize hw1:(w.setCell (g,19) ↑(0:Int)).drew=w1 at *;have hT:=af (Pw c g {s with slot:=0} w1 H1.o hsm hm);have T0:=af (jz hc);simp only at hT;generalize hv:jb s.lm s.l=v at *;generalize wiB s.lm (avg s.l)=q at *;go_wp2_with fail;refine hT.o.mono ?_;rintro e w2 ⟨rfl,hb2⟩;have H2:=af (H1.o.below hb2 H1.o.lt);have hO2:=af (hO.o.trans (iQ g hb2));have c16:=PBa (H2.o.1.cell 16 (x:=↑s.now) rfl) (show 1+16=17 from rfl);have f16:=H2.o.1.frozen 17;have z4:IntKind.i64.wrap (s.now+v)=s.now+v:=aO _ (by have:=T0.o;unfold time at this;omega);have H3:=af (show jj c (w2.setCell (g,17) ↑(s.now+v:Int)) g {s with slot:=0,now:=s.now+v}from⟨(H2.o.1.set 16 (by simp[grd]) ↑(s.now+v:Int)).eq (tj _ _),H2.o.2⟩);have hO3:=af (hO2.o.set 17 ↑(s.now+v:Int));generalize hw3:w2.setCell (g,17) ↑(s.now+v:Int)=w3 at *;go_wp2_with fail;refine(EM c g _ _ H3.o).mono ?_;rintro e w4 ⟨rfl,H4,hO4⟩;go_wp2;refine aD (ax (by rfl) _ _ _) rfl ⟨rfl,?_,hO3.o.trans hO4⟩;unfold G.on;rw[au hc,hv];exact H4
 ·have e1:((s.slot+1:Nat):Int)=(s.slot:Int)+1:=by omega
  have z2:Int.tmod ((s.slot:Int)+1) (s.n:Int)=(s.slot:Int)+1:=Int.tmod_eq_of_lt (by omega) (by omega);have z3:¬(s.n:Int)=0:=by omega
  have H1:Hid (jj c (w.setCell (g,19) ↑((s.slot:Int)+1:Int)).drew g {s with slot:=s.slot+1}):=af ⟨((h.1.set 18 (by simp[grd]) ↑((s.slot:Int)+1:Int)).drew).eq (by rw[<-e1];exact nL s (s.slot+1)),h.2⟩;have hO:=af (((aE g w).set 19 ↑((s.slot:Int)+1:Int)).drew);have z4:(((s.slot:Int)+1)==0)=false:=by rw[aB];omega
  go_enter Tryz.func221,Tryz.ntmps221
  go_wp2
  go_region
  go_wp2;refine aK (ax (by rfl) _ _ _) rfl ⟨rfl,?_,hO.o⟩;unfold G.on;rw[ai hc];exact H1.o
theorem Px(c:Cx 1)(g:Nat)(s:G)(at_:Int)(w:World)(h:jj c w g s)(hs:s.slot<s.n)(hn:s.n<=8)(hsm:small s.l)(hm:0<=s.lm/\s.lm<=9223372036854775807)
  (hat:time at_) (hnw:time s.now) (hd:s.sy s.slot=true->-1099511627776<=at_-s.now/\at_-s.now<=1099511627776) (jz:s.slot+1=s.n->time (s.now+jb s.lm (if s.sy s.slot then iT s.l (at_-s.now)else s.l))):
  Calls Tryz.prog 199 #[↑(g,1),↑at_] w λe w'=>e=.returned (.tuple #[])/\jj c w' g (s.heard at_)/\Only g w w':=by
 have f19:=h.1.frozen 20;have c19:=PBa (h.1.cell 19 (x:=↑(s.si:Nat)) rfl) (show 1+19=20 from rfl);have H1:Hid (jj c (w.setCell (g,20) ↑(0:Int)) g {s with si:=0}):=af ⟨(h.1.set 19 (by simp[grd]) ↑((0:Nat):Int)).eq (pR s 0),h.2⟩;have hO1:=af ((aE g w).set 20 ↑(0:Int));generalize hw1:w.setCell (g,20) ↑(0:Int)=w1 at *;have c18:=PBa (H1.o.1.cell 18 (x:=↑(s.slot:Nat)) rfl) (show 1+18=19 from rfl);have cs:=H1.o.1.cell s.slot (vR _ s.slot (by omega));simp only at cs;have hN:=af jz;have i1:(0:Int)<=(s.slot:Int):=by omega
 have i2:(s.slot:Int)<8:=by omega
 clear h jz;unfold G.heard
 cases hq:s.sy s.slot
 ·rw[hq]at hN cs
  go_enter Tryz.func199,Tryz.ntmps199
  go_wp2
  go_region
  have H2:jj c w1.drew g {s with si:=0}:=H1.o;go_wp2_with fail;refine(uG c g _ _ H2 hs hn hsm hm (λh=>by simpa using hN.o h)).mono ?_;rintro e w4 ⟨rfl,H4,hO4⟩;go_wp2;exact aD (ax (by rfl) _ _ _) rfl ⟨rfl,H4,hO1.o.drew.trans hO4⟩
 ·rw[hq]at hN cs
  have hLs:=λW=>af (BK at_ s.now W hat hnw);have hM:=λW(h:jj c W g {s with si:=0})=>af (Pv c g _ (at_-s.now) W h);have hK:=af (hsm.iT (hd hq));have c16:=PBa (H1.o.1.cell 16 (x:=↑s.now) rfl) (show 1+16=17 from rfl);simp only at hM;generalize hl2:iT s.l (at_-s.now)=l2 at *;clear hd
  go_enter Tryz.func199,Tryz.ntmps199
  go_wp2
  go_region
  go_wp2
  go_region_with (first
   |(go_at_call 222;refine(hLs _).o.mono ?_;rintro e w2 ⟨rfl,rfl⟩)
   |(go_at_call 108;refine(hM w1.drew.drew H1.o).o.mono ?_;rintro e w2 ⟨rfl,H2,hO2⟩))
  go_wp2_with fail;refine(uG c g _ _ H2 hs hn hK.o hm (λh=>by simpa using hN.o h)).mono ?_;rintro e w4 ⟨rfl,H4,hO4⟩;go_wp2;exact aD (ax (by rfl) _ _ _) rfl ⟨rfl,H4,(hO1.o.drew.drew.trans hO2).trans hO4⟩
theorem Py(c:Cx 1)(g:Nat)(s:G)(w:World)(h:jj c w g s)(hs:s.slot<s.n)(hn:s.n<=8)(hsm:small s.l)(hm:0<=s.lm/\s.lm<=9223372036854775807)(hsi:s.si<=1000)
  (jz:s.slot+1=s.n->time (s.now+jb s.lm s.l)):
  Calls Tryz.prog 200 #[↑(g,1)] w λe w'=>e=.returned (.tuple #[])/\jj c w' g s.missed/\Only g w w':=by
 have f19:=h.1.frozen 20;have c19:=PBa (h.1.cell 19 (x:=↑(s.si:Nat)) rfl) (show 1+19=20 from rfl);have e1:((s.si+1:Nat):Int)=(s.si:Int)+1:=by omega
 have z1:IntKind.i64.wrap ((s.si:Int)+1)=(s.si:Int)+1:=aO _ (by omega);have z2:IntKind.i64.wrap (2*(s.n:Int))=2*(s.n:Int):=aO _ (by omega);have H1:Hid (jj c (w.setCell (g,20) ↑((s.si:Int)+1:Int)) g {s with si:=s.si+1}):=af ⟨(h.1.set 19 (by simp[grd]) ↑((s.si:Int)+1:Int)).eq (by rw[<-e1];exact pR s (s.si+1)),h.2⟩;have hO1:=af ((aE g w).set 20 ↑((s.si:Int)+1:Int));generalize hw1:w.setCell (g,20) ↑((s.si:Int)+1:Int)=w1 at *;have c8:=PBa (H1.o.1.cell 8 (x:=↑(s.n:Nat)) rfl) (show 1+8=9 from rfl);have d19:w1.cell? (g,20)=some ↑((s.si:Int)+1:Int):=by rw[<-e1];exact H1.o.1.cell 19 rfl
 have hN:=af jz;clear h jz;unfold G.missed;by_cases hq:s.si+1=2*s.n
 ·rw[au hq]
  have q1:((s.si:Int)+1==2*(s.n:Int))=true:=by rw[fW];omega
  have f17:=H1.o.1.frozen 18;have f18:=H1.o.1.frozen 19;have c17:=PBa (H1.o.1.cell 17 (x:=↑s.kn) rfl) (show 1+17=18 from rfl);have c18:=PBa (H1.o.1.cell 18 (x:=↑(s.slot:Nat)) rfl) (show 1+18=19 from rfl);have H2:Hid (jj c ((w1.drew.setCell (g,18) ↑false).setCell (g,19) ↑(0:Int)) g {s with si:=s.si+1,kn:=false,slot:=0}):=af ⟨((H1.o.1.drew.set 17 (by simp[grd]) ↑false).set 18 (by simp[grd]) ↑((0:Nat):Int)).eq (by rw[tq,nL]),H1.o.2⟩
  go_enter Tryz.func200,Tryz.ntmps200
  go_wp2
  go_region
  go_wp2;exact aK (ax (by rfl) _ _ _) rfl ⟨rfl,H2.o,(hO1.o.drew.set 18 _).set 19 _⟩
 ·rw[ai hq]
  have q1:((s.si:Int)+1==2*(s.n:Int))=false:=by rw[aB];omega
  go_enter Tryz.func200,Tryz.ntmps200
  go_wp2
  go_region
  have H2:jj c w1.drew g {s with si:=s.si+1}:=H1.o;go_wp2_with fail;refine(uG c g _ _ H2 hs hn hsm hm hN.o).mono ?_;rintro e w4 ⟨rfl,H4,hO4⟩;go_wp2;exact aD (ax (by rfl) _ _ _) rfl ⟨rfl,H4,hO1.o.drew.trans hO4⟩
end
section
open Go.RowKit
def kV(l:List Int)(a:Int):List Int:=
 if l=[]then l else l.set ((max a (-a)).toNat%(8*l.length) / 8) (((l.getD ((max a (-a)).toNat%(8*l.length) / 8) 0).toNat^^^(128>>>((max a (-a)).toNat%(8*l.length)%8)):Nat):Int)
theorem EJ(l:List Int)(a:Int):(kV l a).length=l.length:=by
 unfold kV
 split
 ·rfl
 ·simp
theorem O0:∀x:Fin 256,∀i j:Fin 8,(x.val^^^(128>>>i.val)).testBit (7-j.val)=(if i=j then !x.val.testBit (7-j.val)else x.val.testBit (7-j.val)):=by decide+kernel
theorem O6:∀x:Fin 256,∀i:Fin 8,x.val^^^(128>>>i.val)<256:=by decide+kernel
theorem bytes_at{l:List Int}(h:iK l)(k:Nat):0<=l.getD k 0/\l.getD k 0<256:=by
 rw[ay];rcases Nat.lt_or_ge k l.length with hk|hk
 ·rw[aP hk]
  exact h _ (dS hk)
 ·rw[aY hk]
  exact⟨by decide,by decide⟩
theorem O7{l:List Int}(a:Int)(h:iK l):iK (kV l a):=by
 unfold kV
 split
 ·exact h
 ·intro x hx
  rcases gW hx with hx|rfl
  ·exact h x hx
  ·have hb:=bytes_at h ((max a (-a)).toNat%(8*l.length) / 8)
   have ht:=O6 ⟨(l.getD ((max a (-a)).toNat%(8*l.length) / 8) 0).toNat,by omega⟩ ⟨(max a (-a)).toNat%(8*l.length)%8,Nat.mod_lt _ (by decide)⟩;simp only at ht;omega
theorem O8(l:List Int)(a:Int):rn (kV l a)=rn l:=by unfold rn;rw[EJ]
theorem O9{l:List Int}(a:Int)(h:iK l)(h50:l.length<=50)(k:Nat)(hk:k<rn l):rq (kV l a) k=gq (rn l) (rq l) a k:=by
 have hn:rn l=8*l.length:=by unfold rn;omega
 rw[hn]at hk ⊢;have h0:l≠[]:=by intro e;subst e;simp at hk
 have hp:0<8*l.length:=by omega
 have ht:max a (-a)%((8*l.length:Nat):Int)=(((max a (-a)).toNat%(8*l.length):Nat):Int):=by
  rw[Int.natCast_emod,fX (by omega)]
 unfold gq turned;rw[ht];unfold kV;rw[ai h0];generalize hT:(max a (-a)).toNat%(8*l.length)=T;have hTl:T<8*l.length:=hT▸Nat.mod_lt _ hp;have hb:=bytes_at h (T / 8);have hbt:=O0 ⟨(l.getD (T / 8) 0).toNat,by omega⟩ ⟨T%8,Nat.mod_lt _ (by decide)⟩ ⟨k%8,Nat.mod_lt _ (by decide)⟩;simp only[Fin.mk.injEq]at hbt;have key:jX ((l.set (T / 8) (((l.getD (T / 8) 0).toNat^^^(128>>>(T%8)):Nat):Int)).getD (k / 8) 0) (k%8)=if k=T then !jX (l.getD (k / 8) 0) (k%8)else jX (l.getD (k / 8) 0) (k%8):=by
  by_cases e:k / 8=T / 8
  ·have eg:(l.set (T / 8) (((l.getD (T / 8) 0).toNat^^^(128>>>(T%8)):Nat):Int)).getD (k / 8) 0=(((l.getD (T / 8) 0).toNat^^^(128>>>(T%8)):Nat):Int):=by
    rw[e,ay,dZ (by omega)]
    rfl
   rw[eg];unfold jX;rw[aQ,hbt,e];by_cases e2:T%8=k%8
   ·rw[au e2,au (show k=T by omega)]
   ·rw[ai e2,ai (show ¬k=T by omega)]
  ·have eg:(l.set (T / 8) (((l.getD (T / 8) 0).toNat^^^(128>>>(T%8)):Nat):Int)).getD (k / 8) 0=l.getD (k / 8) 0:=by
    rw[ay,dU (by omega),<-ay]
   rw[eg,ai (show ¬k=T by intro h';apply e;omega)]
 show(if jX ((l.set (T / 8) (((l.getD (T / 8) 0).toNat^^^(128>>>(T%8)):Nat):Int)).getD (k / 8) 0) (k%8)=true then(1:Int)else -1)=if((k:Nat):Int)=((T:Nat):Int)then -(if jX (l.getD (k / 8) 0) (k%8)=true then(1:Int)else -1)else(if jX (l.getD (k / 8) 0) (k%8)=true then(1:Int)else -1);rw[key];by_cases e:k=T
 ·rw[au e,au (dn _ e)]
  cases jX (l.getD (k / 8) 0) (k%8)<;>rfl
 ·rw[ai e,ai (show ¬((k:Nat):Int)=((T:Nat):Int) by omega)]
structure Db where
 b:List Int
 at_:Int
 df:Bool
def Db.fault(f:Ft)(x:Db):Db:=
 if f.k=1 then {x with b:=[]}
 else if f.k=2 then {x with b:=kV x.b f.a}
 else if f.k=3 then {x with df:=true}
 else if f.k=5 then {x with b:=f.d,at_:=x.at_+f.a}
 else if f.k=6 then {x with at_:=x.at_+f.a}
 else x
structure Sd.Is(s:Sd)(x:Db):Prop where
 n:s.n=rn x.b
 q:∀k,k<s.n->s.q k=rq x.b k
 a:s.at_=x.at_
 d:s.df=x.df
structure Db.Ok(x:Db):Prop where
 b:iK x.b
 l:x.b.length<=50
theorem Db.Ok.fault{x:Db}{f:Ft}(h:x.Ok)(hd:iK f.d)(hl:f.d.length<=24):(x.fault f).Ok:=by
 unfold Db.fault
 repeat' split
 ·exact⟨(λ_ hx=>by cases hx),bH _⟩
 ·exact⟨O7 _ h.b,aW (Nat.le_of_eq (EJ _ _)) h.l⟩
 ·exact⟨h.b,h.l⟩
 ·exact⟨hd,by show f.d.length<=50;omega⟩
 ·exact⟨h.b,h.l⟩
 ·exact h
theorem Sd.Is.strike{s:Sd}{x:Db}(f:Ft)(h:s.Is x)(ho:x.Ok):(s.strike f).Is (x.fault f):=by
 obtain⟨h1,h2,h3,h4⟩:=h;unfold Sd.strike Db.fault
 split
 ·exact⟨rfl,λk hk=>absurd hk (Nat.not_lt_zero _),h3,h4⟩
 split
 ·refine⟨h1.trans (O8 _ _).symm,λk hk=>?_,h3,h4⟩
  have hk:k<s.n:=hk;show gq s.n s.q f.a k=rq (kV x.b f.a) k;rw[O9 f.a ho.b ho.l k (h1▸hk)];unfold gq turned;rw[h1,h2 k hk]
 split
 ·exact⟨h1,h2,h3,rfl⟩
 split
 ·exact⟨rfl,λk _=>rfl,by show s.at_+f.a=x.at_+f.a;rw[h3],h4⟩
 split
 ·exact⟨h1,h2,by show s.at_+f.a=x.at_+f.a;rw[h3],h4⟩
 ·exact⟨h1,h2,h3,h4⟩
structure Air where
 s:Nat->Db
 bl:Nat->Bool
 lk:Nat->Bool
def Air.fault(f:Ft)(x:Air):Air:=
 if f.k=4 then {x with bl:=λi=>x.bl i||decide (f.n=(i:Int))}
 else if f.k=7 then {x with lk:=λi=>x.lk i||decide (f.n=(i:Int))}
 else {x with s:=λi=>if i=f.n.toNat then(x.s i).fault f else x.s i}
structure Air.Ok(x:Air):Prop where
 s:∀i,(x.s i).Ok
theorem Air.Ok.fault{x:Air}{f:Ft}(h:x.Ok)(hd:iK f.d)(hl:f.d.length<=24):(x.fault f).Ok:=by
 unfold Air.fault
 split
 ·exact⟨h.s⟩
 split
 ·exact⟨h.s⟩
 ·refine⟨λi=>?_⟩
  show Db.Ok (if i=f.n.toNat then(x.s i).fault f else x.s i)
  split
  ·exact(h.s i).fault hd hl
  ·exact h.s i
def jU(m:List Sd)(x:Air):Prop:=∀(i:Nat)(s:Sd),m[i]?=some s->s.Is (x.s i)
theorem EK(f:Ft)(s:Sd)(h:f.k=7):s.strike f=s:=by
 unfold Sd.strike;rw[h];simp
theorem jU.strike{m:List Sd}{x:Air}(f:Ft)(h:jU m x)(ho:x.Ok):jU (kS f m) (x.fault f):=by
 unfold kS Air.fault;by_cases h4:f.k=4
 ·rw[au h4,au h4]
  exact h
 rw[ai h4,ai h4];by_cases h7:f.k=7
 ·rw[au h7]
  intro i s hs
  cases e:m[f.n.toNat]? with
  |none=>rw[e]at hs;exact h i s hs
  |some s0=>
   rw[e]at hs;simp only[EK f s0 h7]at hs;by_cases hi:i=f.n.toNat
   ·subst hi
    rw[dZ (fJ.1 e).1]at hs
    cases hs
    exact h _ _ e
   ·rw[dU (dH hi)]at hs
    exact h i s hs
 ·rw[ai h7]
  intro i s hs;show s.Is (if i=f.n.toNat then(x.s i).fault f else x.s i)
  cases e:m[f.n.toNat]? with
  |none=>
   rw[e]at hs;have hi:i≠f.n.toNat:=λhi=>by rw[<-hi,hs]at e;cases e
   rw[ai hi];exact h i s hs
  |some s0=>
   rw[e]at hs;by_cases hi:i=f.n.toNat
   ·subst hi
    rw[au rfl];simp only at hs;rw[dZ (fJ.1 e).1]at hs
    cases hs
    exact(h _ _ e).strike f (ho.s _)
   ·simp only at hs
    rw[dU (dH hi)]at hs;rw[ai hi];exact h i s hs
theorem jU.strikes{fl:List Ft}{m:List Sd}{x:Air}(h:jU m x)(ho:x.Ok)(hf:∀f∈fl,iK f.d/\f.d.length<=24):
  jU (fl.foldl (λm f=>kS f m) m) (fl.foldl (λx f=>x.fault f) x)/\(fl.foldl (λx f=>x.fault f) x).Ok:=by
 induction fl generalizing m x with
 |nil=>exact⟨h,ho⟩
 |cons f fl ih=>
  obtain⟨h1,h2⟩:=hf f (List.mem_cons_self ..);exact ih (h.strike f ho) (ho.fault h1 h2) λg hg=>hf g (aT _ hg)
def Sd.row(s:Sd)(k:Nat):Int:=if k<s.n then s.q k else 0
def Db.row(x:Db)(k:Nat):Int:=if k<rn x.b then rq x.b k else 0
theorem Sd.Is.row{s:Sd}{x:Db}(h:s.Is x)(k:Nat):s.row k=x.row k:=by
 unfold Sd.row Db.row;rw[<-h.n]
 split
 ·exact h.q k (by assumption)
 ·rfl
theorem Sd.Is.sends{s:Sd}{x:Db}(h:s.Is x):decide (0<s.n)=decide (0<x.b.length):=by
 have hn:=h.n;unfold rn at hn;rw[decide_eq_decide];omega
def jw(f:Nat->Nat):Nat->Nat
 |0=>0
 |k+1=>max (jw f k) (f k)
def iU(f:Nat->Nat->Int)(j:Nat):Nat->Int
 |0=>0
 |k+1=>iU f j k+f k j
theorem Pb{f g:Nat->Nat}{k:Nat}(h:∀i,i<k->f i=g i):jw f k=jw g k:=by
 induction k with
 |zero=>rfl
 |succ k ih=>unfold jw;rw[ih λi hi=>h i (by omega),h k (by omega)]
theorem Pf{f g:Nat->Nat->Int}{j k:Nat}(h:∀i,i<k->f i j=g i j):iU f j k=iU g j k:=by
 induction k with
 |zero=>rfl
 |succ k ih=>unfold iU;rw[ih λi hi=>h i (by omega),h k (by omega)]
theorem tX{f:Nat->Nat->Int}{j k:Nat}(h:∀i,i<k->(f i j).natAbs<=1):(iU f j k).natAbs<=k:=by
 induction k with
 |zero=>exact aR _
 |succ k ih=>
  have h1:=ih λi hi=>h i (by omega);have h2:=h k (by omega);unfold iU;omega
theorem wZ{n:Nat->Nat}{f:Nat->Nat->Int}{j k:Nat}(h:∀i,n i<=j->f i j=0)(hj:jw n k<=j):iU f j k=0:=by
 induction k with
 |zero=>rfl
 |succ k ih=>
  unfold jw at hj;unfold iU;rw[ih (by omega),h k (by omega)]
  rfl
structure ChR where
 n:Nat
 q:Nat->Int
 p:Int
def chan(N:Nat)(n:Nat->Nat)(r:Nat->Nat->Int)(first pass:Int)(bl lk:Bool):ChR:=
 if bl then⟨0,λ_=>0,-1⟩
 else if lk then⟨jw n N,λj=>iU r j N,first⟩
 else if pass<0 then⟨0,λ_=>0,-1⟩
 else⟨n pass.toNat,r pass.toNat,pass⟩
theorem Pg{N:Nat}{n n':Nat->Nat}{r r':Nat->Nat->Int}{first pass:Int}{bl lk:Bool}(hn:∀i,i<N->n i=n' i)(hr:∀i,i<N->r i=r' i)(hp:pass<0\/pass.toNat<N):chan N n r first pass bl lk=chan N n' r' first pass bl lk:=by
 unfold chan;rw[Pb hn,show(λj=>iU r j N)=λj=>iU r' j N from funext λj=>Pf λi hi=>by rw[hr i hi]];by_cases h:pass<0
 ·simp only[au h]
 ·have hp:=hp.resolve_left h
  rw[hn _ hp,hr _ hp]
theorem Db.tV(x:Db)(k:Nat):(x.row k).natAbs<=1:=by
 unfold Db.row rq lv;simp only[dG]
 split
 ·split<;>decide
 ·decide
theorem Sd.Is.start(l:List Int)(a:Int):Sd.Is ⟨rn l,rq l,a,false⟩ ⟨l.take 50,a,false⟩:=by
 have hn:rn l=rn (l.take 50):=by unfold rn;rw[cQ];omega
 refine⟨hn,λk hk=>?_,rfl,rfl⟩;have hk:k<rn l:=hk;have h8:k / 8<50:=by unfold rn at hk;omega
 have eg:(l.take 50).getD (k / 8) 0=l.getD (k / 8) 0:=by
  rw[ay,List.getElem?_take_of_lt h8,<-ay]
 show(if jX (l.getD (k / 8) 0) (k%8)=true then(1:Int)else -1)=(if jX ((l.take 50).getD (k / 8) 0) (k%8)=true then(1:Int)else -1);rw[eg]
def Air.start(bs:Nat->List Int)(a:Nat->Int):Air:=⟨λi=>⟨(bs i).take 50,a i,false⟩,λ_=>false,λ_=>false⟩
theorem jU.start(N:Nat)(bs:Nat->List Int)(a:Nat->Int):jU ((List.range N).map λi=>⟨rn (bs i),rq (bs i),a i,false⟩) (Air.start bs a):=by
 intro i s hs;rw[dF]at hs;rcases Nat.lt_or_ge i N with hi|hi
 ·rw[bW hi]at hs
  cases hs
  exact Sd.Is.start _ _
 ·rw[aY (by rw[dW];exact hi)]at hs
  cases hs
theorem Air.Ok.start{bs:Nat->List Int}(a:Nat->Int)(h:∀i,iK (bs i)):(Air.start bs a).Ok:=⟨λi=>⟨λx hx=>h i x (bM hx),by show((bs i).take 50).length<=50;rw[cQ];omega⟩⟩
theorem Air.Ph(f:Ft)(x:Air)(i:Nat):(x.fault f).bl i=(x.bl i||decide (f.k=4/\f.n=(i:Int))):=by
 unfold Air.fault;by_cases h4:f.k=4
 ·simp[h4]
 ·rw[ai h4]
  split<;>simp[h4]
theorem Air.Pj(f:Ft)(x:Air)(i:Nat):(x.fault f).lk i=(x.lk i||decide (f.k=7/\f.n=(i:Int))):=by
 unfold Air.fault;by_cases h4:f.k=4
 ·simp[h4]
 ·rw[ai h4]
  by_cases h7:f.k=7
  ·simp[h7]
  ·simp[h7]
theorem Air.Pk(fl:List Ft)(x:Air)(i:Nat):(fl.foldl (λx f=>x.fault f) x).bl i=(x.bl i||fl.any λf=>decide (f.k=4/\f.n=(i:Int))):=by
 induction fl generalizing x with
 |nil=>simp
 |cons f fl ih=>rw[dI,ih,Air.Ph,List.any_cons,Bool.or_assoc]
theorem Air.Pm(fl:List Ft)(x:Air)(i:Nat):(fl.foldl (λx f=>x.fault f) x).lk i=(x.lk i||fl.any λf=>decide (f.k=7/\f.n=(i:Int))):=by
 induction fl generalizing x with
 |nil=>simp
 |cons f fl ih=>rw[dI,ih,Air.Pj,List.any_cons,Bool.or_assoc]
theorem Db.Pn(f:Ft)(x:Db)(h:-1000<=f.a/\f.a<=1000):x.at_-1000<=(x.fault f).at_/\(x.fault f).at_<=x.at_+1000:=by
 unfold Db.fault
 repeat' split
 all_goals first|omega|(simp only;omega)
theorem Air.vQ(fl:List Ft)(x:Air)(i:Nat)(hf:∀f∈fl,-1000<=f.a/\f.a<=1000):(x.s i).at_-1000*(fl.length:Int)<=((fl.foldl (λx f=>x.fault f) x).s i).at_/\((fl.foldl (λx f=>x.fault f) x).s i).at_<=(x.s i).at_+1000*(fl.length:Int):=by
 induction fl generalizing x with
 |nil=>simp
 |cons f fl ih=>
  have h1:=ih (x.fault f) λg hg=>hf g (aT _ hg);have h2:=Db.Pn f (x.s i) (hf f (List.mem_cons_self ..));have h3:((x.fault f).s i).at_=(x.s i).at_\/((x.fault f).s i).at_=((x.s i).fault f).at_:=by
   unfold Air.fault
   split
   ·exact .inl rfl
   split
   ·exact .inl rfl
   ·show(if i=f.n.toNat then(x.s i).fault f else x.s i).at_=_\/(if i=f.n.toNat then(x.s i).fault f else x.s i).at_=_
    split
    ·exact .inr rfl
    ·exact .inl rfl
  rw[dI,dM];omega
theorem jU.sF_{m:List Sd}{x:Air}(h:jU m x)(i:Nat)(hi:i<m.length):sF m i=decide (0<(x.s i).b.length):=by
 have e:m[i]?=some m[i]:=aP hi;unfold sF;rw[e];exact(h i _ e).sends
theorem jU.sA_{m:List Sd}{x:Air}(h:jU m x)(i:Nat)(hi:i<m.length):sA m i=(x.s i).at_:=by
 have e:m[i]?=some m[i]:=aP hi;unfold sA;rw[e];exact(h i _ e).a
def mN(m:List Sd)(i:Nat):Nat:=match m[i]? with
 |some s=>s.n
 |none=>0
def mR(m:List Sd)(i:Nat):Nat->Int:=match m[i]? with
 |some s=>s.row
 |none=>λ_=>0
def mD(m:List Sd)(i:Nat):Bool:=match m[i]? with
 |some s=>s.df
 |none=>false
theorem jU.mN_{m:List Sd}{x:Air}(h:jU m x)(i:Nat)(hi:i<m.length):mN m i=rn (x.s i).b:=by
 have e:m[i]?=some m[i]:=aP hi;unfold mN;rw[e];exact(h i _ e).n
theorem jU.mR_{m:List Sd}{x:Air}(h:jU m x)(i:Nat)(hi:i<m.length):mR m i=(x.s i).row:=by
 have e:m[i]?=some m[i]:=aP hi;unfold mR;rw[e];exact funext (h i _ e).row
theorem jU.mD_{m:List Sd}{x:Air}(h:jU m x)(i:Nat)(hi:i<m.length):mD m i=(x.s i).df:=by
 have e:m[i]?=some m[i]:=aP hi;unfold mD;rw[e];exact(h i _ e).d
theorem jU.EL{m:List Sd}{x:Air}(h:jU m x)(first pass:Int)(bl lk:Bool)(hp:pass<0\/pass.toNat<m.length):chan m.length (mN m) (mR m) first pass bl lk=chan m.length (λi=>rn (x.s i).b) (λi=>(x.s i).row) first pass bl lk:=
 Pg (λi hi=>h.mN_ i hi) (λi hi=>h.mR_ i hi) hp
end
section
open Go.RowKit
def jC(V:Nat->Value)(x:Air):Array Value:=#[V 0,V 1,V 2,V 3,V 4,V 5,V 6,V 7,↑(x.s 0).at_,↑(x.s 1).at_,↑(x.s 2).at_,↑(x.s 3).at_,↑(x.s 4).at_,↑(x.s 5).at_,↑(x.s 6).at_,↑(x.s 7).at_,↑(x.s 0).df,↑(x.s 1).df,↑(x.s 2).df,↑(x.s 3).df,↑(x.s 4).df,↑(x.s 5).df,↑(x.s 6).df,↑(x.s 7).df,↑(x.bl 0),↑(x.bl 1),↑(x.lk 0),↑(x.lk 1)]
theorem nN(V:Nat->Value)(x:Air)(k:Nat)(hk:k<8):(jC V x)[k]?=some (V k):=by
 rcases(by omega:k=0\/k=1\/k=2\/k=3\/k=4\/k=5\/k=6\/k=7)with rfl|rfl|rfl|rfl|rfl|rfl|rfl|rfl<;>rfl
theorem nA(V:Nat->Value)(x:Air)(k:Nat)(hk:k<8):(jC V x)[8+k]?=some ↑(x.s k).at_:=by
 rcases(by omega:k=0\/k=1\/k=2\/k=3\/k=4\/k=5\/k=6\/k=7)with rfl|rfl|rfl|rfl|rfl|rfl|rfl|rfl<;>rfl
theorem tQ(V:Nat->Value)(x:Air)(k:Nat)(hk:k<8):(jC V x)[16+k]?=some ↑(x.s k).df:=by
 rcases(by omega:k=0\/k=1\/k=2\/k=3\/k=4\/k=5\/k=6\/k=7)with rfl|rfl|rfl|rfl|rfl|rfl|rfl|rfl<;>rfl
theorem wU(V:Nat->Value)(x:Air)(k:Nat)(hk:k<2):(jC V x)[24+k]?=some ↑(x.bl k):=by
 rcases(by omega:k=0\/k=1)with rfl|rfl<;>rfl
theorem wV(V:Nat->Value)(x:Air)(k:Nat)(hk:k<2):(jC V x)[26+k]?=some ↑(x.lk k):=by
 rcases(by omega:k=0\/k=1)with rfl|rfl<;>rfl
def upV{α:Type}(V:Nat->α)(k:Nat)(u:α)(i:Nat):α:=if i=k then u else V i
theorem qY{V V':Nat->Value}{x x':Air}(h1:∀i,i<8->V i=V' i)(h2:∀i,i<8->(x.s i).at_=(x'.s i).at_)(h3:∀i,i<8->(x.s i).df=(x'.s i).df)(h4:∀i,i<2->x.bl i=x'.bl i)(h5:∀i,i<2->x.lk i=x'.lk i):jC V x=jC V' x':=by
 unfold jC;rw[h1 0 (by omega),h1 1 (by omega),h1 2 (by omega),h1 3 (by omega),h1 4 (by omega),h1 5 (by omega),h1 6 (by omega),h1 7 (by omega),h2 0 (by omega),h2 1 (by omega),h2 2 (by omega),h2 3 (by omega),h2 4 (by omega),h2 5 (by omega),h2 6 (by omega),h2 7 (by omega),h3 0 (by omega),h3 1 (by omega),h3 2 (by omega),h3 3 (by omega),h3 4 (by omega),h3 5 (by omega),h3 6 (by omega),h3 7 (by omega),h4 0 (by omega),h4 1 (by omega),h5 0 (by omega),h5 1 (by omega)]
theorem Dn(V:Nat->Value)(x:Air)(k:Nat)(hk:k<8)(u:Value):(jC V x).setIfInBounds k u=jC (upV V k u) x:=by
 rcases(by omega:k=0\/k=1\/k=2\/k=3\/k=4\/k=5\/k=6\/k=7)with rfl|rfl|rfl|rfl|rfl|rfl|rfl|rfl<;>rfl
theorem Dp(V:Nat->Value)(x:Air)(k:Nat)(hk:k<8)(a:Int):(jC V x).setIfInBounds (8+k) ↑a=jC V {x with s:=upV x.s k {x.s k with at_:=a}}:=by
 rcases(by omega:k=0\/k=1\/k=2\/k=3\/k=4\/k=5\/k=6\/k=7)with rfl|rfl|rfl|rfl|rfl|rfl|rfl|rfl<;>rfl
theorem MZ(V:Nat->Value)(x:Air)(k:Nat)(hk:k<8)(a:Bool):(jC V x).setIfInBounds (16+k) ↑a=jC V {x with s:=upV x.s k {x.s k with df:=a}}:=by
 rcases(by omega:k=0\/k=1\/k=2\/k=3\/k=4\/k=5\/k=6\/k=7)with rfl|rfl|rfl|rfl|rfl|rfl|rfl|rfl<;>rfl
theorem M0(V:Nat->Value)(x:Air)(k:Nat)(hk:k<2)(a:Bool):(jC V x).setIfInBounds (24+k) ↑a=jC V {x with bl:=upV x.bl k a}:=by
 rcases(by omega:k=0\/k=1)with rfl|rfl<;>rfl
theorem M4(V:Nat->Value)(x:Air)(k:Nat)(hk:k<2)(a:Bool):(jC V x).setIfInBounds (26+k) ↑a=jC V {x with lk:=upV x.lk k a}:=by
 rcases(by omega:k=0\/k=1)with rfl|rfl<;>rfl
structure jF(W:World)(ab:Nat)(V:Nat->Value)(x:Air):Prop where
 blk:Blk W ab (jC V x) 201
 dat:∀i,i<8->Dat [ab] W (V i) (x.s i).b
 ok:x.Ok
section
variable {W W':World}{ab:Nat}{V V':Nat->Value}{x x':Air}
theorem jF.lt(h:jF W ab V x):ab<W.heap.size:=h.blk.lt
theorem jF.below(h:jF W ab V x)(b:Below W W W'):jF W' ab V x:=⟨h.blk.below b h.lt,λi hi=>(h.dat i hi).keep (ku b),h.ok⟩
theorem jF.drew(h:jF W ab V x):jF W.drew ab V x:=h.below (ah _ W).drew
theorem jF.form(h:jF W ab V x){i:Nat}(hi:i<8):∃A c,V i=.slice A (x.s i).b.length c:=by
 obtain⟨A,c,e,-⟩:=(h.dat i hi).1.at_;exact⟨A,c,e⟩
theorem jF.wW(h:jF W ab V x){k:Nat}(hk:k<8){u:Value}{l:List Int}(hu:Dat [ab] W u l)(hx':x'={x with s:=upV x.s k {x.s k with b:=l}})(ok:x'.Ok):jF (W.setCell (ab,k) u) ab (upV V k u) x':=by
 have o:Only ab W (W.setCell (ab,k) u):=(aE _ _).set k u;refine⟨(h.blk.set k u).eq ?_,λi hi=>?_,ok⟩
 ·rw[Dn V x k hk u]
  subst hx';refine qY (λ_ _=>rfl) (λi _=>?_) (λi _=>?_) (λ_ _=>rfl) (λ_ _=>rfl)
  ·simp only[upV];split<;>simp_all
  ·simp only[upV];split<;>simp_all
 ·subst hx'
  simp only[upV];by_cases e:i=k
  ·rw[au e,au e]
   exact hu.keep (o.kp (by simp))
  ·rw[ai e,ai e]
   exact(h.dat i hi).keep (o.kp (by simp))
theorem jF.j5(h:jF W ab V x)(k:Nat)(u:Value)(e:(jC V x).setIfInBounds k u=jC V x')(hb:∀i,i<8->(x'.s i).b=(x.s i).b)(ok:x'.Ok):jF (W.setCell (ab,k) u) ab V x':=by
 have o:Only ab W (W.setCell (ab,k) u):=(aE _ _).set k u;exact⟨(h.blk.set k u).eq e,λi hi=>by rw[hb i hi];exact(h.dat i hi).keep (o.kp (by simp)),ok⟩
end
end
section
set_option maxRecDepth 100000
set_option maxHeartbeats 4000000
open Go.RowKit
theorem MU(a:Int)(k:Nat)(ha:0<=a/\a<256)(hk:k<8):bits BinOp.xor IntKind.u8 a (128 / 2^k)=((a.toNat^^^(128>>>k):Nat):Int):=by
 have key:∀x:Fin 256,∀i:Fin 8,bits BinOp.xor IntKind.u8 ((x.val:Nat):Int) (128 / 2^i.val)=((x.val^^^(128>>>i.val):Nat):Int):=by decide+kernel
 have h:=key ⟨a.toNat,by omega⟩ ⟨k,hk⟩;simp only at h
 rwa[fX ha.1]at h
theorem MV{w:World}{B:Nat}{v:Value}{l:List Int}(h:iJ w B v l)(h0:0<l.length):∃g c,v=.slice (some ⟨g,0,none⟩) l.length c/\B<=g/\g<w.heap.size:=by
 obtain⟨g,c,rfl,-⟩:=World.ownsRow.form h h0;exact⟨g,c,rfl,(h.lt g rfl).1,(h.lt g rfl).2⟩
theorem MX(v:Value)(l:List Int)(a:Int)(w:World)(h:iI w w v l)(hl:iK l)(h50:l.length<=50)(ha:-1000<=a/\a<=1000):
  Calls Tryz.prog 174 #[v,↑a] w λe w'=>∃u,e=.returned u/\iI w' w' u (kV l a)/\(kV l a≠[]->∀b,u.ownBlock=some b->w.heap.size<=b)/\Below w w w':=by
 obtain⟨A,c,rfl,v1,v2,v3,v4⟩:=h.at_;unfold maxLen at v2;have H:=af h;by_cases h0:l=[]
 ·subst h0
  have e0:kV [] a=[]:=by unfold kV;rw[au rfl]
  rw[e0];clear h v3 v4 hl;simp only[fw]at H v1 ⊢
  go_enter Tryz.func174,Tryz.ntmps174
  go_wp2;go_ret;exact⟨_,rfl,H.o,λh=>absurd rfl h,ah _ _⟩
 have hp:0<l.length:=aX.2 h0;have hgB:kV l a=l.set ((max a (-a)).toNat%(8*l.length) / 8) (((l.getD ((max a (-a)).toNat%(8*l.length) / 8) 0).toNat^^^(128>>>((max a (-a)).toNat%(8*l.length)%8)):Nat):Int):=by unfold kV;rw[ai h0]
 have hT:(max a (-a)).toNat%(8*l.length)<8*l.length:=Nat.mod_lt _ (by omega);have hme:∀X:Int,X=max a (-a)->Int.tmod X (8*(l.length:Nat))=(((max a (-a)).toNat%(8*l.length):Nat):Int):=by
  rintro X rfl;rw[dA (by omega),Int.natCast_emod,fX (by omega)];simp
 generalize(max a (-a)).toNat%(8*l.length)=T at *;have HB:=af hgB;have hby:=hl.getD (T / 8);have hx:=af (MU (l.getD (T / 8) 0) (T%8) hby (Nat.mod_lt _ (by decide)));have hem:Hid (iJ (w.alloc (.cells #[] 5)) w (.slice (some (w,0)) 0 0) []):=af (mL _ _ rfl _ _ lr rfl);have hvs:Hid (iI (w.alloc (.cells #[] 5)) w (.slice A l.length c) l):=af (h.alloc _);have q0:((l.length:Int)==0)=false:=by rw[aB];omega
 have w8:IntKind.i64.wrap (8*(l.length:Nat))=8*(l.length:Nat):=aO _ (by omega);have wn:IntKind.i64.wrap (-a)=-a:=aO _ (by omega);have n0:¬(8*(l.length:Nat):Int)=0:=by omega
 have dv:Int.tdiv (T:Nat) 8=((T / 8:Nat):Int):=by rw[Int.tdiv_eq_ediv_of_nonneg (by omega)];omega
 have md:Int.tmod (T:Nat) 8=((T%8:Nat):Int):=by rw[dA (by omega)];omega
 have uw:IntKind.u64.wrap ((T%8:Nat):Int)=((T%8:Nat):Int):=by rw[IntKind.wrap_u64];omega
 have i0:((T / 8:Nat):Int)<(l.length:Nat):=by omega
 clear hgB h v3 v4 hl H;have TB:=af hme;have fin:∀X:Int,X=max a (-a)->True:=λ_ _=>trivial;clear fin;by_cases hneg:a<0
 all_goals
  first
   |have q1:decide (a<0)=true:=av hneg
   |have q1:decide (a<0)=false:=aj hneg
  have ht:=hme _ (by omega:(if a<0 then -a else a)=max a (-a))
  first|rw[au hneg]at ht|rw[ai hneg]at ht
  clear hme
  go_enter Tryz.func174,Tryz.ntmps174
  go_wp2_with (at_builtin;go_loud (refine AE _ rfl (.tmp 15) (.tmp 16) 41 rfl w kx Tryz.underlying41 _ [] hem.o rfl w _ l rfl hvs.o (by simp) (by simp;omega) ?_));intro v1 w1 ho1 hx1;have ho2:iJ w1 w v1 l:=by simpa using ho1
  have hb1:Below w w w1:=(((ah w w).alloc lr (.cells #[] 5))).trans (hx1.toBelow (B:=w.heap.size) (by simp) (λj hj=>by simp[Value.ownBlock]at hj;omega));obtain⟨g,cc,rfl,hg1,hg2⟩:=MV ho2 hp;have x0:=iP.cell ho2 (k:=T / 8) (by omega);have f0:=iP.frozen ho2 (T / 8);unfold bv at x0;have hset:=af (iP.j5 ho2 (T / 8) (.int .u8 ((((l.getD (T / 8) 0).toNat^^^(128>>>(T%8)):Nat):Int))) (V':=bv (l.set (T / 8) (((l.getD (T / 8) 0).toNat^^^(128>>>(T%8)):Nat):Int))) (by
   unfold bv;rw[ay,dZ (by omega)]
   rfl) (λi _ hne=>by
   unfold bv;rw[ay,dU (dH hne),<-ay]))
  have hbs:=af (hb1.setCell (p:=(g,T / 8)) hg1 (.int .u8 ((((l.getD (T / 8) 0).toNat^^^(128>>>(T%8)):Nat):Int))));clear ho1 ho2 hx1 hb1 hem hvs;rw[<-hx.o]at hset hbs;generalize l.getD (T / 8) 0=y at *;go_wp2_with fail
  all_goals
   have hb2:=hbs.o;have ho3:=hset.o;go_ret;refine⟨_,rfl,?_,λ_ b e=>?_,hb2⟩
   ·rw[HB.o,<-hx.o]
    exact(show iJ _ w _ (l.set (T / 8) _) by unfold iJ;rw[List.length_set];exact ho3).sees
   ·have e:g=b:=by simpa[Value.ownBlock]using e
    omega
end
end Go.Proofs.YteadkhigkmijiaaGreat
