/- Texts SgA2, SgB2, SrG, SrH, SrI in one. -/
import Derived.Deep.CutBlock
import Derived.Deep.MidRow
import Derived.Test.YteadkhigkmijiaaGreatPD1
import Derived.Test.YteadkhigkmijiaaGreatPD8
import Derived.Test.YteadkhigkmijiaaGreatPD10
import Derived.Test.YteadkhigkmijiaaGreatPD17
import Derived.Test.YteadkhigkmijiaaGreatPD23
import Derived.Test.YteadkhigkmijiaaGreatPD24
import Derived.Test.YteadkhigkmijiaaGreatPD27
set_option linter.all false
namespace Go.Proofs.YteadkhigkmijiaaGreat
section
set_option maxRecDepth 100000
set_option maxHeartbeats 1000000
open Go.RowKit
open Clk (avg)
def jk(c:Cx 21)(W:World)(g:Nat)(s:G):Prop:=PB c W g (grd s)/\s.l.length<=4
section
variable {c:Cx 21}{W W':World}{g:Nat}{s:G}
theorem jk.below(h:jk c W g s){B:Nat}(hb:Below B W W')(hg:g<B):jk c W' g s:=⟨h.1.below hb hg,h.2⟩
theorem jk.lt(h:jk c W g s):g<W.heap.size:=h.1.lt
theorem jk.clk(h:jk c W g s):W.cell? (g,31)=some ↑s.lm/\W.cell? (g,32)=some ↑(s.l.getD 0 0)/\W.cell? (g,33)=some ↑(s.l.getD 1 0)/\W.cell? (g,34)=some ↑(s.l.getD 2 0)/\W.cell? (g,35)=some ↑(s.l.getD 3 0)/\W.cell? (g,36)=some ↑(s.l.length:Nat):=
 ⟨h.1.cell 10 rfl,h.1.cell 11 rfl,h.1.cell 12 rfl,h.1.cell 13 rfl,h.1.cell 14 rfl,h.1.cell 15 rfl⟩
theorem jk.frz(h:jk c W g s):W.frozen? (g,31)=false/\W.frozen? (g,32)=false/\W.frozen? (g,33)=false/\W.frozen? (g,34)=false/\W.frozen? (g,35)=false/\W.frozen? (g,36)=false:=
 ⟨h.1.frozen 31,h.1.frozen 32,h.1.frozen 33,h.1.frozen 34,h.1.frozen 35,h.1.frozen 36⟩
end
theorem EN(c:Cx 21)(g:Nat)(s:G)(w:World)(h:jk c w g s):
  Calls Tryz.prog 89 #[↑(g,31)] w λe w'=>e=.returned (.tuple #[])/\jk c w' g {s with l:=[]}/\Only g w w':=by
 obtain⟨c0,c1,c2,c3,c4,c5⟩:=h.clk;obtain⟨f0,f1,f2,f3,f4,f5⟩:=h.frz;have hB:Hid (PB c ((((((w.setCell (g,31) ↑s.lm).setCell (g,32) ↑(0:Int)).setCell (g,33) ↑(0:Int)).setCell (g,34) ↑(0:Int)).setCell (g,35) ↑(0:Int)).setCell (g,36) ↑(0:Int)) g (grd {s with l:=[]})):=af ((((((h.1.set 10 (by simp[grd]) _).set 11 (by simp[grd]) _).set 12 (by simp[grd]) _).set 13 (by simp[grd]) _).set 14 (by simp[grd]) _).set 15 (by simp[grd]) _);clear h
 go_enter Tryz.func89,Tryz.ntmps89
 go_wp2;exact aD (ax (by rfl) _ _ _) rfl ⟨rfl,⟨hB.o,by simp⟩,((((((aE g w).set 31 _).set 32 _).set 33 _).set 34 _).set 35 _).set 36 _⟩
theorem Pz(c:Cx 21)(g:Nat)(s:G)(n:Int)(w:World)(h:jk c w g s)(h4:s.l.length=4):
  Calls Tryz.prog 108 #[↑(g,31),↑n] w λe w'=>e=.returned (.tuple #[])/\jk c w' g {s with l:=s.l.drop 1++[n]}/\Only g w w':=by
 obtain⟨c0,c1,c2,c3,c4,c5⟩:=h.clk;obtain⟨f0,f1,f2,f3,f4,f5⟩:=h.frz;have c5':w.cell? (g,36)=some ↑(4:Int):=by rw[c5,h4];rfl
 clear c5;have hB:Hid (PB c ((((((w.setCell (g,32) ↑(s.l.getD 1 0)).setCell (g,33) ↑(s.l.getD 2 0)).setCell (g,34) ↑(s.l.getD 3 0)).setCell (g,36) ↑(3:Int)).setCell (g,35) ↑n).setCell (g,36) ↑(4:Int)).drew.drew g (grd {s with l:=s.l.drop 1++[n]})):=af (((((((h.1.set 11 (by simp[grd]) ↑(s.l.getD 1 0)).set 12 (by simp[grd]) ↑(s.l.getD 2 0)).set 13 (by simp[grd]) ↑(s.l.getD 3 0)).set 15 (by simp[grd]) ↑(3:Int)).set 14 (by simp[grd]) ↑n).set 15 (by simp[grd]) ↑(4:Int)).drew.drew.eq (BI s n h4));have H4:=af h4;clear h h4;generalize s.l.getD 0 0=a0 at *;generalize s.l.getD 1 0=a1 at *;generalize s.l.getD 2 0=a2 at *;generalize s.l.getD 3 0=a3 at *;have hrun:=run_copy_cells (P:=Tryz.prog) w.drew 33 33 3 3 g 32 4 4 (g,33) 3 3 [↑a1,↑a2,↑a3] Tryz.underlying33 (by kernel_rfl) (by simp) (λj v hj=>by
  match j,hj with
  |0,hj=>simp at hj;subst hj;exact c2
  |1,hj=>simp at hj;subst hj;exact c3
  |2,hj=>simp at hj;subst hj;exact c4
  |j+3,hj=>simp at hj) (λj hj=>by
  match j,hj with
  |0,_=>show(w.cell? _).isSome=true;rw[c1];rfl
  |1,_=>show(w.cell? _).isSome=true;rw[c2];rfl
  |2,_=>show(w.cell? _).isSome=true;rw[c3];rfl
  |j+3,hj=>simp at hj;omega) (λj hj=>by
  match j,hj with
  |0,_=>exact f1
  |1,_=>exact f2
  |2,_=>exact f3
  |j+3,hj=>simp at hj;omega) (by simp[Value.oneCell'])
 simp[World.setCells]at hrun
 go_enter Tryz.func108,Tryz.ntmps108
 go_wp2
 go_region
 go_wp2
 go_region
 go_wp2;exact aD (ax (by rfl) _ _ _) rfl ⟨rfl,⟨hB.o,by have:=H4.o;simp;omega⟩,(((((((aE g w).set 32 _).set 33 _).set 34 _).set 36 _).set 35 _).set 36 _).drew.drew⟩
theorem PD(c:Cx 21)(g:Nat)(s:G)(n:Int)(w:World)(h:jk c w g s)(h4:s.l.length<4):
  Calls Tryz.prog 108 #[↑(g,31),↑n] w λe w'=>e=.returned (.tuple #[])/\jk c w' g {s with l:=s.l++[n]}/\Only g w w':=by
 obtain⟨c0,c1,c2,c3,c4,c5⟩:=h.clk;obtain⟨f0,f1,f2,f3,f4,f5⟩:=h.frz;have q4:((s.l.length:Int)==4)=false:=by rw[aB];omega
 have hB:Hid (PB c ((w.setCell (g,32+s.l.length) ↑n).setCell (g,36) ↑((s.l.length:Int)+1:Int)).drew g (grd {s with l:=s.l++[n]})):=af (((PBs (p':=32+s.l.length) (h.1.set (11+s.l.length) (by have:(grd s).size=20:=rfl;omega) ↑n) (by omega) rfl).set 15 (by simp[grd]) ↑((s.l.length:Int)+1:Int)).drew.eq (BJ s n _ rfl h4));have ck:∃x,w.cell? (g,32+s.l.length)=some x:=by
  rcases(by omega:s.l.length=0\/s.l.length=1\/s.l.length=2\/s.l.length=3)with e|e|e|e<;>rw[e]
  ·exact⟨_,c1⟩
  ·exact⟨_,c2⟩
  ·exact⟨_,c3⟩
  ·exact⟨_,c4⟩
 have fk:w.frozen? (g,32+s.l.length)=false:=h.1.frozen _;obtain⟨x,ck⟩:=ck;clear h c0 c1 c2 c3 c4 f0 f1 f2 f3 f4
 go_enter Tryz.func108,Tryz.ntmps108
 go_wp2
 go_region
 go_wp2;exact aD (ax (by rfl) _ _ _) rfl ⟨rfl,⟨hB.o,by simp;omega⟩,(((aE g w).set (32+s.l.length) _).set 36 _).drew⟩
theorem PE(c:Cx 21)(g:Nat)(s:G)(n:Int)(w:World)(h:jk c w g s):
  Calls Tryz.prog 108 #[↑(g,31),↑n] w λe w'=>e=.returned (.tuple #[])/\jk c w' g {s with l:=iT s.l n}/\Only g w w':=by
 unfold iT;by_cases h4:s.l.length=4
 ·rw[au h4];exact Pz c g s n w h h4
 ·rw[ai h4];exact PD c g s n w h (by have:=h.2;omega)
theorem jk.sees{c:Cx 21}{W:World}{g:Nat}{s:G}(h:jk c W g s):ja W W (.slice (some (g,32)) s.l.length 4) s.l:=by
 refine⟨some (g,32),4,rfl,h.2,by simp[maxLen],λ_=>⟨g,32,rfl,h.1.lt,λk hk=>?_⟩,λh=>by cases h⟩;obtain⟨-,c1,c2,c3,c4,-⟩:=h.clk;have:=h.2;rcases(by omega:k=0\/k=1\/k=2\/k=3)with rfl|rfl|rfl|rfl
 ·exact c1
 ·exact c2
 ·exact c3
 ·exact c4
theorem PF(c:Cx 21)(g:Nat)(s:G)(w:World)(h:jk c w g s)(hs:small s.l)(hm:0<=s.lm/\s.lm<=9223372036854775807):
  Calls Tryz.prog 202 #[↑(g,31)] w λe w'=>e=.returned (.tuple #[↑(jb s.lm s.l),↑(wiB s.lm (avg s.l))])/\Below w w w':=by
 have hT:Hid (∀W,Below w w W->jk c W g s):=af (λW hW=>h.below hW h.1.lt);have A1:=λW(hW:Below w w W)=>af (uX s.l _ W W lr (hT.o W hW).sees hs h.2);have R:=λn W=>af (uU s.lm n W hm);have hl4:=h.2;unfold jb;generalize avg s.l=r at *;have R:=R r;generalize hq:wiB s.lm r=q at *;clear hq;obtain⟨c0,-,-,-,-,c5⟩:=h.clk;have HC:Hid (∀W,Below w w W->W.cell? (g,31)=some ↑s.lm/\W.cell? (g,36)=some ↑(s.l.length:Nat)):=af (λW hW=>by
  obtain⟨c0,-,-,-,-,c5⟩:=(hT.o W hW).clk;exact⟨c0,c5⟩)
 have hb0:=ah w w;have n1:(0:Int)<=(s.l.length:Nat):=by omega
 have n2:((s.l.length:Nat):Int)<=4:=by omega
 clear h hs hm
 go_enter Tryz.func202,Tryz.ntmps202
 go_wp2
 go_region_held3 (λW=>W.cell? (g,31)=some ↑s.lm/\W.cell? (g,36)=some ↑(s.l.length:Nat))
  ((refine HC.o _ ?_;first|exact hb0|exact hb0.drew|exact hb1))
  (first
   |((go_at_call 226;with_reducible refine(A1 _ ?_).o.mono ?_);(first|exact hb0|exact hb0.drew);rintro e w1 ⟨rfl,hb⟩;have hb1:=hb0.drew.trans (hb.mono hb0.size))
   |fail)
 clear c0 c5;obtain⟨c0,c5⟩:=HC.o w1 hb1
 cases q
 ·go_wp2_with fail
  refine(R w1).o.mono ?_;rintro e w2 ⟨rfl,rfl⟩;go_wp2;go_ret2;exact⟨rfl,hb1⟩
 ·go_wp2_with fail
  refine(R w1).o.mono ?_;rintro e w2 ⟨rfl,rfl⟩;go_wp2;go_ret2;exact⟨rfl,hb1⟩
theorem uH(c:Cx 21)(g:Nat)(s:G)(w:World)(h:jk c w g s)(hs:s.slot<s.n)(hn:s.n<=8)(hsm:small s.l)(hm:0<=s.lm/\s.lm<=9223372036854775807)(jz:s.slot+1=s.n->time (s.now+jb s.lm s.l)):
  Calls Tryz.prog 221 #[↑(g,21)] w λe w'=>e=.returned (.tuple #[])/\jk c w' g s.on/\Only g w w':=by
 have c8:=PBa (h.1.cell 8 (x:=↑(s.n:Nat)) rfl) (show 21+8=29 from rfl);have c18:=PBa (h.1.cell 18 (x:=↑(s.slot:Nat)) rfl) (show 21+18=39 from rfl);have f18:=h.1.frozen 39;have z1:IntKind.i64.wrap ((s.slot:Int)+1)=(s.slot:Int)+1:=aO _ (by omega);by_cases hc:s.slot+1=s.n
 ·have z2:Int.tmod ((s.slot:Int)+1) (s.n:Int)=0:=by rw[show((s.slot:Int)+1)=(s.n:Int) by omega];simp
  have z3:¬(s.n:Int)=0:=by omega
  have H1:Hid (jk c (w.setCell (g,39) ↑(0:Int)).drew g {s with slot:=0}):=af ⟨((h.1.set 18 (by simp[grd]) ↑(0:Nat)).drew).eq (nL s 0),h.2⟩
  go_enter Tryz.func221,Tryz.ntmps221
  go_wp2
  go_region
  have hO:=af (((aE g w).set 39 ↑(0:Int)).drew);have xQ:=H1.o.1.cell 18 (x:=↑(0:Nat)) rfl;generalize hw1:(w.setCell (g,39) ↑(0:Int)).drew=w1 at *;have hT:=af (PF c g {s with slot:=0} w1 H1.o hsm hm);have T0:=af (jz hc);simp only at hT;generalize hv:jb s.lm s.l=v at *;generalize wiB s.lm (avg s.l)=q at *;go_wp2_with fail;refine hT.o.mono ?_;rintro e w2 ⟨rfl,hb2⟩;have H2:=af (H1.o.below hb2 H1.o.lt);have hO2:=af (hO.o.trans (iQ g hb2));have c16:=PBa (H2.o.1.cell 16 (x:=↑s.now) rfl) (show 21+16=37 from rfl);have f16:=H2.o.1.frozen 37;have z4:IntKind.i64.wrap (s.now+v)=s.now+v:=aO _ (by have:=T0.o;unfold time at this;omega);have H3:=af (show jk c (w2.setCell (g,37) ↑(s.now+v:Int)) g {s with slot:=0,now:=s.now+v}from⟨(H2.o.1.set 16 (by simp[grd]) ↑(s.now+v:Int)).eq (tj _ _),H2.o.2⟩);have hO3:=af (hO2.o.set 37 ↑(s.now+v:Int));generalize hw3:w2.setCell (g,37) ↑(s.now+v:Int)=w3 at *;go_wp2_with fail;refine(EN c g _ _ H3.o).mono ?_;rintro e w4 ⟨rfl,H4,hO4⟩;go_wp2;refine aD (ax (by rfl) _ _ _) rfl ⟨rfl,?_,hO3.o.trans hO4⟩;unfold G.on;rw[au hc,hv];exact H4
 ·have e1:((s.slot+1:Nat):Int)=(s.slot:Int)+1:=by omega
  have z2:Int.tmod ((s.slot:Int)+1) (s.n:Int)=(s.slot:Int)+1:=Int.tmod_eq_of_lt (by omega) (by omega);have z3:¬(s.n:Int)=0:=by omega
  have H1:Hid (jk c (w.setCell (g,39) ↑((s.slot:Int)+1:Int)).drew g {s with slot:=s.slot+1}):=af ⟨((h.1.set 18 (by simp[grd]) ↑((s.slot:Int)+1:Int)).drew).eq (by rw[<-e1];exact nL s (s.slot+1)),h.2⟩;have hO:=af (((aE g w).set 39 ↑((s.slot:Int)+1:Int)).drew);have z4:(((s.slot:Int)+1)==0)=false:=by rw[aB];omega
  go_enter Tryz.func221,Tryz.ntmps221
  go_wp2
  go_region
  go_wp2;refine aK (ax (by rfl) _ _ _) rfl ⟨rfl,?_,hO.o⟩;unfold G.on;rw[ai hc];exact H1.o
theorem PG(c:Cx 21)(g:Nat)(s:G)(at_:Int)(w:World)(h:jk c w g s)(hs:s.slot<s.n)(hn:s.n<=8)(hsm:small s.l)(hm:0<=s.lm/\s.lm<=9223372036854775807)
  (hat:time at_) (hnw:time s.now) (hd:s.sy s.slot=true->-1099511627776<=at_-s.now/\at_-s.now<=1099511627776) (jz:s.slot+1=s.n->time (s.now+jb s.lm (if s.sy s.slot then iT s.l (at_-s.now)else s.l))):
  Calls Tryz.prog 199 #[↑(g,21),↑at_] w λe w'=>e=.returned (.tuple #[])/\jk c w' g (s.heard at_)/\Only g w w':=by
 have f19:=h.1.frozen 40;have c19:=PBa (h.1.cell 19 (x:=↑(s.si:Nat)) rfl) (show 21+19=40 from rfl);have H1:Hid (jk c (w.setCell (g,40) ↑(0:Int)) g {s with si:=0}):=af ⟨(h.1.set 19 (by simp[grd]) ↑((0:Nat):Int)).eq (pR s 0),h.2⟩;have hO1:=af ((aE g w).set 40 ↑(0:Int));generalize hw1:w.setCell (g,40) ↑(0:Int)=w1 at *;have c18:=PBa (H1.o.1.cell 18 (x:=↑(s.slot:Nat)) rfl) (show 21+18=39 from rfl);have cs:=H1.o.1.cell s.slot (vR _ s.slot (by omega));simp only at cs;have hN:=af jz;have i1:(0:Int)<=(s.slot:Int):=by omega
 have i2:(s.slot:Int)<8:=by omega
 clear h jz;unfold G.heard
 cases hq:s.sy s.slot
 ·rw[hq]at hN cs
  go_enter Tryz.func199,Tryz.ntmps199
  go_wp2
  go_region
  have H2:jk c w1.drew g {s with si:=0}:=H1.o;go_wp2_with fail;refine(uH c g _ _ H2 hs hn hsm hm (λh=>by simpa using hN.o h)).mono ?_;rintro e w4 ⟨rfl,H4,hO4⟩;go_wp2;exact aD (ax (by rfl) _ _ _) rfl ⟨rfl,H4,hO1.o.drew.trans hO4⟩
 ·rw[hq]at hN cs
  have hLs:=λW=>af (BK at_ s.now W hat hnw);have hM:=λW(h:jk c W g {s with si:=0})=>af (PE c g _ (at_-s.now) W h);have hK:=af (hsm.iT (hd hq));have c16:=PBa (H1.o.1.cell 16 (x:=↑s.now) rfl) (show 21+16=37 from rfl);simp only at hM;generalize hl2:iT s.l (at_-s.now)=l2 at *;clear hd
  go_enter Tryz.func199,Tryz.ntmps199
  go_wp2
  go_region
  go_wp2
  go_region_with (first
   |(go_at_call 222;refine(hLs _).o.mono ?_;rintro e w2 ⟨rfl,rfl⟩)
   |(go_at_call 108;refine(hM w1.drew.drew H1.o).o.mono ?_;rintro e w2 ⟨rfl,H2,hO2⟩))
  go_wp2_with fail;refine(uH c g _ _ H2 hs hn hK.o hm (λh=>by simpa using hN.o h)).mono ?_;rintro e w4 ⟨rfl,H4,hO4⟩;go_wp2;exact aD (ax (by rfl) _ _ _) rfl ⟨rfl,H4,(hO1.o.drew.drew.trans hO2).trans hO4⟩
theorem PI(c:Cx 21)(g:Nat)(s:G)(w:World)(h:jk c w g s)(hs:s.slot<s.n)(hn:s.n<=8)(hsm:small s.l)(hm:0<=s.lm/\s.lm<=9223372036854775807)(hsi:s.si<=1000)
  (jz:s.slot+1=s.n->time (s.now+jb s.lm s.l)):
  Calls Tryz.prog 200 #[↑(g,21)] w λe w'=>e=.returned (.tuple #[])/\jk c w' g s.missed/\Only g w w':=by
 have f19:=h.1.frozen 40;have c19:=PBa (h.1.cell 19 (x:=↑(s.si:Nat)) rfl) (show 21+19=40 from rfl);have e1:((s.si+1:Nat):Int)=(s.si:Int)+1:=by omega
 have z1:IntKind.i64.wrap ((s.si:Int)+1)=(s.si:Int)+1:=aO _ (by omega);have z2:IntKind.i64.wrap (2*(s.n:Int))=2*(s.n:Int):=aO _ (by omega);have H1:Hid (jk c (w.setCell (g,40) ↑((s.si:Int)+1:Int)) g {s with si:=s.si+1}):=af ⟨(h.1.set 19 (by simp[grd]) ↑((s.si:Int)+1:Int)).eq (by rw[<-e1];exact pR s (s.si+1)),h.2⟩;have hO1:=af ((aE g w).set 40 ↑((s.si:Int)+1:Int));generalize hw1:w.setCell (g,40) ↑((s.si:Int)+1:Int)=w1 at *;have c8:=PBa (H1.o.1.cell 8 (x:=↑(s.n:Nat)) rfl) (show 21+8=29 from rfl);have d19:w1.cell? (g,40)=some ↑((s.si:Int)+1:Int):=by rw[<-e1];exact H1.o.1.cell 19 rfl
 have hN:=af jz;clear h jz;unfold G.missed;by_cases hq:s.si+1=2*s.n
 ·rw[au hq]
  have q1:((s.si:Int)+1==2*(s.n:Int))=true:=by rw[fW];omega
  have f17:=H1.o.1.frozen 38;have f18:=H1.o.1.frozen 39;have c17:=PBa (H1.o.1.cell 17 (x:=↑s.kn) rfl) (show 21+17=38 from rfl);have c18:=PBa (H1.o.1.cell 18 (x:=↑(s.slot:Nat)) rfl) (show 21+18=39 from rfl);have H2:Hid (jk c ((w1.drew.setCell (g,38) ↑false).setCell (g,39) ↑(0:Int)) g {s with si:=s.si+1,kn:=false,slot:=0}):=af ⟨((H1.o.1.drew.set 17 (by simp[grd]) ↑false).set 18 (by simp[grd]) ↑((0:Nat):Int)).eq (by rw[tq,nL]),H1.o.2⟩
  go_enter Tryz.func200,Tryz.ntmps200
  go_wp2
  go_region
  go_wp2;exact aK (ax (by rfl) _ _ _) rfl ⟨rfl,H2.o,(hO1.o.drew.set 38 _).set 39 _⟩
 ·rw[ai hq]
  have q1:((s.si:Int)+1==2*(s.n:Int))=false:=by rw[aB];omega
  go_enter Tryz.func200,Tryz.ntmps200
  go_wp2
  go_region
  have H2:jk c w1.drew g {s with si:=s.si+1}:=H1.o;go_wp2_with fail;refine(uH c g _ _ H2 hs hn hsm hm hN.o).mono ?_;rintro e w4 ⟨rfl,H4,hO4⟩;go_wp2;exact aD (ax (by rfl) _ _ _) rfl ⟨rfl,H4,hO1.o.drew.trans hO4⟩
end
section
set_option maxRecDepth 100000
set_option maxHeartbeats 4000000
open Go.RowKit
open Clk (avg)
open Fr (St F)
theorem PO(c:Cx 21)(g:Nat)(s:G)(v:Value)(l:List Int)(at_:Int)(w:World)(h:jk c w g s)(hn:s.n<=8)(hm:0<=s.lm/\s.lm<=9223372036854775807)(hv:iI w w v l)(hl:iK l)
  (_hat:time at_) (jz:time (at_+jb s.lm [])):
  Calls Tryz.prog 198 #[↑(g,21),v,↑at_] w λe w'=>e=.returned (.tuple #[])/\jk c w' g (s.mX l at_)/\Only g w w':=by
 have hD:=af (sS v l z0 w hv hl);have hts:=af (vS hl);unfold Dec stV z0 at hD;unfold G.mX tells;simp only at hD;have ez:(⟨0,0,0⟩:St)=z0:=rfl;rw[ez]at hD;generalize Fr.err l z0=er at *;generalize Fr.res l z0=R at *;obtain⟨k,⟨r,sl,m⟩,d⟩:=R;unfold frV at hD;simp only at hD hts ⊢;clear ez
 go_enter Tryz.func198,Tryz.ntmps198
 go_wp2_with fail;refine hD.o.mono ?_;rintro e w1 ⟨v1,rfl,ho,hb⟩;obtain⟨A1,n1,rfl,-⟩:=ho.sees.at_;have hB1:=(hb.alloc hb.size (.cells (aF k r sl m A1 (d.length) n1) 182));have H1:=h.below hB1 h.lt;have hO1:=iQ g hB1;have hX:=aJ w1 _ rfl (aF k r sl m A1 (d.length) n1) 182;have hgw:g<w1.heap.size:=aN h.lt hb.size;go_wp2_with fail;generalize hW1:w1.alloc (.cells (aF k r sl m A1 (d.length) n1) 182)=W1 at *;have x0:=hX.cell 0 (x:=↑k) rfl;have x2:=hX.cell 2 (x:=↑sl) rfl;have c8:=PBa (H1.1.cell 8 (x:=↑(s.n:Nat)) rfl) (show 21+8=29 from rfl);generalize w1.heap.size=b at *;clear ho hB1 hW1 hb hX hD hv;have HH:Hid (∀n,jk c (W1.drewN n) g s):=af λn=>⟨H1.1.drewN n,H1.2⟩;have HO:Hid (∀n,Only g w (W1.drewN n)):=af λn=>hO1.trans (iQ g (aC (ah _ W1) n));clear H1 hO1 h;by_cases p1:er=0
 ·subst p1
  obtain⟨s0,s8⟩:=hts.o rfl;by_cases p2:k=1
  ·subst p2
   go_quiet (fail)
   go_wp2;exact aK (ax (by rfl) _ _ _) rfl ⟨rfl,HH.o _,HO.o _⟩
  ·have q2:(k==1)=false:=by rw[aB];exact p2
   by_cases p3:sl<(s.n:Int)
   ·have q3:decide ((s.n:Int)<=sl)=false:=aj (by omega)
    have HX:Hid (∀n,(W1.drewN n).cell? (b,2)=some ↑sl):=af λn=>((aC (ah (b+1) W1) n).cell (p:=(b,2)) (cJ _)).trans x2
    go_quiet (fail)
    have H2:=HH.o nq;have hO2:=HO.o nq;have y2:=HX.o nq;clear HX HH HO x0 x2 c8;generalize W1.drewN nq=W2 at *;clear q3;have c16:=PBa (H2.1.cell 16 (x:=↑s.now) rfl) (show 21+16=37 from rfl);have c17:=PBa (H2.1.cell 17 (x:=↑s.kn) rfl) (show 21+17=38 from rfl);have c18:=PBa (H2.1.cell 18 (x:=↑(s.slot:Nat)) rfl) (show 21+18=39 from rfl);have c19:=PBa (H2.1.cell 19 (x:=↑(s.si:Nat)) rfl) (show 21+19=40 from rfl);have f16:=H2.1.frozen 37;have f17:=H2.1.frozen 38;have f18:=H2.1.frozen 39;have f19:=H2.1.frozen 40;have H2:=af H2;have hO2:=af hO2;have es:sl=(sl.toNat:Int):=by omega
    have H3:Hid (jk c ((((W2.setCell (g,38) ↑true).setCell (g,39) ↑sl).setCell (g,37) ↑at_).setCell (g,40) ↑(0:Int)).drew g {s with kn:=true,slot:=sl.toNat,now:=at_,si:=0}):=af
     ⟨(((((H2.o.1.set 17 (by simp[grd]) ↑true).set 18 (by simp[grd]) ↑sl).set 16 (by simp[grd]) ↑at_).set 19 (by simp[grd]) ↑((0:Nat):Int)).drew).eq (by rw[tq,dn (Value.int .i64) es,nL,tj,pR]),H2.o.2⟩
    have hO3:=af (((((hO2.o.set 38 ↑true).set 39 ↑sl).set 37 ↑at_).set 40 ↑(0:Int)).drew);have HE:=af es;clear es;go_wp2_with fail
    go_region
    generalize((((W2.setCell (g,38) ↑true).setCell (g,39) ↑sl).setCell (g,37) ↑at_).setCell (g,40) ↑(0:Int)).drew=W3 at *;go_wp2_with fail;refine(EN c g _ _ H3.o).mono ?_;rintro e w4 ⟨rfl,H4,hO4⟩;go_wp2_with fail;refine(uH c g _ _ H4 (by show sl.toNat<s.n;omega) hn (by simp[small]) hm (λ_=>jz)).mono ?_;rintro e w5 ⟨rfl,H5,hO5⟩;go_wp2;exact aD (ax (by rfl) _ _ _) rfl ⟨rfl,by simpa[p2,p3]using H5,(hO3.o.trans hO4).trans hO5⟩
   ·have q3:decide ((s.n:Int)<=sl)=true:=av (by omega)
    go_quiet (fail)
    go_wp2;exact aK (ax (by rfl) _ _ _) rfl ⟨rfl,by simpa[p2,p3]using HH.o _,HO.o _⟩
 ·have q1:(er != 0)=true:=by rw[bV];exact p1
  go_quiet (fail)
  all_goals
   go_wp2
   all_goals exact aK (ax (by rfl) _ _ _) rfl ⟨rfl,by simpa[p1]using HH.o _,HO.o _⟩
theorem PS(c:Cx 21)(g:Nat)(s:G)(v:Value)(l:List Int)(at_:Int)(w:World)(h:jk c w g s)(ok:s.Ok at_)(hv:iI w w v l)(hl:iK l):
  Calls Tryz.prog 156 #[↑(g,21),v,↑at_] w λe w'=>e=.returned (.tuple #[])/\jk c w' g (s.ended l at_)/\Only g w w':=by
 obtain⟨o1,o2,o3,o4,o5,o6,o7⟩:=ok;have o4':0<=s.lm/\s.lm<=9223372036854775807:=⟨o4.1,by omega⟩;have tb:=λl=>sX s.lm l o4.1;have H1:=af (PO c g s v l at_ w h o1 o4' hv hl (by unfold time;omega) (by have:=tb [];unfold time;omega));have H2:=af (PG c g s at_ w h o2 o1 o3 o4' (by unfold time;omega) (by unfold time;omega) (λ_=>o6) (λ_=>by have:=tb (if s.sy s.slot then iT s.l (at_-s.now)else s.l);unfold time;omega));have H3:=af (PI c g s w h o2 o1 o3 o4' o7 (λ_=>by have:=tb s.l;unfold time;omega));have c17:=PBa (h.1.cell 17 (x:=↑s.kn) rfl) (show 21+17=38 from rfl);obtain⟨A,c,rfl,-⟩:=hv.at_;unfold G.ended;clear h hv tb
 cases hk:s.kn
 ·rw[hk]at c17
  go_enter Tryz.func156,Tryz.ntmps156
  go_wp2_with fail;refine H1.o.mono ?_;rintro e w4 ⟨rfl,H4,hO4⟩;go_wp2;exact aD (ax (by rfl) _ _ _) rfl ⟨rfl,H4,hO4⟩
 ·rw[hk]at c17
  by_cases h0:0<l.length
  ·have q1:decide ((0:Int)<(l.length:Nat))=true:=av (by omega)
   go_enter Tryz.func156,Tryz.ntmps156
   go_wp2_with fail;refine H2.o.mono ?_;rintro e w4 ⟨rfl,H4,hO4⟩;go_wp2;exact aD (ax (by rfl) _ _ _) rfl ⟨rfl,by simpa[h0]using H4,hO4⟩
  ·have q1:decide ((0:Int)<(l.length:Nat))=false:=aj (by omega)
   go_enter Tryz.func156,Tryz.ntmps156
   go_wp2_with fail;refine H3.o.mono ?_;rintro e w4 ⟨rfl,H4,hO4⟩;go_wp2;exact aD (ax (by rfl) _ _ _) rfl ⟨rfl,by simpa[h0]using H4,hO4⟩
theorem PU(c:Cx 21)(g:Nat)(s:G)(f:Nat->Bool)(a:Nat->Int)(w:World)(h:jk c w g s)(hn:s.n<=8)(hs:s.slot<8)(jz:time s.now)(hat:time (a s.slot))(hwi:0<=s.wi/\s.wi<=2305843009213693952):
  Calls Tryz.prog 151 #[↑(g,21),kZ f,jK a] w λe w'=>e=.returned ↑(s.pass f a)/\Below w w w':=by
 have hB:=((ah w w).alloc lr (.cells #[↑(f 0),↑(f 1),↑(f 2),↑(f 3),↑(f 4),↑(f 5),↑(f 6),↑(f 7)] 110)).alloc (by simp) (.cells (aI a) 22);have hX:=(aJ w _ rfl #[↑(f 0),↑(f 1),↑(f 2),↑(f 3),↑(f 4),↑(f 5),↑(f 6),↑(f 7)] 110).alloc (.cells (aI a) 22);have hY:=aJ (w.alloc (.cells #[↑(f 0),↑(f 1),↑(f 2),↑(f 3),↑(f 4),↑(f 5),↑(f 6),↑(f 7)] 110)) (w.heap.size+1) (by simp) (aI a) 22;have hG:=h.below hB h.lt;unfold kZ jK
 go_enter Tryz.func151,Tryz.ntmps151
 generalize hw0:(w.alloc (.cells #[↑(f 0),↑(f 1),↑(f 2),↑(f 3),↑(f 4),↑(f 5),↑(f 6),↑(f 7)] 110)).alloc (.cells (aI a) 22)=w0 at *;have c17:=PBa (hG.1.cell 17 (x:=↑s.kn) rfl) (show 21+17=38 from rfl);unfold G.pass
 cases hk:s.kn
 ·rw[hk]at c17
  have c8:=PBa (hG.1.cell 8 (x:=↑(s.n:Nat)) rfl) (show 21+8=29 from rfl);have hI:=af (tB w s.n 8 f w0 (λk hk=>hX.cell k (lZ f k (by omega))) hn);simp only[bA,dB];generalize fst f s.n=r at *;have i1:(0:Int)<=(s.n:Int):=by omega
  have i2:(s.n:Int)<=8:=by omega
  clear hX hY h hG;go_wp2_with fail;refine hI.o.mono ?_;rintro e w2 ⟨rfl,rfl⟩;go_wp2;go_ret;exact⟨rfl,hB⟩
 ·rw[hk]at c17
  have cx:=hX.cell s.slot (lZ f s.slot hs);have cy:=hY.cell s.slot (l7 a s.slot hs);have c9:=PBa (hG.1.cell 9 (x:=↑s.wi) rfl) (show 21+9=30 from rfl);have c16:=PBa (hG.1.cell 16 (x:=↑s.now) rfl) (show 21+16=37 from rfl);have c18:=PBa (hG.1.cell 18 (x:=↑(s.slot:Nat)) rfl) (show 21+18=39 from rfl);have i1:(0:Int)<=(s.slot:Int):=by omega
  have i2:(s.slot:Int)<8:=by omega
  have hN:=λW=>af ((BM (a s.slot) s.now s.wi W hat jz hwi).mono λe w'(h:e=.returned ↑(lM (a s.slot) s.now s.wi)/\W=w')=>(⟨h.1,h.2.symm⟩:e=.returned ↑(lM (a s.slot) s.now s.wi)/\w'=W));have HB:Hid (∀n,Below w w (w0.drewN n)):=af λn=>aC hB n;have H18:Hid (∀n,(w0.drewN n).cell? (g,39)=some ↑(s.slot:Nat)):=af λn=>(hG.1.drewN n).cell 18 rfl;generalize f s.slot=q at *;generalize a s.slot=x at *;generalize lM x s.now s.wi=q2 at *;clear hX hY h hG
  cases q
  ·clear hN
   simp only[dD,bA,dB,dG];go_wp2_with fail
   go_quiet (fail)
   all_goals
    go_wp2
    all_goals
     go_ret;exact⟨rfl,HB.o _⟩
  ·cases q2
   all_goals
    simp only[cK,bA,dB,dG];go_wp2_with fail
    go_quiet (first|(go_at_call 195;refine bI (hN _).o))
    have xQ:=H18.o nq;have hB':=HB.o nq;generalize w0.drewN nq=w3 at *;go_wp2;go_ret;exact⟨rfl,hB'⟩
end
section
open Go.RowKit
def jL(W:World)(g N:Nat)(s0 s1:G):Prop:=Blk W g (#[.int .i64 (N:Nat)]++grd s0++grd s1) 118/\s0.l.length<=4/\s1.l.length<=4
def cx1(N:Nat)(s1:G):Cx 1:=⟨#[.int .i64 (N:Nat)],grd s1,118,rfl⟩
def cx2(N:Nat)(s0:G):Cx 21:=⟨#[.int .i64 (N:Nat)]++grd s0,#[],118,by simp[grd]⟩
theorem jL.one{W:World}{g N:Nat}{s0 s1:G}(h:jL W g N s0 s1):jj (cx1 N s1) W g s0:=⟨h.1,h.2.1⟩
theorem jL.two{W:World}{g N:Nat}{s0 s1:G}(h:jL W g N s0 s1):jk (cx2 N s0) W g s1:=⟨h.1.eq (show _=(cx2 N s0).a++grd s1++(cx2 N s0).b by simp[cx2]),h.2.2⟩
theorem jL.of1{W:World}{g N:Nat}{s0 s1:G}(h:jj (cx1 N s1) W g s0)(h1:s1.l.length<=4):jL W g N s0 s1:=⟨h.1,h.2,h1⟩
theorem jL.of2{W:World}{g N:Nat}{s0 s1:G}(h:jk (cx2 N s0) W g s1)(h0:s0.l.length<=4):jL W g N s0 s1:=⟨Blk.eq h.1 (show(cx2 N s0).a++grd s1++(cx2 N s0).b=_ by simp[cx2]),h0,h.2⟩
theorem jL.lt{W:World}{g N:Nat}{s0 s1:G}(h:jL W g N s0 s1):g<W.heap.size:=h.1.lt
theorem jL.below{W W':World}{g N:Nat}{s0 s1:G}(h:jL W g N s0 s1){B:Nat}(hb:Below B W W')(hg:g<B):jL W' g N s0 s1:=⟨h.1.below hb hg,h.2⟩
theorem jL.kp{W W':World}{P:List Nat}{g N:Nat}{s0 s1:G}(h:jL W g N s0 s1)(k:Kw P W W')(hg:g∉P):jL W' g N s0 s1:=⟨h.1.kp k hg,h.2⟩
theorem jL.n_{W:World}{g N:Nat}{s0 s1:G}(h:jL W g N s0 s1):W.cell? ⟨g,0,none⟩=some (.int .i64 (N:Nat)):=h.1.cell 0 (by simp[grd])
def hn(m:List Sd)(p:Int):Nat:=if p<0 then 0 else match m[p.toNat]? with
 |some s=>s.n
 |none=>0
def hq(m:List Sd)(p:Int):Nat->Int:=match m[p.toNat]? with
 |some s=>s.q
 |none=>λ_=>0
def tk(n:Nat)(q:Nat->Int):Int:=if kC q n=true then 0 else if n%8=0/\j3 q n=true then 2 else 1
def tl(n:Nat)(q:Nat->Int):List Int:=if kC q n=false/\n%8=0/\j3 q n=true then(List.range (n / 8)).map (packed q)else []
theorem qg(n:Nat)(q:Nat->Int):iK (tl n q):=by
 intro x hx;unfold tl at hx
 split at hx
 ·obtain⟨j,-,rfl⟩:=fC.1 hx
  have:=BZ q j 8;unfold packed;omega
 ·cases hx
theorem Told.own{w:World}{B:Nat}{q:Nat->Int}{n:Nat}{K:Int}{v:Value}(h:Told w B q n K v):K=tk n q/\iJ w B v (tl n q):=by
 rcases h with⟨h1,h2,rfl⟩|⟨h1,h2,h3,h4,h5⟩|⟨h1,h2,h3,rfl⟩
 ·refine⟨by simp[tk,h1,h2],?_⟩
  unfold tl;rw[ai (by simp[h1])];exact bR
 ·refine⟨by simp[tk,h1,h2,h3,h4],?_⟩
  unfold tl;rw[au ⟨h1,h2,h3⟩];unfold iJ;rw[dQ,dW];refine h5.alike λk hk=>?_;simp[bv,ay,hk]
 ·have h6:¬(n%8=0/\j3 q n=true):=by
   rintro⟨e1,e2⟩;rcases h2 with h|h
   ·exact h e1
   ·rw[e2]at h;cases h
  refine⟨by simp[tk,h1,h6,h3],?_⟩;unfold tl;rw[ai (λe=>h6 e.2)];exact bR
theorem EX(v:Value)(n:Nat)(a q:Nat->Int)(P:List Nat)(w:World)(h:Row w P v n a q):
  Calls Tryz.prog 155 #[v] w λe w'=>∃X Y,e=.returned (.tuple #[↑(tk n a),X,↑(tk n q),Y])/\iJ w' w X (tl n a)/\iJ w' w Y (tl n q)/\Below w w w':=by
 obtain⟨A,c,rfl,n1,n2,hs⟩:=h.sees;have h4:=h.n4;refine(Kn A n c a q w hs (λk _=>by have:=(h.one k).1;omega) (λk _=>by have:=(h.one k).2;omega) n1 n2 (by omega)).mono ?_;rintro e w1 ⟨K,X,L,Y,rfl,t1,t2,hb⟩;obtain⟨rfl,o1⟩:=t1.own;obtain⟨rfl,o2⟩:=t2.own;exact⟨X,Y,rfl,o1,o2,hb⟩
def jG(m:List Sd)(p:Int):Int:=if p<0 then 0 else sA m p.toNat
theorem xR(x b:Nat)(l:List (Value×Sd))(c d:Ch)(P:List Nat)(p:Int)(w:World)(h:XAt w P x b l c d)(hpl:p=-1\/∃j:Nat,p=j/\j<l.length):
  Calls Tryz.prog 157 #[↑(x,0),↑p] w λe w'=>e=.returned ↑(jG (l.map Prod.snd) p)/\w'=w:=by
 rcases hpl with rfl|⟨j,rfl,hj⟩
 ·exact(QM x w).mono λe w' h=>⟨h.1,h.2.symm⟩
 ·obtain⟨⟨v,s⟩,hk⟩:∃y,l[j]?=some y:=⟨_,aP hj⟩
  have e:jG (l.map Prod.snd) (j:Int)=s.at_:=by unfold jG sA;rw[ai (by omega)];simp[hk]
  rw[e];exact(QN x b j l v s c d P w h hk).mono λe w' h=>⟨h.1,h.2.symm⟩
theorem iJ.only{w w':World}{B g:Nat}{v:Value}{l:List Int}(h:iJ w B v l)(k:Only g w w')(hg:g<B):iJ w' B v l:=
 cB (row:=some g) h k (by
  rcases h.2 with⟨rfl,_⟩|⟨g',cap,cur,rfl,hb,_⟩
  ·exact .inl rfl
  ·refine .inr ?_
   simp only[Value.ownBlock,ne_eq,bB];omega)
structure Hd where
 A:Int
 B:Int
 X:Value
 Y:Value
 o:Int
def hdz:Hd:=⟨0,0,.slice none 0 0,.slice none 0 0,0⟩
def hdC(f:Nat->Hd):Array Value:=#[↑(f 0).A,↑(f 0).B,(f 0).X,(f 0).Y,↑(f 0).o,↑(f 1).A,↑(f 1).B,(f 1).X,(f 1).Y,↑(f 1).o,↑(f 2).A,↑(f 2).B,(f 2).X,(f 2).Y,↑(f 2).o,↑(f 3).A,↑(f 3).B,(f 3).X,(f 3).Y,↑(f 3).o,↑(f 4).A,↑(f 4).B,(f 4).X,(f 4).Y,↑(f 4).o,↑(f 5).A,↑(f 5).B,(f 5).X,(f 5).Y,↑(f 5).o,↑(f 6).A,↑(f 6).B,(f 6).X,(f 6).Y,↑(f 6).o,↑(f 7).A,↑(f 7).B,(f 7).X,(f 7).Y,↑(f 7).o]
def upH(f:Nat->Hd)(k:Nat)(h:Hd)(i:Nat):Hd:=if i=k then h else f i
theorem xk(f:Nat->Hd)(k:Nat)(hk:k<8):(hdC f)[k*5]?=some ↑(f k).A/\(hdC f)[k*5+1]?=some ↑(f k).B/\(hdC f)[k*5+2]?=some (f k).X/\(hdC f)[k*5+3]?=some (f k).Y/\(hdC f)[k*5+4]?=some ↑(f k).o:=by
 rcases(by omega:k=0\/k=1\/k=2\/k=3\/k=4\/k=5\/k=6\/k=7)with rfl|rfl|rfl|rfl|rfl|rfl|rfl|rfl<;>exact⟨rfl,rfl,rfl,rfl,rfl⟩
theorem DL(f:Nat->Hd)(k:Nat)(hk:k<8)(A B:Int)(X Y:Value):((((hdC f).setIfInBounds (k*5) ↑A).setIfInBounds (k*5+2) X).setIfInBounds (k*5+1) ↑B).setIfInBounds (k*5+3) Y=hdC (upH f k {f k with A:=A,B:=B,X:=X,Y:=Y}):=by
 rcases(by omega:k=0\/k=1\/k=2\/k=3\/k=4\/k=5\/k=6\/k=7)with rfl|rfl|rfl|rfl|rfl|rfl|rfl|rfl<;>simp[hdC,upH]
theorem DR(f:Nat->Hd)(k:Nat)(hk:k<8)(o:Int):(hdC f).setIfInBounds (k*5+4) ↑o=hdC (upH f k {f k with o:=o}):=by
 rcases(by omega:k=0\/k=1\/k=2\/k=3\/k=4\/k=5\/k=6\/k=7)with rfl|rfl|rfl|rfl|rfl|rfl|rfl|rfl<;>simp[hdC,upH]
structure jH(W:World)(Bs:Nat)(m:List Sd)(n:Nat)(qa qb:Nat->Int)(p:Int)(a:Nat->Int)(i:Nat)(h:Hd):Prop where
 A:h.A=if i<m.length/\(m[i]?.map Sd.df)≠some true then tk n qa else 0
 B:h.B=if i<m.length/\(m[i]?.map Sd.df)≠some true then tk n qb else 0
 X:iJ W Bs h.X (if i<m.length/\(m[i]?.map Sd.df)≠some true then tl n qa else [])
 Y:iJ W Bs h.Y (if i<m.length/\(m[i]?.map Sd.df)≠some true then tl n qb else [])
 o:h.o=if i<m.length/\0<=p then jG m p-a i else 0
theorem jH.below{W W':World}{Bs B':Nat}{m:List Sd}{n:Nat}{qa qb:Nat->Int}{p:Int}{a:Nat->Int}{i:Nat}{h:Hd}(H:jH W Bs m n qa qb p a i h)(hb:Below B' W W')(hB:W.heap.size<=B'):jH W' Bs m n qa qb p a i h:=⟨H.A,H.B,H.X.below hb hB,H.Y.below hb hB,H.o⟩
theorem jH.base{W:World}{Bs B':Nat}{m:List Sd}{n:Nat}{qa qb:Nat->Int}{p:Int}{a:Nat->Int}{i:Nat}{h:Hd}(H:jH W Bs m n qa qb p a i h)(hB:B'<=Bs):jH W B' m n qa qb p a i h:=⟨H.A,H.B,H.X.base hB,H.Y.base hB,H.o⟩
theorem jH.only{W W':World}{Bs g:Nat}{m:List Sd}{n:Nat}{qa qb:Nat->Int}{p:Int}{a:Nat->Int}{i:Nat}{h:Hd}(H:jH W Bs m n qa qb p a i h)(hb:Only g W W')(hB:g<Bs):jH W' Bs m n qa qb p a i h:=⟨H.A,H.B,H.X.only hb hB,H.Y.only hb hB,H.o⟩
theorem Only.setCells{g:Nat}{w:World}:∀(vs:List Value)(o:Nat){w1:World},Only g w w1->Only g w (w1.setCells g o vs)
 |[],_,_,h=>h
 |v::r,o,_,h=>by
  rw[World.setCells];exact Only.setCells r (o+1) (h.set o v)
theorem rm:(Tryz.prog.info? 154).map (λi=>i.size)=some 40:=by kernel_rfl
theorem lH(f:Nat->Hd)(h:∀i,i<8->∃A n c,(f i).X=.slice A n c)(h':∀i,i<8->∃A n c,(f i).Y=.slice A n c):(hdC f).all (·.oneCell')=true:=by
 have e:∀i,i<8->(f i).X.oneCell'=true/\(f i).Y.oneCell'=true:=λi hi=>by
  obtain⟨A,n,c,e⟩:=h i hi;obtain⟨A',n',c',e'⟩:=h' i hi;rw[e,e'];exact⟨rfl,rfl⟩
 have i0:∀a:Int,(Value.int .i64 a).oneCell'=true:=λa=>rfl;simp only[hdC,List.all_toArray,List.all_cons,List.all_nil,i0,e 0 (by omega),e 1 (by omega),e 2 (by omega),e 3 (by omega),e 4 (by omega),e 5 (by omega),e 6 (by omega),e 7 (by omega),Bool.and_self]
end
end Go.Proofs.YteadkhigkmijiaaGreat
