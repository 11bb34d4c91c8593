/- Texts Pb, TlP, ClP, StC, StP in one. -/
import Derived.BigRegion
import Derived.Deep.RegionWith
import Derived.Deep.RegionLaw
import Derived.Lib.LazyBuf
import Derived.Test.YteadkhigkmijiaaGreatPD1
import Derived.Test.YteadkhigkmijiaaGreatPD2
import Derived.Test.YteadkhigkmijiaaGreatPD5
import Derived.Test.YteadkhigkmijiaaGreatPD6
set_option linter.all false
namespace Go.Proofs.YteadkhigkmijiaaGreat
section
open Go.RowKit
structure Cx(o:Nat)where
 a:Array Value
 b:Array Value
 t:TypeId
 sz:a.size=o
def PB{o:Nat}(c:Cx o)(W:World)(g:Nat)(cs:Array Value):Prop:=Blk W g (c.a++cs++c.b) c.t
section
variable {o:Nat}{c:Cx o}{W W':World}{g:Nat}{cs:Array Value}
theorem PB.lt(h:PB c W g cs):g<W.heap.size:=Blk.lt h
theorem PB.cell(h:PB c W g cs)(i:Nat){x:Value}(hx:cs[i]?=some x):W.cell? (g,o+i)=some x:=by
 refine Blk.cell h (o+i) ?_;have hs:=c.sz;have hi:i<cs.size:=(bT.1 hx).1;rw[Array.getElem?_append_left (by simp;omega),Array.getElem?_append_right (by omega),<-hx]
 congr 1
 omega
theorem PB.frozen(h:PB c W g cs)(i:Nat):W.frozen? (g,i)=false:=Blk.frozen h i
theorem PB.below(h:PB c W g cs){B:Nat}(hb:Below B W W')(hB:g<B):PB c W' g cs:=iy h hb hB
theorem PB.alloc(h:PB c W g cs)(o:Obj):PB c (W.alloc o) g cs:=Blk.alloc h o
theorem PB.drew(h:PB c W g cs):PB c W.drew g cs:=h
theorem PB.drewN(h:PB c W g cs)(n:Nat):PB c (W.drewN n) g cs:=Blk.drewN h n
theorem PB.set(h:PB c W g cs)(i:Nat)(hi:i<cs.size)(x:Value):PB c (W.setCell (g,o+i) x) g (cs.setIfInBounds i x):=by
 refine(Blk.set h (o+i) x).eq ?_;have hs:=c.sz
 apply Array.ext
 ·simp
 ·intro j h1 h2
  by_cases e:o+i=j
  ·subst e
   simp only[Array.getElem_setIfInBounds_self,Array.getElem_append,gL,Array.size_setIfInBounds];rw[dif_pos (by omega),dif_neg (by omega)];simp only[hs,Nat.add_sub_cancel_left,Array.getElem_setIfInBounds_self]
  ·rw[Array.getElem_setIfInBounds_ne (by simpa using h1) e]
   simp only[Array.getElem_append,gL,Array.size_setIfInBounds]
   split
   ·split
    ·rfl
    ·rename_i h3 h4
     rw[Array.getElem_setIfInBounds_ne (by omega) (by omega)]
   ·rfl
theorem PB.eq{cs':Array Value}(h:PB c W g cs)(e:cs=cs'):PB c W g cs':=e▸h
end
theorem PBa{W:World}{g o o':Nat}{x:Option Value}(h:W.cell? (g,o)=x)(e:o=o'):W.cell? (g,o')=x:=e▸h
theorem PBs{o:Nat}{c:Cx o}{W:World}{g p p':Nat}{x:Value}{cs cs':Array Value}(h:PB c (W.setCell (g,p) x) g cs)(e:p=p')(e':cs=cs'):PB c (W.setCell (g,p') x) g cs':=e▸e'▸h
end
section
set_option maxRecDepth 100000
set_option maxHeartbeats 1000000
open Go.RowKit
def TPt(c:Cx 17)(W:World)(g:Nat)(s:TS):Prop:=PB c W g #[↑(s.m:Nat),↑(s.a:Nat),↑(s.f:Nat)]/\s.m<256
section
variable {c:Cx 17}{W W':World}{g:Nat}{s:TS}
theorem TPt.below(h:TPt c W g s){B:Nat}(hb:Below B W W')(hg:g<B):TPt c W' g s:=⟨h.1.below hb hg,h.2⟩
theorem TPt.lt(h:TPt c W g s):g<W.heap.size:=h.1.lt
theorem TPt.drew(h:TPt c W g s):TPt c W.drew g s:=h
theorem TPt.c0(h:TPt c W g s):W.cell? (g,17)=some ↑(s.m:Nat):=h.1.cell 0 rfl
theorem TPt.c1(h:TPt c W g s):W.cell? (g,18)=some ↑(s.a:Nat):=h.1.cell 1 rfl
theorem TPt.c2(h:TPt c W g s):W.cell? (g,19)=some ↑(s.f:Nat):=h.1.cell 2 rfl
theorem TPt.m_(h:TPt c W g s)(n:Nat)(hn:n<256):TPt c (W.setCell (g,17) ↑(n:Nat)) g {s with m:=n}:=⟨(h.1.set 0 (by simp) _).eq (by simp),hn⟩
theorem TPt.a_(h:TPt c W g s)(n:Nat):TPt c (W.setCell (g,18) ↑(n:Nat)) g {s with a:=n}:=⟨(h.1.set 1 (by simp) _).eq (by simp),h.2⟩
theorem TPt.f_(h:TPt c W g s)(n:Nat):TPt c (W.setCell (g,19) ↑(n:Nat)) g {s with f:=n}:=⟨(h.1.set 2 (by simp) _).eq (by simp),h.2⟩
end
theorem rQ(g:Nat)(n:Int)(w:World):
  Calls Tryz.prog 144 #[↑(g,17),↑n] w λe w'=>e=.returned ↑(decide (0<=n/\n<8))/\w'=w:=by
 by_cases h1:n<0
 ·rw[aj (by omega:¬(0<=n/\n<8))]
  go_enter Tryz.func144,Tryz.ntmps144
  go_wp2;go_ret;exact⟨rfl,rfl⟩
 ·by_cases h2:n<8
  ·rw[av (by omega:(0<=n/\n<8))]
   have h1:0<=n:=by omega
   go_enter Tryz.func144,Tryz.ntmps144
   go_wp2;go_ret;exact⟨by simp_all,rfl⟩
  ·rw[aj (by omega:¬(0<=n/\n<8))]
   have h1:0<=n:=by omega
   go_enter Tryz.func144,Tryz.ntmps144
   go_wp2;go_ret;exact⟨by simp_all,rfl⟩
theorem Lf(c:Cx 17)(g:Nat)(s:TS)(w:World)(h:TPt c w g s):
  Calls Tryz.prog 135 #[↑(g,17)] w λe w'=>e=.returned ↑(s.m:Nat)/\w'=w:=by
 have c0:=h.c0;clear h
 go_enter Tryz.func135,Tryz.ntmps135
 go_wp2;go_ret;exact⟨rfl,rfl⟩
theorem Lg(c:Cx 17)(g:Nat)(s:TS)(w:World)(h:TPt c w g s):
  Calls Tryz.prog 142 #[↑(g,17)] w λe w'=>e=.returned ↑(decide (s.f<=s.a))/\∃m,w'=w.drewN m:=by
 have c1:=h.c1;have c2:=h.c2;clear h
 go_enter Tryz.func142,Tryz.ntmps142
 go_wp2
 go_quiet (fail)
 go_wp2;go_ret;exact⟨by simp,_,rfl⟩
theorem Lh(c:Cx 17)(g:Nat)(s:TS)(w:World)(h:TPt c w g s):
  Calls Tryz.prog 143 #[↑(g,17)] w λe w'=>e=.returned ↑(decide (s.a=0))/\w'=w:=by
 have c1:=h.c1;clear h
 go_enter Tryz.func143,Tryz.ntmps143
 go_wp2;go_ret;refine⟨?_,rfl⟩;rw[show decide (s.a=0)=((s.a:Int)==0) by by_cases h:s.a=0<;>simp[h]]
 rfl
theorem Li(c:Cx 17)(g:Nat)(s:TS)(n:Int)(w:World)(h:TPt c w g s):
  Calls Tryz.prog 170 #[↑(g,17),↑n] w λe w'=>e=.returned ↑(isB s.m n)/\w'=w:=by
 have HM:=λW=>af (rQ g n W);have c0:=h.c0;by_cases hn:0<=n/\n<8
 ·rw[av hn]at HM
  have n1:=hn.1;have n2:=hn.2
  go_enter Tryz.func170,Tryz.ntmps170
  go_wp2_with fail;refine(HM _).o.mono ?_;rintro _ _ ⟨rfl,rfl⟩;go_wp2;go_ret;refine⟨?_,rfl⟩;rw[show isB s.m n=(bits BinOp.and IntKind.i64 ((s.m:Int) / (2:Int)^n.toNat) 1==1) by rw[Rx];simp[isB,hn]]
  rfl
 ·rw[aj hn]at HM
  go_enter Tryz.func170,Tryz.ntmps170
  go_wp2_with fail;refine(HM _).o.mono ?_;rintro _ _ ⟨rfl,rfl⟩;go_wp2;go_ret;refine⟨?_,rfl⟩;rw[show isB s.m n=false by simp[isB,hn]]
  rfl
theorem CF(c:Cx 17)(g:Nat)(s:TS)(n:Int)(w:World)(h:TPt c w g s):
  Calls Tryz.prog 98 #[↑(g,17),↑n] w λe w'=>e=.returned (.tuple #[])/\TPt c w' g (s.join n)/\Only g w w':=by
 have HM:=λW=>af (rQ g n W);by_cases hn:0<=n/\n<8
 ·rw[av hn]at HM
  have c0:=h.c0;have f0:=h.1.frozen 17;have n1:=hn.1;have n2:=hn.2
  go_enter Tryz.func98,Tryz.ntmps98
  go_wp2_with fail;refine(HM _).o.mono ?_;rintro _ _ ⟨rfl,rfl⟩;have HO:=wN h.2 (k:=n.toNat) (by omega);have hI:=EC h.2 (k:=n.toNat) (by omega);go_wp2_with fail
  go_region
  exact aD (ax (by rfl) _ _ _) rfl ⟨rfl,by simpa[TS.join,hn]using(h.m_ _ hI).drew,((aE g _).set 17 _).drew⟩
 ·rw[aj hn]at HM
  go_enter Tryz.func98,Tryz.ntmps98
  go_wp2_with fail;refine(HM _).o.mono ?_;rintro _ _ ⟨rfl,rfl⟩;go_wp2;exact aD (ax (by rfl) _ _ _) rfl ⟨rfl,by simpa[TS.join,hn]using h,aE _ _⟩
theorem CG(c:Cx 17)(g:Nat)(s:TS)(n:Int)(w:World)(h:TPt c w g s):
  Calls Tryz.prog 167 #[↑(g,17),↑n] w λe w'=>e=.returned (.tuple #[])/\TPt c w' g (s.miss n)/\Only g w w':=by
 have HM:=λW=>af (rQ g n W);by_cases hn:0<=n/\n<8
 ·rw[av hn]at HM
  have c0:=h.c0;have f0:=h.1.frozen 17;have n1:=hn.1;have n2:=hn.2
  go_enter Tryz.func167,Tryz.ntmps167
  go_wp2_with fail;refine(HM _).o.mono ?_;rintro _ _ ⟨rfl,rfl⟩;have HO:=Rw h.2 (k:=n.toNat) (by omega);have hI:=ED (k:=n.toNat) h.2;go_wp2_with fail
  go_region
  exact aD (ax (by rfl) _ _ _) rfl ⟨rfl,by simpa[TS.miss,hn]using(h.m_ _ hI).drew,((aE g _).set 17 _).drew⟩
 ·rw[aj hn]at HM
  go_enter Tryz.func167,Tryz.ntmps167
  go_wp2_with fail;refine(HM _).o.mono ?_;rintro _ _ ⟨rfl,rfl⟩;go_wp2;exact aD (ax (by rfl) _ _ _) rfl ⟨rfl,by simpa[TS.miss,hn]using h,aE _ _⟩
theorem K7(c:Cx 17)(g:Nat)(s:TS)(n:Int)(w:World)(h:TPt c w g s)(hb:s.a<1000):
  Calls Tryz.prog 165 #[↑(g,17),↑n] w λe w'=>e=.returned (.tuple #[])/\TPt c w' g (s.right n)/\Only g w w':=by
 have HM:=λW=>af (rQ g n W);by_cases hn:0<=n/\n<8
 ·rw[av hn]at HM
  have hs:s.right n={s.join n with a:=s.a+1}:=by simp[TS.right,TS.join,hn]
  have hf:(s.join n).a=s.a:=by simp[TS.join,hn]
  rw[hs];clear hs;have HJ:=λW(h:TPt c W g s)=>af (CF c g s n W h);generalize s.join n=u at *
  go_enter Tryz.func165,Tryz.ntmps165
  go_wp2_with fail;refine(HM _).o.mono ?_;rintro _ _ ⟨rfl,rfl⟩;go_wp2_with fail;refine(HJ _ h).o.mono ?_;rintro _ w1 ⟨rfl,h1,o1⟩;generalize s.join n=u at *;have c:=h1.c1;rw[hf]at c;have f:=h1.1.frozen 18;have h2:=af (h1.a_ (s.a+1));clear h h1 hf HM HJ;go_wp2;exact aD (ax (by rfl) _ _ _) rfl ⟨rfl,by simpa using h2.o,o1.set 18 _⟩
 ·rw[aj hn]at HM
  go_enter Tryz.func165,Tryz.ntmps165
  go_wp2_with fail;refine(HM _).o.mono ?_;rintro _ _ ⟨rfl,rfl⟩;go_wp2;exact aD (ax (by rfl) _ _ _) rfl ⟨rfl,by simpa[TS.right,hn]using h,aE _ _⟩
theorem K8(c:Cx 17)(g:Nat)(s:TS)(n:Int)(w:World)(h:TPt c w g s)(hb:s.f<1000):
  Calls Tryz.prog 168 #[↑(g,17),↑n] w λe w'=>e=.returned (.tuple #[])/\TPt c w' g (s.wrong n)/\Only g w w':=by
 have HM:=λW=>af (rQ g n W);by_cases hn:0<=n/\n<8
 ·rw[av hn]at HM
  have hs:s.wrong n={s.miss n with f:=s.f+1}:=by simp[TS.wrong,TS.miss,hn]
  have hf:(s.miss n).f=s.f:=by simp[TS.miss,hn]
  rw[hs];clear hs;have HJ:=λW(h:TPt c W g s)=>af (CG c g s n W h);generalize s.miss n=u at *
  go_enter Tryz.func168,Tryz.ntmps168
  go_wp2_with fail;refine(HM _).o.mono ?_;rintro _ _ ⟨rfl,rfl⟩;go_wp2_with fail;refine(HJ _ h).o.mono ?_;rintro _ w1 ⟨rfl,h1,o1⟩;generalize s.miss n=u at *;have c:=h1.c2;rw[hf]at c;have f:=h1.1.frozen 19;have h2:=af (h1.f_ (s.f+1));clear h h1 hf HM HJ;go_wp2;exact aD (ax (by rfl) _ _ _) rfl ⟨rfl,by simpa using h2.o,o1.set 19 _⟩
 ·rw[aj hn]at HM
  go_enter Tryz.func168,Tryz.ntmps168
  go_wp2_with fail;refine(HM _).o.mono ?_;rintro _ _ ⟨rfl,rfl⟩;go_wp2;exact aD (ax (by rfl) _ _ _) rfl ⟨rfl,by simpa[TS.wrong,hn]using h,aE _ _⟩
theorem K9(c:Cx 17)(g:Nat)(s:TS)(w:World)(h:TPt c w g s):
  Calls Tryz.prog 99 #[↑(g,17)] w λe w'=>e=.returned (.tuple #[])/\TPt c w' g s.clear/\Only g w w':=by
 have c1:=h.c1;have c2:=h.c2;have f1:=h.1.frozen 18;have f2:=h.1.frozen 19;have h2:=af ((h.a_ 0).f_ 0);clear h
 go_enter Tryz.func99,Tryz.ntmps99
 go_wp2;exact aD (ax (by rfl) _ _ _) rfl ⟨rfl,h2.o,((aE g _).set 18 _).set 19 _⟩
end
section
set_option maxRecDepth 100000
set_option maxHeartbeats 1000000
open Go.RowKit
open Clk (avg)
def KPt(c:Cx 20)(W:World)(g:Nat)(m:Int)(l:List Int):Prop:=PB c W g (clk m l)/\l.length<=4
section
variable {c:Cx 20}{W W':World}{g:Nat}{m:Int}{l:List Int}
theorem KPt.below(h:KPt c W g m l){B:Nat}(hb:Below B W W')(hg:g<B):KPt c W' g m l:=⟨h.1.below hb hg,h.2⟩
theorem KPt.lt(h:KPt c W g m l):g<W.heap.size:=h.1.lt
theorem KPt.clk(h:KPt c W g m l):W.cell? (g,20)=some ↑m/\W.cell? (g,21)=some ↑(l.getD 0 0)/\W.cell? (g,22)=some ↑(l.getD 1 0)/\W.cell? (g,23)=some ↑(l.getD 2 0)/\W.cell? (g,24)=some ↑(l.getD 3 0)/\W.cell? (g,25)=some ↑(l.length:Nat):=
 ⟨h.1.cell 0 rfl,h.1.cell 1 rfl,h.1.cell 2 rfl,h.1.cell 3 rfl,h.1.cell 4 rfl,h.1.cell 5 rfl⟩
theorem KPt.frz(h:KPt c W g m l):W.frozen? (g,20)=false/\W.frozen? (g,21)=false/\W.frozen? (g,22)=false/\W.frozen? (g,23)=false/\W.frozen? (g,24)=false/\W.frozen? (g,25)=false:=
 ⟨h.1.frozen 20,h.1.frozen 21,h.1.frozen 22,h.1.frozen 23,h.1.frozen 24,h.1.frozen 25⟩
end
theorem Ho(m:Int)(l:List Int):(clk m l).size=6:=rfl
theorem Hq(c:Cx 20)(g:Nat)(m:Int)(l:List Int)(w:World)(h:KPt c w g m l):
  Calls Tryz.prog 89 #[↑(g,20)] w λe w'=>e=.returned (.tuple #[])/\KPt c w' g m ([])/\Only g w w':=by
 obtain⟨c0,c1,c2,c3,c4,c5⟩:=h.clk;obtain⟨f0,f1,f2,f3,f4,f5⟩:=h.frz;have hB:Hid (PB c ((((((w.setCell (g,20) ↑m).setCell (g,21) ↑(0:Int)).setCell (g,22) ↑(0:Int)).setCell (g,23) ↑(0:Int)).setCell (g,24) ↑(0:Int)).setCell (g,25) ↑(0:Int)) g (clk m ([]))):=af ((((((h.1.set 0 (by simp[clk]) _).set 1 (by simp[clk]) _).set 2 (by simp[clk]) _).set 3 (by simp[clk]) _).set 4 (by simp[clk]) _).set 5 (by simp[clk]) _);clear h
 go_enter Tryz.func89,Tryz.ntmps89
 go_wp2;exact aD (ax (by rfl) _ _ _) rfl ⟨rfl,⟨hB.o,by simp⟩,((((((aE g w).set 20 _).set 21 _).set 22 _).set 23 _).set 24 _).set 25 _⟩
theorem Hr(c:Cx 20)(g:Nat)(m:Int)(l:List Int)(n:Int)(w:World)(h:KPt c w g m l)(h4:l.length=4):
  Calls Tryz.prog 108 #[↑(g,20),↑n] w λe w'=>e=.returned (.tuple #[])/\KPt c w' g m (l.drop 1++[n])/\Only g w w':=by
 obtain⟨c0,c1,c2,c3,c4,c5⟩:=h.clk;obtain⟨f0,f1,f2,f3,f4,f5⟩:=h.frz;have c5':w.cell? (g,25)=some ↑(4:Int):=by rw[c5,h4];rfl
 clear c5;have hB:Hid (PB c ((((((w.setCell (g,21) ↑(l.getD 1 0)).setCell (g,22) ↑(l.getD 2 0)).setCell (g,23) ↑(l.getD 3 0)).setCell (g,25) ↑(3:Int)).setCell (g,24) ↑n).setCell (g,25) ↑(4:Int)).drew.drew g (clk m (l.drop 1++[n]))):=af (((((((h.1.set 1 (by simp[clk]) ↑(l.getD 1 0)).set 2 (by simp[clk]) ↑(l.getD 2 0)).set 3 (by simp[clk]) ↑(l.getD 3 0)).set 5 (by simp[clk]) ↑(3:Int)).set 4 (by simp[clk]) ↑n).set 5 (by simp[clk]) ↑(4:Int)).drew.drew.eq (G8 m n l h4));have H4:=af h4;clear h h4;generalize l.getD 0 0=a0 at *;generalize l.getD 1 0=a1 at *;generalize l.getD 2 0=a2 at *;generalize l.getD 3 0=a3 at *;have hrun:=run_copy_cells (P:=Tryz.prog) w.drew 33 33 3 3 g 21 4 4 (g,22) 3 3 [↑a1,↑a2,↑a3] Tryz.underlying33 (by kernel_rfl) (by simp) (λj v hj=>by
  match j,hj with
  |0,hj=>simp at hj;subst hj;exact c2
  |1,hj=>simp at hj;subst hj;exact c3
  |2,hj=>simp at hj;subst hj;exact c4
  |j+3,hj=>simp at hj) (λj hj=>by
  match j,hj with
  |0,_=>show(w.cell? _).isSome=true;rw[c1];rfl
  |1,_=>show(w.cell? _).isSome=true;rw[c2];rfl
  |2,_=>show(w.cell? _).isSome=true;rw[c3];rfl
  |j+3,hj=>simp at hj;omega) (λj hj=>by
  match j,hj with
  |0,_=>exact f1
  |1,_=>exact f2
  |2,_=>exact f3
  |j+3,hj=>simp at hj;omega) (by simp[Value.oneCell'])
 simp[World.setCells]at hrun
 go_enter Tryz.func108,Tryz.ntmps108
 go_wp2
 go_region
 go_wp2
 go_region
 go_wp2;exact aD (ax (by rfl) _ _ _) rfl ⟨rfl,⟨hB.o,by have:=H4.o;simp;omega⟩,(((((((aE g w).set 21 _).set 22 _).set 23 _).set 25 _).set 24 _).set 25 _).drew.drew⟩
theorem Hs(c:Cx 20)(g:Nat)(m:Int)(l:List Int)(n:Int)(w:World)(h:KPt c w g m l)(h4:l.length<4):
  Calls Tryz.prog 108 #[↑(g,20),↑n] w λe w'=>e=.returned (.tuple #[])/\KPt c w' g m (l++[n])/\Only g w w':=by
 obtain⟨c0,c1,c2,c3,c4,c5⟩:=h.clk;obtain⟨f0,f1,f2,f3,f4,f5⟩:=h.frz;have q4:((l.length:Int)==4)=false:=by rw[aB];omega
 have hB:Hid (PB c ((w.setCell (g,21+l.length) ↑n).setCell (g,25) ↑((l.length:Int)+1:Int)).drew g (clk m (l++[n]))):=af (((PBs (p':=21+l.length) (h.1.set (1+l.length) (by rw[Ho];omega) ↑n) (by omega) rfl).set 5 (by simp[clk]) ↑((l.length:Int)+1:Int)).drew.eq (G9 m n l _ rfl h4));have ck:∃x,w.cell? (g,21+l.length)=some x:=by
  rcases(by omega:l.length=0\/l.length=1\/l.length=2\/l.length=3)with e|e|e|e<;>rw[e]
  ·exact⟨_,c1⟩
  ·exact⟨_,c2⟩
  ·exact⟨_,c3⟩
  ·exact⟨_,c4⟩
 have fk:w.frozen? (g,21+l.length)=false:=h.1.frozen _;obtain⟨x,ck⟩:=ck;clear h c0 c1 c2 c3 c4 f0 f1 f2 f3 f4
 go_enter Tryz.func108,Tryz.ntmps108
 go_wp2
 go_region
 go_wp2;exact aD (ax (by rfl) _ _ _) rfl ⟨rfl,⟨hB.o,by simp;omega⟩,(((aE g w).set (21+l.length) _).set 25 _).drew⟩
theorem Ht(c:Cx 20)(g:Nat)(m:Int)(l:List Int)(n:Int)(w:World)(h:KPt c w g m l):
  Calls Tryz.prog 108 #[↑(g,20),↑n] w λe w'=>e=.returned (.tuple #[])/\KPt c w' g m (iT l n)/\Only g w w':=by
 unfold iT;by_cases h4:l.length=4
 ·rw[au h4];exact Hr c g m l n w h h4
 ·rw[ai h4];exact Hs c g m l n w h (by have:=h.2;omega)
theorem KPt.sees{c:Cx 20}{W:World}{g:Nat}{m:Int}{l:List Int}(h:KPt c W g m l):ja W W (.slice (some (g,21)) l.length 4) l:=by
 refine⟨some (g,21),4,rfl,h.2,by simp[maxLen],λ_=>⟨g,21,rfl,h.1.lt,λk hk=>?_⟩,λh=>by cases h⟩;obtain⟨-,c1,c2,c3,c4,-⟩:=h.clk;have:=h.2;rcases(by omega:k=0\/k=1\/k=2\/k=3)with rfl|rfl|rfl|rfl
 ·exact c1
 ·exact c2
 ·exact c3
 ·exact c4
theorem Hu(c:Cx 20)(g:Nat)(m:Int)(l:List Int)(w:World)(h:KPt c w g m l)(hs:small l)(hm:0<=m/\m<=9223372036854775807):
  Calls Tryz.prog 202 #[↑(g,20)] w λe w'=>e=.returned (.tuple #[↑(jb m l),↑(wiB m (avg l))])/\Below w w w':=by
 have hT:Hid (∀W,Below w w W->KPt c W g m l):=af (λW hW=>h.below hW h.1.lt);have A1:=λW(hW:Below w w W)=>af (uX l _ W W lr (hT.o W hW).sees hs h.2);have R:=λn W=>af (uU m n W hm);have hl4:=h.2;unfold jb;generalize avg l=r at *;have R:=R r;generalize hq:wiB m r=q at *;clear hq;obtain⟨c0,-,-,-,-,c5⟩:=h.clk;have HC:Hid (∀W,Below w w W->W.cell? (g,20)=some ↑m/\W.cell? (g,25)=some ↑(l.length:Nat)):=af (λW hW=>by
  obtain⟨c0,-,-,-,-,c5⟩:=(hT.o W hW).clk;exact⟨c0,c5⟩)
 have hb0:=ah w w;have n1:(0:Int)<=(l.length:Nat):=by omega
 have n2:((l.length:Nat):Int)<=4:=by omega
 clear h hs hm
 go_enter Tryz.func202,Tryz.ntmps202
 go_wp2
 go_region_held3 (λW=>W.cell? (g,20)=some ↑m/\W.cell? (g,25)=some ↑(l.length:Nat))
  ((refine HC.o _ ?_;first|exact hb0|exact hb0.drew|exact hb1))
  (first
   |((go_at_call 226;with_reducible refine(A1 _ ?_).o.mono ?_);(first|exact hb0|exact hb0.drew);rintro e w1 ⟨rfl,hb⟩;have hb1:=hb0.drew.trans (hb.mono hb0.size))
   |fail)
 clear c0 c5;obtain⟨c0,c5⟩:=HC.o w1 hb1
 cases q
 ·go_wp2_with fail
  refine(R w1).o.mono ?_;rintro e w2 ⟨rfl,rfl⟩;go_wp2;go_ret2;exact⟨rfl,hb1⟩
 ·go_wp2_with fail
  refine(R w1).o.mono ?_;rintro e w2 ⟨rfl,rfl⟩;go_wp2;go_ret2;exact⟨rfl,hb1⟩
end
section
open Go.RowKit
theorem wC(v:Value)(l:List Int)(w:World)(B:Nat)(hv:iI w B v l)(hlen:l.length<=140737488355328):
  Calls Tryz.prog 71 #[v] w λe w'=>∃v',e=.returned v'/\iJ w' w v' l/\Below w w w':=by
 obtain⟨A,c,rfl,h1,h2,h3,h4⟩:=hv.at_
 cases A with
 |none=>
  obtain⟨hl,rfl⟩:=h4 rfl;have hl':=dx.1 hl;subst hl';clear h1 h2 h3 h4 hl hv hlen;have hq:=dw (P:=Tryz.prog) w 41 5 none 0 0 0 0 Tryz.underlying41
  go_enter Tryz.func71,Tryz.ntmps71
  go_wp2;go_ret;exact⟨_,rfl,bR,ah _ _⟩
 |some a=>
  have hv:=af hv;have hq:=dw (P:=Tryz.prog) w 41 5 (some a) l.length c 0 0 Tryz.underlying41;clear h3 h4
  go_enter Tryz.func71,Tryz.ntmps71
  go_wp2_with (at_builtin;refine lA _ rfl (.tmp 5) (.tmp 6) 41 rfl w kx Tryz.underlying41 _ [] w (mL w _ rfl _ _ lr rfl) ((ah _ _).alloc lr _) rfl _ _ l rfl (iI.alloc hv.o _) (by simp) (by simp only[fw];omega) ?_);intro v' w1 ho hb;go_wp2;go_ret;exact⟨_,rfl,ho,hb⟩
theorem FB(w:World):
  Calls Tryz.prog 140 #[] w λe w'=>e=.returned (.agg #[.slice none 0 0,↑(-1:Int),↑false])/\Below w w w':=by
 go_enter Tryz.func140,Tryz.ntmps140
 go_wp2;refine aK (v:=.agg #[.slice none 0 0,↑(-1:Int),↑false]) ?_ rfl ⟨rfl,?_⟩
 ·rw[j4 rfl]
  go_simp
 ·(repeat' (first|exact ah _ _|exact aR _|(with_reducible refine aU ?_ ?_ _)|(with_reducible refine bE ?_ lr _)|(with_reducible refine aC ?_ _)|(with_reducible refine bL ?_)))
end
section
set_option maxRecDepth 100000
set_option maxHeartbeats 2000000
open Go.RowKit
theorem xY(V:Nat->Value)(a:Nat->Int)(g:Nat->Bool):(stc V a g).size=24:=rfl
def Nar(G:Nat->Prop){α:Type}(v:Value)(l:List α):Prop:=l≠[]->∀b,v.ownBlock=some b->G b
def jr(G:Nat->Prop)(F:List Nat)(W:World)(v:Value)(l:List Int):Prop:=Dat F W v l/\Nar G v l
theorem jr.keep{G:Nat->Prop}{F:List Nat}{W W':World}{v:Value}{l:List Int}(h:jr G F W v l)(k:Kp F W W'):jr G F W' v l:=⟨h.1.keep k,h.2⟩
theorem jr.nil{G:Nat->Prop}{F:List Nat}{W:World}:jr G F W (.slice none 0 0) []:=⟨Dat.nil,λh=>absurd rfl h⟩
def SPt(c:Cx 26)(G:Nat->Prop)(F:List Nat)(W:World)(g:Nat)(s:MS):Prop:=(∃V,PB c W g (stc V s.a s.g)/\∀i,i<8->jr G F W (V i) (s.d i))/\s.ok
section
variable {c:Cx 26}{G:Nat->Prop}{F:List Nat}{W W':World}{g g':Nat}{s s':MS}
theorem SPt.lt(h:SPt c G F W g s):g<W.heap.size:=by
 obtain⟨⟨V,hB,-⟩,-⟩:=h;exact hB.lt
theorem SPt.below(h:SPt c G F W g s)(k:Below W W W'):SPt c G F W' g s:=by
 obtain⟨⟨V,hB,hD⟩,hk⟩:=h;exact⟨⟨V,hB.below k hB.lt,λi hi=>(hD i hi).keep (ku k)⟩,hk⟩
theorem SPt.alike(h:SPt c G F W g s)(hd:∀i,i<8->s.d i=s'.d i)(ha:∀i,i<8->s.a i=s'.a i)(hg:∀i,i<8->s.g i=s'.g i):SPt c G F W g s':=by
 obtain⟨⟨V,hB,hD⟩,hk⟩:=h;refine⟨⟨V,hB.eq (En (λ_ _=>rfl) ha hg),λi hi=>hd i hi▸hD i hi⟩,⟨λi hi=>hd i hi▸hk.len i hi,λi hi=>hd i hi▸hk.byt i hi,λi hi=>ha i hi▸hk.lo i hi,λi hi=>ha i hi▸hk.hi i hi⟩⟩
theorem SPt.cd(h:SPt c G F W g s){i:Nat}(hi:i<8):∃v,W.cell? (g,26+i*3)=some v/\jr G F W v (s.d i):=by
 obtain⟨⟨V,hB,hD⟩,-⟩:=h;exact⟨V i,hB.cell _ (Eo _ _ _ hi),hD i hi⟩
theorem SPt.cs(h:SPt c G F W g s){i:Nat}(hi:i<8):∃A d,W.cell? (g,26+i*3)=some (.slice A (s.d i).length d)/\jr G F W (.slice A (s.d i).length d) (s.d i):=by
 obtain⟨v,h1,h2⟩:=h.cd hi;obtain⟨A,d,rfl,-⟩:=h2.1.1.at_;exact⟨A,d,h1,h2⟩
theorem SPt.ca(h:SPt c G F W g s){i:Nat}(hi:i<8):W.cell? (g,26+i*3+1)=some ↑(s.a i):=by
 obtain⟨⟨V,hB,hD⟩,-⟩:=h;exact hB.cell _ (Ep _ _ _ hi)
theorem SPt.cg(h:SPt c G F W g s){i:Nat}(hi:i<8):W.cell? (g,26+i*3+2)=some ↑(s.g i):=by
 obtain⟨⟨V,hB,hD⟩,-⟩:=h;exact hB.cell _ (Er _ _ _ hi)
theorem SPt.frozen(h:SPt c G F W g s)(o:Nat):W.frozen? (g,o)=false:=by
 obtain⟨⟨V,hB,hD⟩,-⟩:=h;exact hB.frozen _
abbrev iq:=@SPt.frozen
theorem SPt.drew(h:SPt c G F W g s):SPt c G F W.drew g s:=h.below (ah _ W).drew
theorem SPt.rG(h:SPt c G F W g s)(hg:g∈F){i:Nat}(hi:i<8){v:Value}{l:List Int}(hv:jr G F W v l)(hl:l.length<=8)(hb:iK l):SPt c G F (W.setCell (g,26+i*3) v) g {s with d:=upd s.d i l}:=by
 obtain⟨⟨V,hB,hD⟩,hk⟩:=h;have hkp:Kp F W (W.setCell (g,26+i*3) v):=((aE g W).set _ _).kp hg;refine⟨⟨upd V i v,(hB.set (i*3) (by rw[xY];omega) _).eq (Es _ _ _ hi _),λj hj=>?_⟩,⟨λj hj=>?_,λj hj=>?_,hk.lo,hk.hi⟩⟩<;>simp only[upd]<;>split
 ·exact hv.keep hkp
 ·exact(hD j hj).keep hkp
 ·exact hl
 ·exact hk.len j hj
 ·exact hb
 ·exact hk.byt j hj
theorem SPt.oW(h:SPt c G F W g s)(hg:g∈F){i:Nat}(hi:i<8)(a:Int)(hl:-1<=a)(hh:a<=65535):SPt c G F (W.setCell (g,26+i*3+1) ↑a) g {s with a:=upd s.a i a}:=by
 obtain⟨⟨V,hB,hD⟩,hk⟩:=h;have hkp:Kp F W (W.setCell (g,26+i*3+1) ↑a):=((aE g W).set _ _).kp hg;refine⟨⟨V,(hB.set (i*3+1) (by rw[xY];omega) _).eq (Et _ _ _ hi _),λj hj=>(hD j hj).keep hkp⟩,⟨hk.len,hk.byt,λj hj=>?_,λj hj=>?_⟩⟩<;>simp only[upd]<;>split
 ·exact hl
 ·exact hk.lo j hj
 ·exact hh
 ·exact hk.hi j hj
theorem SPt.rH(h:SPt c G F W g s)(hg:g∈F){i:Nat}(hi:i<8)(b:Bool):SPt c G F (W.setCell (g,26+i*3+2) ↑b) g {s with g:=upd s.g i b}:=by
 obtain⟨⟨V,hB,hD⟩,hk⟩:=h;have hkp:Kp F W (W.setCell (g,26+i*3+2) ↑b):=((aE g W).set _ _).kp hg;exact⟨⟨V,(hB.set (i*3+2) (by rw[xY];omega) _).eq (Eu _ _ _ hi _),λj hj=>(hD j hj).keep hkp⟩,⟨hk.len,hk.byt,hk.lo,hk.hi⟩⟩
end
theorem SPt.mono{c:Cx 26}{G G':Nat->Prop}{F:List Nat}{W:World}{g:Nat}{s:MS}(h:SPt c G F W g s)(hG:∀b,G b->G' b):SPt c G' F W g s:=by
 obtain⟨⟨V,hB,hD⟩,hk⟩:=h;exact⟨⟨V,hB,λi hi=>⟨(hD i hi).1,λh0 b hb=>hG b ((hD i hi).2 h0 b hb)⟩⟩,hk⟩
theorem xZ(g:Nat)(n:Int)(w:World):
  Calls Tryz.prog 186 #[↑(g,26),↑n] w λe w'=>e=.returned ↑(decide (isN n))/\w'=w:=by
 by_cases h1:n<0
 ·rw[aj (by unfold isN;omega:¬isN n)]
  go_enter Tryz.func186,Tryz.ntmps186
  go_wp2;go_ret;exact⟨rfl,rfl⟩
 ·by_cases h2:n<8
  ·rw[av (by unfold isN;omega:isN n)]
   have h1:0<=n:=by omega
   go_enter Tryz.func186,Tryz.ntmps186
   go_wp2;go_ret;exact⟨by simp_all,rfl⟩
  ·rw[aj (by unfold isN;omega:¬isN n)]
   have h1:0<=n:=by omega
   go_enter Tryz.func186,Tryz.ntmps186
   go_wp2;go_ret;exact⟨by simp_all,rfl⟩
theorem Ld(c:Cx 26)(G:Nat->Prop)(F:List Nat)(g:Nat)(s:MS)(n:Int)(b:Bool)(w:World)(h:SPt c G F w g s)(hg:g∈F):
  Calls Tryz.prog 169 #[↑(g,26),↑n,↑b] w λe w'=>e=.returned (.tuple #[])/\SPt c G F w' g (s.member n b)/\Only g w w':=by
 have HN:=λW=>af (xZ g n W);by_cases hn:isN n
 ·rw[av hn]at HN
  rw[show s.member n b={s with g:=upd s.g n.toNat b} by unfold MS.member;rw[au hn]];unfold isN at hn;obtain⟨i,rfl⟩:∃i:Nat,n=i:=⟨n.toNat,by omega⟩;have hi:i<8:=by omega
  rw[aQ];have c:=SPt.cg h hi;have f:=iq h (26+i*3+2);have H:=af (SPt.rH h hg hi b);clear h
  go_enter Tryz.func169,Tryz.ntmps169
  go_wp2_with fail;refine(HN _).o.mono ?_;rintro _ _ ⟨rfl,rfl⟩;go_wp2;exact aD (ax (by rfl) _ _ _) rfl ⟨rfl,H.o,(aE g _).set _ _⟩
 ·rw[aj hn]at HN
  rw[show s.member n b=s by unfold MS.member;rw[ai hn]]
  go_enter Tryz.func169,Tryz.ntmps169
  go_wp2_with fail;refine(HN _).o.mono ?_;rintro _ _ ⟨rfl,rfl⟩;go_wp2;exact aD (ax (by rfl) _ _ _) rfl ⟨rfl,h,aE _ _⟩
theorem Lb(c:Cx 26)(G:Nat->Prop)(F:List Nat)(g:Nat)(s:MS)(w:World)(h:SPt c G F w g s)(hg:g∈F):
  Calls Tryz.prog 90 #[↑(g,26)] w λe w'=>e=.returned (.tuple #[])/\SPt c G F w' g MS.new/\Only g w w':=by
 go_enter Tryz.func90,Tryz.ntmps90
 go_wp2_with fail
 go_loopw [5] (λi wr=>∃k:Nat,k<=8/\i=↑k/\SPt c G F wr g (s.clr k)/\Only g w wr) (λi _=>8-(intOf i).toNat)
 case atStart=>exact⟨0,by omega,rfl,SPt.alike h (λ_ _=>rfl) (λ_ _=>rfl) (λ_ _=>rfl),aE _ _⟩
 case round=>
  clear h;obtain⟨k,hk,rfl,h,o⟩:=hrel;by_cases hlt:k<8
  ·have r1:decide ((k:Int)<8)=true:=av (by omega)
   have H:=λW(hW:SPt c G F W g (s.clr k))=>af (SPt.alike (SPt.rH (SPt.oW (SPt.rG hW hg hlt jr.nil (by simp) (λx hx=>by simp at hx)) hg hlt (-1) (by omega) (by omega)) hg hlt false) (s':=s.clr (k+1)) (λi _=>(qm s k).1 i) (λi _=>(qm s k).2.1 i) (λi _=>(qm s k).2.2 i));have HV:=λW=>af (FB W);have h0:=af h;have o0:=af o;clear h o;go_wp2_with fail
   go_region_with (first
    |(go_at_call 140;refine(HV _).o.mono ?_;rintro _ w2 ⟨rfl,hb2⟩;have h2:SPt c G F w2 g (s.clr k):=SPt.below h0.o.drew hb2;have o2:=af (o0.o.drew.trans (iQ g hb2));obtain⟨v,c0,-⟩:=SPt.cd h2 hlt;have c1:=SPt.ca h2 hlt;have c2:=SPt.cg h2 hlt;have f0:=iq h2 (26+k*3);have f1:=iq h2 (26+k*3+1);have f2:=iq h2 (26+k*3+2);have H2:=H w2 h2;clear h2 hb2))
   all_goals
    go_wp2;go_roundw
    case rel=>exact⟨k+1,by omega,by go_num,H2.o,((o2.o.set _ _).set _ _).set _ _⟩
    case measure=>simp[intOf];omega
  ·obtain rfl:k=8:=by omega
   go_wp2;exact aD (ax (by rfl) _ _ _) rfl ⟨rfl,SPt.alike h (λi hi=>by simp[MS.clr,MS.new,hi]) (λi hi=>by simp[MS.clr,MS.new,hi]) (λi hi=>by simp[MS.clr,MS.new,hi]),o⟩
theorem Lc(c:Cx 26)(G:Nat->Prop)(F:List Nat)(g:Nat)(s:MS)(w:World)(h:SPt c G F w g s)(hg:g∈F):
  Calls Tryz.prog 203 #[↑(g,26)] w λe w'=>e=.returned (.tuple #[])/\SPt c G F w' g s.age/\Only g w w':=by
 have hok:=h.2
 go_enter Tryz.func203,Tryz.ntmps203
 go_wp2_with fail
 go_loopw [6] (λi wr=>∃k:Nat,k<=8/\i=↑k/\SPt c G F wr g (s.agd k)/\Only g w wr) (λi _=>8-(intOf i).toNat)
 case atStart=>exact⟨0,by omega,rfl,SPt.alike h (λ_ _=>rfl) (λ_ _=>rfl) (λ_ _=>rfl),aE _ _⟩
 case round=>
  clear h;obtain⟨k,hk,rfl,h,o⟩:=hrel;by_cases hlt:k<8
  ·have r1:decide ((k:Int)<8)=true:=av (by omega)
   have c1:=SPt.ca h hlt;have f1:=iq h (26+k*3+1);have e1:(s.agd k).a k=s.a k:=by simp[MS.agd]
   rw[e1]at c1;have l1:=hok.lo k hlt;have l2:=hok.hi k hlt;obtain⟨p1,p2⟩:=Ev l1 l2;have H:=af (SPt.alike (SPt.oW h hg hlt (older (s.a k)) p1 p2) (s':=s.agd (k+1)) (λi _=>rfl) (λi _=>Ew s k i) (λi _=>rfl));by_cases hpos:0<=s.a k/\s.a k<65535
   ·have q2:decide ((0:Int)<=s.a k)=true:=av hpos.1
    have q3:decide (s.a k<65535)=true:=av hpos.2;have e2:older (s.a k)=s.a k+1:=by unfold older;rw[au hpos.1];omega
    rw[e2]at H;clear h e1 e2 p1 p2;generalize s.a k=x at *;go_wp2_with fail
    go_region
    all_goals
     go_wp2;go_roundw
     case rel=>exact⟨k+1,by omega,by go_num,H.o.drew,(o.set _ _).drew⟩
     case measure=>simp[intOf];omega
   ·have e2:s.agd (k+1)=s.agd k:=by
     unfold MS.agd
     congr 1
     funext i
     rcases nX i k with h|h|h
     ·rw[au (by omega),au (by omega)]
     ·subst h;rw[au (by omega),ai (by omega)];unfold older;split<;>omega
     ·rw[ai (by omega),ai (by omega)]
    clear H e1 p1 p2;by_cases h0:0<=s.a k
    ·have q2:decide ((0:Int)<=s.a k)=true:=av h0
     have q3:decide (s.a k<65535)=false:=aj (by omega);go_wp2;go_roundw
     case rel=>exact⟨k+1,by omega,by go_num,e2▸h,o⟩
     case measure=>simp[intOf];omega
    ·have q2:decide ((0:Int)<=s.a k)=false:=aj h0
     go_wp2;go_roundw
     case rel=>exact⟨k+1,by omega,by go_num,e2▸h,o⟩
     case measure=>simp[intOf];omega
  ·obtain rfl:k=8:=by omega
   go_wp2;exact aD (ax (by rfl) _ _ _) rfl ⟨rfl,SPt.alike h (λi hi=>rfl) (λi hi=>by simp[MS.agd,MS.age,hi]) (λi hi=>rfl),o⟩
theorem yN(c:Cx 26)(G:Nat->Prop)(F:List Nat)(g:Nat)(s:MS)(n:Int)(w:World)(h:SPt c G F w g s):
  Calls Tryz.prog 137 #[↑(g,26),↑n] w λe w'=>∃v,e=.returned (.agg #[v,↑(s.ga n),↑(s.gg n)])/\iI w' w' v (s.gd n)/\(s.gd n≠[]->iJ w' w v (s.gd n))/\Below w w w':=by
 have HN:=λW=>af (xZ g n W);by_cases hn:isN n
 ·rw[av hn]at HN
  rw[show s.ga n=s.a n.toNat by unfold MS.ga;rw[au hn],show s.gg n=s.g n.toNat by unfold MS.gg;rw[au hn],show s.gd n=s.d n.toNat by unfold MS.gd;rw[au hn]];unfold isN at hn;obtain⟨i,rfl⟩:∃i:Nat,n=i:=⟨n.toNat,by omega⟩;have hi:i<8:=by omega
  rw[aQ];have hgl:=SPt.lt h;obtain⟨A,c,c0,hD⟩:=SPt.cs h hi;have c1:=SPt.ca h hi;have c2:=SPt.cg h hi;have h8:=h.2.len i hi;clear h;generalize s.d i=L at *;generalize s.a i=a at *;generalize s.g i=q at *;have hS:=(hD.1.1.alloc (.cells #[.slice none 0 0,↑(0:Int),↑false] 101)).alloc (.cells #[.slice A L.length c,↑a,↑q] 101);have hb0:=((ah w w).alloc lr (.cells #[.slice none 0 0,↑(0:Int),↑false] 101)).alloc (by simp) (.cells #[.slice A L.length c,↑a,↑q] 101);have hB4:=(aJ w w rfl #[.slice none 0 0,↑(0:Int),↑false] 101).alloc (.cells #[.slice A L.length c,↑a,↑q] 101);have hB5:=aJ (w.alloc (.cells #[.slice none 0 0,↑(0:Int),↑false] 101)) (w.heap.size+1) (by simp) #[.slice A L.length c,↑a,↑q] 101;clear hD
  go_enter Tryz.func137,Tryz.ntmps137
  go_wp2_with fail;refine(HN _).o.mono ?_;rintro _ w1 ⟨rfl,rfl⟩;have HCl:=λW(hW:iI W w (.slice A L.length c) L)=>af (wC (.slice A L.length c) L W w hW (by omega));go_wp2_with fail;refine(HCl _ hS).o.mono ?_;rintro _ w2 ⟨v2,rfl,ho2,hb2⟩;have ho2:iJ w2 (w.heap.size+2) v2 L:=ho2.base (Nat.le_of_eq (by simp));have hb2:Below (w.heap.size+2) _ w2:=hb2.mono (by simp);have hB4:=hB4.below hb2 (by simp);have hB5:=hB5.below hb2 (by simp);have hb3:=hb0.trans (hb2.mono (by simp));obtain⟨A2,d2,rfl,-⟩:=ho2.sees.at_;have x0:=hB4.cell 0 (x:=.slice none 0 0) rfl;have x1:=hB4.cell 1 (x:=↑(0:Int)) rfl;have x2:=hB4.cell 2 (x:=↑false) rfl;have y0:=hB5.cell 0 (x:=.slice A L.length c) rfl;have y1:=hB5.cell 1 (x:=↑a) rfl;have y2:=hB5.cell 2 (x:=↑q) rfl;have f0:=hB4.frozen 0;have f1:=hB4.frozen 1;have f2:=hB4.frozen 2;have f5:=hB5.frozen 0;have hO:=((((ho2.iN (w.heap.size+1,0) (.slice A2 L.length d2) (by simp)).iN (w,0) (.slice A2 L.length d2) (by simp)).iN (w,1) ↑a (by simp)).iN (w,2) ↑q (by simp));have HB:=af ((((hb3.setCell (p:=(w.heap.size+1,0)) (by simp) (.slice A2 L.length d2)).setCell (p:=(w.heap.size,0)) (by simp) (.slice A2 L.length d2)).setCell (p:=(w.heap.size,1)) (by simp) ↑a).setCell (p:=(w.heap.size,2)) (by simp) ↑q);clear hB4 hB5 hb2 ho2 c0 c1 c2;go_wp2;refine aK (v:=.agg #[.slice A2 L.length d2,↑a,↑q]) ?_ rfl ?_
  ·rw[j4 rfl]
   go_simp
  ·exact⟨_,rfl,hO.sees,λ_=>hO.base (by omega),HB.o⟩
 ·rw[aj hn]at HN
  rw[show s.ga n=-1 by unfold MS.ga;rw[ai hn],show s.gg n=false by unfold MS.gg;rw[ai hn],show s.gd n=[] by unfold MS.gd;rw[ai hn]];clear h
  go_enter Tryz.func137,Tryz.ntmps137
  go_wp2_with fail;refine(HN _).o.mono ?_;rintro _ w1 ⟨rfl,rfl⟩;have HV:=λW=>af (FB W);have hB4:=aJ w w rfl #[.slice none 0 0,↑(0:Int),↑false] 101;have hb0:=(ah w w).alloc lr (.cells #[.slice none 0 0,↑(0:Int),↑false] 101);go_wp2_with fail;refine(HV _).o.mono ?_;rintro _ w2 ⟨rfl,hb2⟩;have hB4:=hB4.below hb2 (by simp);have hb3:=hb0.trans (hb2.mono (by simp));have x0:=hB4.cell 0 (x:=.slice none 0 0) rfl;have x1:=hB4.cell 1 (x:=↑(0:Int)) rfl;have x2:=hB4.cell 2 (x:=↑false) rfl;have f0:=hB4.frozen 0;have f1:=hB4.frozen 1;have f2:=hB4.frozen 2;have HB:=af (((hb3.setCell (p:=(w.heap.size,0)) (by simp) (.slice none 0 0)).setCell (p:=(w.heap.size,1)) (by simp) ↑(-1:Int)).setCell (p:=(w.heap.size,2)) (by simp) ↑false);clear hB4 hb0 hb2 hb3;go_wp2;refine aK (v:=.agg #[.slice none 0 0,↑(-1:Int),↑false]) ?_ rfl ?_
  ·rw[j4 rfl]
   go_simp
  ·exact⟨_,rfl,gR,λh=>absurd rfl h,HB.o⟩
theorem Le(c:Cx 26)(G:Nat->Prop)(F:List Nat)(g:Nat)(s:MS)(n:Int)(v:Value)(l:List Int)(B:Nat)(w:World)(h:SPt c G F w g s)(hg:g∈F)(hF:∀f,f∈F->f<w.heap.size)(hGn:∀b,w.heap.size<=b->G b)(hv:iI w B v l)(hl:iK l):
  Calls Tryz.prog 166 #[↑(g,26),↑n,v] w λe w'=>e=.returned (.tuple #[])/\SPt c G F w' g (s.put n l)/\Only g w w':=by
 have HN:=λW=>af (xZ g n W);obtain⟨A,c,rfl,v1,v2,v3,v4⟩:=hv.at_;unfold maxLen at v2;by_cases hn:isN n
 case neg=>
  rw[aj hn]at HN;rw[show s.put n l=s by unfold MS.put;rw[ai (λh=>hn h.1)]];clear v3 v4
  go_enter Tryz.func166,Tryz.ntmps166
  go_wp2_with fail;refine(HN _).o.mono ?_;rintro _ _ ⟨rfl,rfl⟩;go_wp2;exact aD (ax (by rfl) _ _ _) rfl ⟨rfl,h,aE _ _⟩
 rw[av hn]at HN;by_cases h8:l.length<=8
 case neg=>
  have q8:decide (((l.length:Nat):Int)<=8)=false:=aj (by omega);rw[show s.put n l=s by unfold MS.put;rw[ai (λh=>h8 h.2)]];clear v3 v4
  go_enter Tryz.func166,Tryz.ntmps166
  go_wp2_with fail;refine(HN _).o.mono ?_;rintro _ _ ⟨rfl,rfl⟩;go_wp2;exact aD (ax (by rfl) _ _ _) rfl ⟨rfl,h,aE _ _⟩
 have q8:decide (((l.length:Nat):Int)<=8)=true:=av (by omega);rw[show s.put n l=⟨upd s.d n.toNat l,upd s.a n.toNat 0,s.g⟩ by unfold MS.put;rw[au ⟨hn,h8⟩]];unfold isN at hn;obtain⟨i,rfl⟩:∃i:Nat,n=i:=⟨n.toNat,by omega⟩;have hi:i<8:=by omega
 rw[aQ];have hv1:=af hv;have HCl:=λW(hW:iI W B (.slice A l.length c) l)=>af (wC (.slice A l.length c) l W B hW (by omega));clear v3 v4 hv
 go_enter Tryz.func166,Tryz.ntmps166
 go_wp2_with fail;refine(HN _).o.mono ?_;rintro _ w1 ⟨rfl,rfl⟩;go_wp2_with fail
 go_region_with (first
  |(go_at_call 71;refine(HCl _ hv1.o.drew).o.mono ?_;rintro _ w2 ⟨v2,rfl,ho2,hb2⟩;have hb2:Below w1 w1 w2:=((ah w1 w1).drew).trans hb2;have hD2:jr G F w2 v2 l:=⟨iJ.dat (F:=F) ho2 hF,λ_ b hb=>hGn b (ho2.lt b hb).1⟩;(obtain⟨A2,d2,rfl,-⟩:=hD2.1.1.at_);have hE2:=af hD2;clear hD2;have h2:=SPt.below h hb2;have cd2:=SPt.cd h2 hi;have ca2:=SPt.ca h2 hi;have f2:=iq h2 (26+i*3);have f2':=iq h2 (26+i*3+1);(obtain⟨u2,cu2,-⟩:=cd2);have o2:=af (iQ g hb2);have h2:=af h2;clear hb2 ho2))
 all_goals
  go_wp2;exact aD (ax (by rfl) _ _ _) rfl ⟨rfl,SPt.oW (SPt.rG h2.o hg hi hE2.o h8 hl) hg hi 0 (by omega) (by omega),(o2.o.set _ _).set _ _⟩
end
end Go.Proofs.YteadkhigkmijiaaGreat
