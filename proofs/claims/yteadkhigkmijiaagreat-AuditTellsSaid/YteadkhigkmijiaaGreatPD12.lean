/- Texts NdD, NdG, NdH, NdI, NdA, NdN in one. -/
import Derived.BigQuiet
import Derived.StillTailTactics
import Derived.Deep.RegionHeld3
import Derived.Test.YteadkhigkmijiaaGreatPD1
import Derived.Test.YteadkhigkmijiaaGreatPD6
import Derived.Test.YteadkhigkmijiaaGreatPD8
import Derived.Test.YteadkhigkmijiaaGreatPD11
set_option linter.all false
namespace Go.Proofs.YteadkhigkmijiaaGreat
section
set_option maxRecDepth 100000
set_option maxHeartbeats 2000000
open Go.RowKit
open Clk (avg)
section
variable {b:Bool}{G:Nat->Prop}{w:World}{g:Nat}{m:NM}
theorem NA.join(h:NA b G w g m)(n:Int):Calls Tryz.prog 98 #[↑(g,17),↑n] w λe w'=>e=.returned (.tuple #[])/\NA b G w' g {m with ty:=m.ty.join n}/\Only g w w':=by
 obtain⟨c,h1,h2⟩:=h.tp;refine(CF c g _ n w h1).mono ?_;rintro _ w' ⟨rfl,hT,o⟩;exact⟨rfl,h2 _ _ hT o,o⟩
theorem NA.miss(h:NA b G w g m)(n:Int):Calls Tryz.prog 167 #[↑(g,17),↑n] w λe w'=>e=.returned (.tuple #[])/\NA b G w' g {m with ty:=m.ty.miss n}/\Only g w w':=by
 obtain⟨c,h1,h2⟩:=h.tp;refine(CG c g _ n w h1).mono ?_;rintro _ w' ⟨rfl,hT,o⟩;exact⟨rfl,h2 _ _ hT o,o⟩
theorem NA.right(h:NA b G w g m)(n:Int)(hb:m.ty.a<1000):Calls Tryz.prog 165 #[↑(g,17),↑n] w λe w'=>e=.returned (.tuple #[])/\NA b G w' g {m with ty:=m.ty.right n}/\Only g w w':=by
 obtain⟨c,h1,h2⟩:=h.tp;refine(K7 c g _ n w h1 hb).mono ?_;rintro _ w' ⟨rfl,hT,o⟩;exact⟨rfl,h2 _ _ hT o,o⟩
theorem NA.wrong(h:NA b G w g m)(n:Int)(hb:m.ty.f<1000):Calls Tryz.prog 168 #[↑(g,17),↑n] w λe w'=>e=.returned (.tuple #[])/\NA b G w' g {m with ty:=m.ty.wrong n}/\Only g w w':=by
 obtain⟨c,h1,h2⟩:=h.tp;refine(K8 c g _ n w h1 hb).mono ?_;rintro _ w' ⟨rfl,hT,o⟩;exact⟨rfl,h2 _ _ hT o,o⟩
theorem NA.clear(h:NA b G w g m):Calls Tryz.prog 99 #[↑(g,17)] w λe w'=>e=.returned (.tuple #[])/\NA b G w' g {m with ty:=m.ty.clear}/\Only g w w':=by
 obtain⟨c,h1,h2⟩:=h.tp;refine(K9 c g _ w h1).mono ?_;rintro _ w' ⟨rfl,hT,o⟩;exact⟨rfl,h2 _ _ hT o,o⟩
theorem NA.wB(h:NA b G w g m):Calls Tryz.prog 89 #[↑(g,20)] w λe w'=>e=.returned (.tuple #[])/\NA b G w' g {m with ck:=[]}/\Only g w w':=by
 obtain⟨c,h1,h2⟩:=h.kp;refine(Hq c g _ _ w h1).mono ?_;rintro _ w' ⟨rfl,hT,o⟩;exact⟨rfl,h2 _ _ hT o,o⟩
theorem NA.measure(h:NA b G w g m)(n:Int):Calls Tryz.prog 108 #[↑(g,20),↑n] w λe w'=>e=.returned (.tuple #[])/\NA b G w' g {m with ck:=iT m.ck n}/\Only g w w':=by
 obtain⟨c,h1,h2⟩:=h.kp;refine(Ht c g _ _ n w h1).mono ?_;rintro _ w' ⟨rfl,hT,o⟩;exact⟨rfl,h2 _ _ hT o,o⟩
theorem NA.La(h:NA b G w g m):Calls Tryz.prog 90 #[↑(g,26)] w λe w'=>e=.returned (.tuple #[])/\NA b G w' g {m with so:=MS.new}/\Only g w w':=by
 obtain⟨c,h1,h2⟩:=h.sp;refine(Lb c G [g] g _ w h1 (by simp)).mono ?_;rintro _ w' ⟨rfl,hT,o⟩;exact⟨rfl,h2 _ _ hT o,o⟩
theorem NA.age(h:NA b G w g m):Calls Tryz.prog 203 #[↑(g,26)] w λe w'=>e=.returned (.tuple #[])/\NA b G w' g {m with so:=m.so.age}/\Only g w w':=by
 obtain⟨c,h1,h2⟩:=h.sp;refine(Lc c G [g] g _ w h1 (by simp)).mono ?_;rintro _ w' ⟨rfl,hT,o⟩;exact⟨rfl,h2 _ _ hT o,o⟩
theorem NA.member(h:NA b G w g m)(n:Int)(q:Bool):Calls Tryz.prog 169 #[↑(g,26),↑n,↑q] w λe w'=>e=.returned (.tuple #[])/\NA b G w' g {m with so:=m.so.member n q}/\Only g w w':=by
 obtain⟨c,h1,h2⟩:=h.sp;refine(Ld c G [g] g _ n q w h1 (by simp)).mono ?_;rintro _ w' ⟨rfl,hT,o⟩;exact⟨rfl,h2 _ _ hT o,o⟩
theorem NA.put(h:NA b G w g m)(n:Int){v:Value}{l:List Int}{B:Nat}(hG:∀x,w.heap.size<=x->G x)(hv:iI w B v l)(hl:iK l):Calls Tryz.prog 166 #[↑(g,26),↑n,v] w λe w'=>e=.returned (.tuple #[])/\NA b G w' g {m with so:=m.so.put n l}/\Only g w w':=by
 obtain⟨c,h1,h2⟩:=h.sp;refine(Le c G [g] g _ n v l B w h1 (by simp) (λf hf=>by rw[bD]at hf;rw[hf];exact h.lt) hG hv hl).mono ?_;rintro _ w' ⟨rfl,hT,o⟩;exact⟨rfl,h2 _ _ hT o,o⟩
theorem NA.members(h:NA b G w g m):Calls Tryz.prog 135 #[↑(g,17)] w λe w'=>e=.returned ↑(m.ty.m:Nat)/\w'=w:=by
 obtain⟨c,h1,-⟩:=h.tp;exact Lf c g _ w h1
theorem NA.mo(h:NA b G w g m):Calls Tryz.prog 142 #[↑(g,17)] w λe w'=>e=.returned ↑(decide (m.ty.f<=m.ty.a))/\∃k,w'=w.drewN k:=by
 obtain⟨c,h1,-⟩:=h.tp;exact Lg c g _ w h1
theorem NA.mr(h:NA b G w g m):Calls Tryz.prog 143 #[↑(g,17)] w λe w'=>e=.returned ↑(decide (m.ty.a=0))/\w'=w:=by
 obtain⟨c,h1,-⟩:=h.tp;exact Lh c g _ w h1
theorem NA.is_(h:NA b G w g m)(n:Int):Calls Tryz.prog 170 #[↑(g,17),↑n] w λe w'=>e=.returned ↑(isB m.ty.m n)/\w'=w:=by
 obtain⟨c,h1,-⟩:=h.tp;exact Li c g _ n w h1
theorem NA.term(h:NA b G w g m)(hs:small m.ck)(hm:0<=m.t.lm/\m.t.lm<=9223372036854775807):Calls Tryz.prog 202 #[↑(g,20)] w λe w'=>e=.returned (.tuple #[↑(jb m.t.lm m.ck),↑(wiB m.t.lm (avg m.ck))])/\Below w w w':=by
 obtain⟨c,h1,-⟩:=h.kp;exact Hu c g _ _ w h1 hs hm
theorem NA.get(h:NA b G w g m)(n:Int):Calls Tryz.prog 137 #[↑(g,26),↑n] w λe w'=>∃v,e=.returned (.agg #[v,↑(m.so.ga n),↑(m.so.gg n)])/\iI w' w' v (m.so.gd n)/\(m.so.gd n≠[]->iJ w' w v (m.so.gd n))/\Below w w w':=by
 obtain⟨c,h1,-⟩:=h.sp;exact yN c G [g] g _ n w h1
theorem NA.vu(h:NA b G w g m)(n:Int):Calls Tryz.prog 138 #[↑(g,50),↑n] w λe w'=>e=.returned ↑((if isR m.al n then m.ar n.toNat else 0:Nat):Int)/\w'=w:=by
 obtain⟨c,c',V,h1,-,-⟩:=h.ap;exact Gt c V [g] g _ _ _ n w h1
theorem NA.Lj(h:NA b G w g m)(n:Int):Calls Tryz.prog 72 #[↑(g,50),↑n] w λe w'=>e=.returned ↑(jP m.al m.an m.ar n)/\NA b G w' g {m with ar:=jS m.al m.an m.ar n}/\Only g w w':=by
 obtain⟨c,c',V,h1,-,h2⟩:=h.ap;refine(Gu c V [g] g _ _ _ n w h1 (by simp)).mono ?_;rintro _ w' ⟨rfl,hT,o⟩;exact⟨rfl,h2 _ _ _ hT o,o⟩
theorem NA.look(h:NA b G w g m):Calls Tryz.prog 204 #[↑(g,50),qx g] w λe w'=>e=.returned (.tuple #[])/\NA b G w' g {m with an:=iR m.al m.so,ar:=λi=>m.ar i ||| iR m.al m.so i}/\Only g w w':=by
 obtain⟨c,c',V,h1,hS,h2⟩:=h.ap;refine(Gw c c' V G [g] g _ _ _ _ w h1 (by simp) hS).mono ?_;rintro _ w' ⟨rfl,hT,o⟩;exact⟨rfl,h2 _ _ _ hT o,o⟩
end
theorem NA.se_{b:Bool}{G:Nat->Prop}{w:World}{g:Nat}{m:NM}(h:NA b G w g m)(q:Bool):NA b G w g {m with se:=q}:=⟨h.ex,h.tyo,h.cko,h.soo,h.al8,h.n16,h.r16⟩
theorem Ll(w:World)(a:Addr)(v:Value):(w.setCell a v).heap.size=w.heap.size:=by simp[World.setCell]
theorem oO(b:Bool)(G:Nat->Prop)(g:Nat)(m:NM)(k:Nat)(z:Int)(hz:z=k)(w:World)(h:NA b G w g m):
  Calls Tryz.prog 60 #[↑(g,0),↑z] w λe w'=>e=.returned (.tuple #[])/\NA false G w' g (m.anew k)/\Only g w w':=by
 subst hz;have HT:=λW=>af (CH 0 W);have c10:=h.c10;have c11:=h.c11;have c12:=h.c12;have c13:=h.c13;have c14:=h.c14;have f10:=h.frozen 10;have f11:=h.frozen 11;have f12:=h.frozen 12;have f13:=h.frozen 13;have f14:=h.frozen 14;have h1:=af (((((h.sSt k).sRd 0).sSl 0).sWt 0).sSe false);have o1:=af (((((((aE g w).set 10 ↑(k:Nat)).set 11 ↑(0:Int)).set 12 ↑(0:Int)).set 13 ↑(0:Int)).set 14 ↑false));clear h
 go_enter Tryz.func60,Tryz.ntmps60
 go_wp2_with fail;refine(HT _).o.mono ?_;rintro _ w1 ⟨rfl,hT,b1,-⟩;have h1:=h1.o.below b1;have o1:=o1.o.trans (iQ g b1);simp only[Ll]at hT;have t0:=hT.c0;have t1:=hT.c1;have t2:=hT.c2;have c17:=h1.tp;obtain⟨c,hc,-⟩:=h1.tp;have c17:=hc.c0;have c18:=hc.c1;have c19:=hc.c2;have f17:=h1.frozen 17;have f18:=h1.frozen 18;have f19:=h1.frozen 19;have h2:=af (h1.sTy ⟨0,0,0⟩ (by decide));have o2:=af (((o1.set 17 ↑(0:Int)).set 18 ↑(0:Int)).set 19 ↑(0:Int));clear h1 o1 hc hT c10 c11 c12 c13 c14 f10 f11 f12 f13 f14 HT b1;go_wp2_with fail;refine h2.o.wB.mono ?_;rintro _ w2 ⟨rfl,h3,o3⟩;have o3:=o2.o.trans o3;clear h2 o2 c17 c18 c19 f17 f18 f19 t0 t1 t2;go_wp2_with fail;refine h3.La.mono ?_;rintro _ w3 ⟨rfl,h4,o4⟩;go_wp2;exact aD (ax (by rfl) _ _ _) rfl ⟨rfl,h4.se_ false,o3.trans o4⟩
end
section
set_option maxRecDepth 100000
set_option maxHeartbeats 1000000
open Go.RowKit
theorem Lm(b:Bool)(G:Nat->Prop)(g:Nat)(m:NM)(w:World)(h:NA b G w g m):
  Calls Tryz.prog 78 #[↑(g,0)] w λe w'=>e=.returned ↑(m.st:Nat)/\w'=w:=by
 have c10:=h.c10;clear h
 go_enter Tryz.func78,Tryz.ntmps78
 go_wp2;go_ret;exact⟨rfl,rfl⟩
theorem Lp(b:Bool)(G:Nat->Prop)(g:Nat)(m:NM)(w:World)(h:NA b G w g m):
  Calls Tryz.prog 68 #[↑(g,0)] w λe w'=>e=.returned ↑m.tm/\w'=w:=by
 have c15:=h.c15;clear h
 go_enter Tryz.func68,Tryz.ntmps68
 go_wp2;go_ret;exact⟨rfl,rfl⟩
theorem Lr(b:Bool)(G:Nat->Prop)(g:Nat)(m:NM)(n:Int)(w:World)(h:NA b G w g m):
  Calls Tryz.prog 82 #[↑(g,0),↑n] w λe w'=>e=.returned ↑((if isR m.al n then m.ar n.toNat else 0:Nat):Int)/\w'=w:=by
 have H:=af (h.vu n);clear h;generalize(if isR m.al n then m.ar n.toNat else 0:Nat)=R at *
 go_enter Tryz.func82,Tryz.ntmps82
 go_wp2_with fail;refine H.o.mono ?_;rintro _ _ ⟨rfl,rfl⟩;go_wp2;go_ret;exact⟨rfl,rfl⟩
theorem Ls(b:Bool)(G:Nat->Prop)(g:Nat)(m:NM)(n:Int)(w:World)(h:NA b G w g m):
  Calls Tryz.prog 33 #[↑(g,0),↑n] w λe w'=>e=.returned ↑(jP m.al m.an m.ar n)/\NA b G w' g {m with ar:=jS m.al m.an m.ar n}/\Only g w w':=by
 have H:=af (h.Lj n);clear h;generalize jP m.al m.an m.ar n=R at *
 go_enter Tryz.func33,Tryz.ntmps33
 go_wp2_with fail;refine H.o.mono ?_;rintro _ w1 ⟨rfl,h1,o1⟩;go_wp2;go_ret;exact⟨rfl,h1,o1⟩
theorem Lu(b:Bool)(G:Nat->Prop)(g:Nat)(m:NM)(n:Int)(w:World)(h:NA b G w g m):
  Calls Tryz.prog 80 #[↑(g,0),↑n] w λe w'=>∃v,e=.returned (.agg #[v,↑(m.so.ga n),↑(m.so.gg n)])/\iI w' w' v (m.so.gd n)/\iK (m.so.gd n)/\Below w w w':=by
 have hl:=(h.soo.gd n).2;have hX:=aJ w w rfl #[.slice none 0 0,↑(0:Int),↑false] 101;have hb0:=(ah w w).alloc lr (.cells #[.slice none 0 0,↑(0:Int),↑false] 101);have H:=af ((h.alloc (.cells #[.slice none 0 0,↑(0:Int),↑false] 101)).get n);clear h;generalize m.so.ga n=a at *;generalize m.so.gg n=q at *;generalize m.so.gd n=L at *
 go_enter Tryz.func80,Tryz.ntmps80
 go_wp2_with fail;refine H.o.mono ?_;rintro _ w1 ⟨v,rfl,hs,ho,b1⟩;obtain⟨A,c,rfl,-⟩:=hs.at_;have hX:=hX.below b1 (by simp);have x0:=hX.cell 0 (x:=.slice none 0 0) rfl;have x1:=hX.cell 1 (x:=↑(0:Int)) rfl;have x2:=hX.cell 2 (x:=↑false) rfl;have f0:=hX.frozen 0;have f1:=hX.frozen 1;have f2:=hX.frozen 2;have HB:=af ((((hb0.trans (b1.mono (by simp))).setCell (p:=(w.heap.size,0)) (by simp) (.slice A L.length c)).setCell (p:=(w.heap.size,1)) (by simp) ↑a).setCell (p:=(w.heap.size,2)) (by simp) ↑q);have hs':Hid (iI (((w1.setCell (w,0) (.slice A L.length c)).setCell (w,1) ↑a).setCell (w,2) ↑q) (((w1.setCell (w,0) (.slice A L.length c)).setCell (w,1) ↑a).setCell (w,2) ↑q).heap.size (.slice A L.length c) L):=af (by
  by_cases h0:L=[]
  ·subst h0
   obtain⟨A',c',e,h1,h2,-,h4⟩:=hs.at_
   cases e
   exact⟨A,c,rfl,h1,h2,λh0=>absurd h0 (by simp),h4⟩
  ·exact((((ho h0).iN (w,0) (.slice A L.length c) (by simp)).iN (w,1) ↑a (by simp)).iN (w,2) ↑q (by simp)).sees)
 clear hs ho hX;go_wp2;refine aK (v:=.agg #[.slice A L.length c,↑a,↑q]) ?_ rfl ?_
 ·rw[j4 rfl]
  go_simp
 ·exact⟨_,rfl,hs'.o,hl,HB.o⟩
theorem pX(b:Bool)(G:Nat->Prop)(g:Nat)(m:NM)(w:World)(h:NA b G w g m):
  Calls Tryz.prog 79 #[↑(g,0)] w λe w'=>e=.returned (csV m.rd m.sl m.ty.m)/\Below w w w':=by
 unfold csV;have hX:=aJ w w rfl #[↑(0:Int),↑(0:Int),↑(0:Int)] 96;have hb0:=(ah w w).alloc lr (.cells #[↑(0:Int),↑(0:Int),↑(0:Int)] 96);have h1:=h.alloc (.cells #[↑(0:Int),↑(0:Int),↑(0:Int)] 96);have H:=af h1.drew.members;have c11:=h1.c11;have c12:=h1.c12;clear h h1
 go_enter Tryz.func79,Tryz.ntmps79
 go_wp2_with fail;generalize w.alloc (.cells #[↑(0:Int),↑(0:Int),↑(0:Int)] 96)=w2 at *
 go_still_tail 13,(by kernel_rfl)
 still_call H.o
 repeat still_step
 refine wpStill_nil ?_;change wpList _ _ _ _ _ w2.drew;have hX:=hX.drew;have hb:=hb0.drew;generalize w2.drew=w3 at *;have x0:=hX.cell 0 (x:=↑(0:Int)) rfl;have x1:=hX.cell 1 (x:=↑(0:Int)) rfl;have x2:=hX.cell 2 (x:=↑(0:Int)) rfl;have f0:=hX.frozen 0;have f1:=hX.frozen 1;have f2:=hX.frozen 2;have HB:=af (((hb.setCell (p:=(w.heap.size,0)) (by simp) ↑m.rd).setCell (p:=(w.heap.size,1)) (by simp) ↑(m.sl:Nat)).setCell (p:=(w.heap.size,2)) (by simp) ↑(m.ty.m:Nat));clear hX hb hb0 c11 c12 H;go_wp2;refine aK (v:=.agg #[↑m.rd,↑(m.sl:Nat),↑(m.ty.m:Nat)]) ?_ rfl ?_
 ·rw[j4 rfl]
  go_simp
 ·exact⟨rfl,HB.o⟩
theorem Lv(b:Bool)(G:Nat->Prop)(g:Nat)(m:NM)(w:World)(h:NA b G w g m):
  Calls Tryz.prog 31 #[↑(g,0)] w λe w'=>e=.returned (.tuple #[])/\NA false G w' g m.off/\Only g w w':=by
 have H:=af (oO b G g m 0 0 rfl w h);unfold NM.off;generalize m.anew 0=m' at *;clear h
 go_enter Tryz.func31,Tryz.ntmps31
 go_wp2_with fail;refine H.o.mono ?_;rintro _ w1 ⟨rfl,h1,o1⟩;go_wp2;exact aD (ax (by rfl) _ _ _) rfl ⟨rfl,h1,o1⟩
theorem Lx(b:Bool)(G:Nat->Prop)(g:Nat)(m:NM)(a:Int)(w:World)(h:NA b G w g m)(h5:m.st<=5):
  Calls Tryz.prog 30 #[↑(g,0),↑a] w λe w'=>e=.returned ↑(m.onE a)/\NA (if m.onE a=0 then false else b) G w' g (m.on a)/\Only g w w':=by
 by_cases h1:a < -1000\/1000<a
 ·have e:m.onE a=1:=by unfold NM.onE;rw[au h1]
  rw[e,show m.on a=m by unfold NM.on;rw[e];rfl];rw[ai (by omega)];by_cases h2:a < -1000
  ·clear h1
   go_enter Tryz.func30,Tryz.ntmps30
   go_wp2;go_ret;exact⟨rfl,h,aE _ _⟩
  ·have h3:1000<a:=by omega
   have h2:-1000<=a:=by omega
   clear h1
   go_enter Tryz.func30,Tryz.ntmps30
   go_wp2;go_ret;exact⟨rfl,h,aE _ _⟩
 ·have a1:-1000<=a:=by omega
  have a2:a<=1000:=by omega
  have c10:=h.c10;by_cases h2:m.st≠0/\m.st≠5
  ·have e:m.onE a=4:=by unfold NM.onE;rw[ai h1,au h2]
   rw[e,show m.on a=m by unfold NM.on;rw[e];rfl];rw[ai (by omega)];have hk:Hid (NA b G w g m):=af h;clear h1 e h;rcases(by omega:m.st=1\/m.st=2\/m.st=3\/m.st=4)with e|e|e|e
   all_goals
    rw[e]at c10;clear h2 e h5
    go_enter Tryz.func30,Tryz.ntmps30
    go_wp2;go_ret;exact⟨rfl,hk.o,aE _ _⟩
  ·have e:m.onE a=0:=by unfold NM.onE;rw[ai h1,ai h2]
   rw[e,show m.on a={m.anew 1 with tm:=a} by unfold NM.on;rw[au e]];rw[au rfl];have HB:=af (oO b G g m 1 1 rfl w h);clear h h1 e;generalize m.anew 1=m' at *;rcases(by omega:m.st=0\/m.st=5)with e|e
   all_goals
    rw[e]at c10;clear h2 e
    go_enter Tryz.func30,Tryz.ntmps30
    go_wp2_with fail;refine HB.o.mono ?_;rintro _ w1 ⟨rfl,h1,o1⟩;have c15:=h1.c15;have f15:=h1.frozen 15;have h2:=af (h1.sTm a);clear h1;go_wp2;go_ret;exact⟨rfl,h2.o,o1.set _ _⟩
theorem Ly(b:Bool)(G:Nat->Prop)(g:Nat)(m:NM)(v:Value)(l:List Int)(B:Nat)(w:World)(h:NA b G w g m)(hG:∀x,w.heap.size<=x->G x)(hv:iI w B v l)(hz:m.me.sz<=8):
  Calls Tryz.prog 32 #[↑(g,0),v] w λe w'=>e=.returned ↑(m.kN l)/\NA b G w' g (m.write l)/\Only g w w':=by
 have c7:=h.c7;obtain⟨A,c,rfl,v1,v2,v3,v4⟩:=hv.at_;unfold maxLen at v2;clear v3 v4;by_cases h1:m.me.sz<l.length
 ·rw[show m.kN l=1 by unfold NM.kN;rw[au h1],show m.write l=m by unfold NM.write;rw[au h1]]
  go_enter Tryz.func32,Tryz.ntmps32
  go_wp2;go_ret;exact⟨rfl,h,aE _ _⟩
 ·rw[show m.kN l=0 by unfold NM.kN;rw[ai h1],show m.write l={m with da:=l} by unfold NM.write;rw[ai h1]]
  have hC:=af (wC (.slice A l.length c) l w B hv (by omega));have h1:((l.length:Nat):Int)<=m.me.sz:=by omega
  have hgl:=h.lt;have hk:Hid (NA b G w g m):=af h;clear h hv
  go_enter Tryz.func32,Tryz.ntmps32
  go_wp2_with fail;refine hC.o.mono ?_;rintro _ w1 ⟨v',rfl,ho,b1⟩;have h2:=hk.o.below b1;obtain⟨A',c',c16,-⟩:=h2.cD;have f16:=h2.frozen 16;have h3:=af (h2.sDa (v:=v') (l:=l) ⟨ho.dat (by simpa using hgl),λ_ x hx=>hG x (ho.lt x hx).1⟩);obtain⟨A2,d2,rfl,-⟩:=ho.sees.at_;clear h2 ho;go_wp2;go_ret;exact⟨rfl,h3.o,(iQ g b1).set _ _⟩
def NM.kL(m:NM):Int:=if m.st=1 then 3 else if m.me.inf=true\/m.st≠4\/m.rd%2=0 then 2 else 1
theorem qN(b:Bool)(G:Nat->Prop)(g:Nat)(m:NM)(w:World)(h:NA b G w g m)(h5:m.st<=5)(hr:0<=m.rd/\m.rd<=65535):
  Calls Tryz.prog 95 #[↑(g,0)] w λe w'=>e=.returned ↑m.kL/\w'=w:=by
 have c5:=h.c5;have c10:=h.c10;have c11:=h.c11;unfold NM.kL;clear h;generalize m.me.inf=q at *;generalize m.rd=r at *;obtain⟨r1,r2⟩:=hr;by_cases h1:m.st=1
 ·rw[h1]at c10
  rw[au h1];clear h5 h1
  go_enter Tryz.func95,Tryz.ntmps95
  go_wp2;go_ret;exact⟨rfl,rfl⟩
 ·rw[ai h1]
  by_cases h4:m.st=4
  ·rw[h4]at c10
   cases q
   ·have hm:Int.tmod r 2=r%2:=dA r1
    by_cases hp:r%2=0
    ·rw[au (.inr (.inr hp))]
     clear h5 h1 h4
     go_enter Tryz.func95,Tryz.ntmps95
     go_wp2;go_ret;exact⟨rfl,rfl⟩
    ·rw[ai (by simp[h4,hp])]
     have hp:r%2=1:=by omega
     clear h5 h1 h4
     go_enter Tryz.func95,Tryz.ntmps95
     go_wp2;go_ret;exact⟨rfl,rfl⟩
   ·rw[au (.inl rfl)]
    clear h5 h1 h4
    go_enter Tryz.func95,Tryz.ntmps95
    go_wp2;go_ret;exact⟨rfl,rfl⟩
  ·rw[au (.inr (.inl h4))]
   rcases(by omega:m.st=0\/m.st=2\/m.st=3\/m.st=5)with e|e|e|e
   all_goals
    rw[e]at c10;clear h5 h1 h4 e
    cases q
    all_goals
     go_enter Tryz.func95,Tryz.ntmps95
     go_wp2;go_ret;exact⟨rfl,rfl⟩
theorem LA(b:Bool)(G:Nat->Prop)(g:Nat)(m:NM)(w:World)(h:NA b G w g m)(hw:(m.wt:Int)+1<m.me.li)(hl:m.me.li<=1000):
  Calls Tryz.prog 96 #[↑(g,0)] w λe w'=>e=.returned ↑false/\NA b G w' g {m with wt:=m.wt+1}/\Only g w w':=by
 have c13:=h.c13;have f13:=h.frozen 13;have H1:=af (h.sWt (m.wt+1));have d6:=H1.o.c6;have d13:=H1.o.c13;have o1:=af (((aE g w).set 13 ↑((m.wt+1:Nat):Int)));have e0:((m.wt+1:Nat):Int)=((m.wt:Nat):Int)+1:=by omega
 rw[show({m with wt:=m.wt+1}:NM).me=m.me from rfl]at d6;rw[show({m with wt:=m.wt+1}:NM).wt=m.wt+1 from rfl]at d13;rw[e0]at d13 d6 o1;have H1:Hid (NA b G (w.setCell (g,13) ↑(((m.wt:Nat):Int)+1:Int)) g {m with wt:=m.wt+1}):=af H1.o;have q:(((m.wt:Nat):Int)+1==m.me.li)=false:=by rw[aB];omega
 have z2:((m.wt:Nat):Int)<=1000:=by omega
 clear h hw e0;generalize hz:((m.wt:Nat):Int)=z at *;generalize hy:m.me.li=y at *;have z1:0<=z:=by omega
 go_enter Tryz.func96,Tryz.ntmps96
 go_wp2_with fail
 go_quiet (fail)
 go_wp2;go_ret;exact⟨rfl,H1.o.drewN _,o1.o.trans (iQ g (aC (ah _ _) _))⟩
theorem LB(b:Bool)(G:Nat->Prop)(g:Nat)(m:NM)(w:World)(h:NA b G w g m)(hw:m.me.li=(m.wt:Int)+1)(hl:m.me.li<=1000):
  Calls Tryz.prog 96 #[↑(g,0)] w λe w'=>e=.returned ↑true/\NA false G w' g {m.anew 2 with sl:=m.i}/\Only g w w':=by
 have c13:=h.c13;have f13:=h.frozen 13;have H1:=af (h.sWt (m.wt+1));have d6:=H1.o.c6;have d13:=H1.o.c13;have o1:=af (((aE g w).set 13 ↑((m.wt+1:Nat):Int)));have e0:((m.wt+1:Nat):Int)=((m.wt:Nat):Int)+1:=by omega
 rw[show({m with wt:=m.wt+1}:NM).me=m.me from rfl,hw]at d6;rw[show({m with wt:=m.wt+1}:NM).wt=m.wt+1 from rfl]at d13;rw[e0]at d13 d6 o1;have H1:Hid (NA b G (w.setCell (g,13) ↑(((m.wt:Nat):Int)+1:Int)) g {m with wt:=m.wt+1}):=af H1.o;have z2:((m.wt:Nat):Int)<=1000:=by omega
 have HB:=λW(h:NA b G W g {m with wt:=m.wt+1})=>af (oO b G g _ 2 2 rfl W h);rw[show({m with wt:=m.wt+1}:NM).anew 2=m.anew 2 from rfl]at HB;have hi:(m.anew 2).i=m.i:=rfl;clear h hw e0 hl;generalize m.i=i at *;generalize m.anew 2=m2 at *;generalize hz:((m.wt:Nat):Int)=z at *;have z1:0<=z:=by omega
 go_enter Tryz.func96,Tryz.ntmps96
 go_wp2_with fail
 go_quiet (fail)
 go_wp2_with fail;refine(HB _ (H1.o.drewN _)).o.mono ?_;rintro _ w2 ⟨rfl,h2,o2⟩;have c8:=h2.c8;rw[hi]at c8;have c12:=h2.c12;have f12:=h2.frozen 12;have h3:=af (h2.sSl i);have o3:=af (((o1.o.trans (iQ g (aC (ah _ _) _))).trans o2).set 12 ↑(i:Nat));clear h2 o2 H1 d6 d13 c13 f13 HB o1;go_wp2;go_ret;exact⟨rfl,h3.o,o3.o⟩
end
section
open Go.RowKit
def hdV(h:Hn)(vx vy:Value):Value:=.agg #[↑h.a,↑h.b,vx,vy,↑h.o]
def Eff(F F':List Nat)(w w':World):Prop:=Kq F w w'/\∀f,f∈F'->f∈F\/w.heap.size<=f
structure NodeApi(NAt:List Nat->World->Nat->NM->Prop):Prop where
 keep:∀{F W W' g s},NAt F W g s->W.heap.size<=W'.heap.size->(∀f,f∈F->W'.heap[f]?=W.heap[f]?)->NAt F W' g s
 lt:∀{F W g s},NAt F W g s->∀f,f∈F->f<W.heap.size
 CB:∀(t:Tb.T)(v u:Value)(i dr:Int)(l:List R4)(w:World),jh w w v t.ns->jl w w u l->NM.may t i dr l->
  Calls Tryz.prog 24 #[jW t v,↑i,↑dr,u] w λe w'=>∃g F,e=.returned (.tuple #[(.pointer (some ⟨g,0,none⟩)),↑(0:Int)])/\NAt F w' g (NM.new t i.toNat dr l)/\(∀f,f∈F->w.heap.size<=f)/\Below w w w'
 on:∀{F w g s}(a:Int),NAt F w g s->Calls Tryz.prog 30 #[↑(g,0),↑a] w λe w'=>∃F',e=.returned ↑(s.onE a)/\NAt F' w' g (s.on a)/\Eff F F' w w'
 send:∀{F w g s},NAt F w g s->Calls Tryz.prog 67 #[↑(g,0)] w λe w'=>∃v F',e=.returned v/\iI w' w' v s.sent/\NAt F' w' g s.iL/\Eff F F' w w'
 take:∀{F w g s vx vy}(h:Hn),NAt F w g s->iI w w vx h.x->iK h.x->iI w w vy h.y->iK h.y->s.ty.a<900->s.ty.f<900->-4611686018427387904<=s.tm/\s.tm<=4611686018427387904->-1099511627776<=h.o/\h.o<=1099511627776->
  Calls Tryz.prog 70 #[↑(g,0),hdV h vx vy] w λe w'=>∃F',e=.returned (.tuple #[])/\NAt F' w' g (s.take h)/\Eff F F' w w'
 state:∀{F w g s},NAt F w g s->Calls Tryz.prog 78 #[↑(g,0)] w λe w'=>e=.returned ↑(s.st:Nat)/\Below w w w'
 view:∀{F w g s},NAt F w g s->Calls Tryz.prog 79 #[↑(g,0)] w λe w'=>e=.returned (csV s.rd s.sl s.ty.m)/\Below w w w'
 clock:∀{F w g s},NAt F w g s->Calls Tryz.prog 68 #[↑(g,0)] w λe w'=>e=.returned ↑s.tm/\Below w w w'
structure Bw(B:Nat)(P:List Nat)(w w':World):Prop where
 b:Below B w w'
 k:∀p,p∈P->w'.heap[p]?=w.heap[p]?
theorem Bw.blk{B:Nat}{P:List Nat}{w w':World}(h:Bw B P w w'){p:Nat}(hp:p∈P){cs:Array Value}{t:TypeId}(hB:Blk w p cs t):Blk w' p cs t:=(h.k p hp).trans hB
theorem Bw.of{B C:Nat}{P:List Nat}{w w':World}(b:Below C w w')(hB:B<=C)(hP:∀p,p∈P->p<C):Bw B P w w':=⟨b.mono hB,λp hp=>b.block p (hP p hp)⟩
namespace NodeApi
variable {NAt:List Nat->World->Nat->NM->Prop}(A:NodeApi NAt){B:Nat}{P:List Nat}{w w':World}{g:Nat}{s:NM}
include A
end NodeApi
end
section
set_option maxRecDepth 100000
set_option maxHeartbeats 4000000
open Go.RowKit
open Tb (D T)
theorem jh.src{w:World}{B:Nat}{u:Value}{m:List D}(h:jh w B u m):Src w u 4 m.length (m.flatMap dc):=by
 obtain⟨A,c,rfl,-,-,h3,h4⟩:=h.at_
 cases A with
 |none=>
  obtain⟨h5,h6⟩:=h4 rfl;subst h6;have:=dx.1 h5;subst this;exact .inl ⟨rfl,rfl,rfl⟩
 |some ad=>
  refine .inr ⟨ad,c,rfl,CK m,λj x hj=>?_,λx hx=>?_⟩
  ·by_cases hjm:j<m.length*4
   ·obtain⟨b,off,he,_,hc⟩:=h3 (by omega)
    simp only[bB]at he;subst he;have h6:=hc (j / 4) (by omega);have e1:=CM m (j / 4) (by omega) (j%4) (by omega);rw[show j / 4*4+j%4=j by omega,hj]at e1;have e2:w.cell? (b,off+j)=(dc (m.getD (j / 4) default))[j%4]?:=by
     rcases(by omega:j%4=0\/j%4=1\/j%4=2\/j%4=3)with h|h|h|h<;>rw[h]
     ·rw[show off+j=off+j / 4*4 by omega];exact h6.c0
     ·rw[show off+j=off+j / 4*4+1 by omega];exact h6.c1
     ·rw[show off+j=off+j / 4*4+2 by omega];exact h6.c2
     ·rw[show off+j=off+j / 4*4+3 by omega];exact h6.c3
    rw[<-e1]at e2;by_cases h1:j=0
    ·subst h1;simpa[Addr.add]using e2
    ·simpa[Addr.add,h1]using e2
   ·rw[aY (by rw[CK];omega)]at hj
    cases hj
  ·obtain⟨r,-,hr⟩:=fY.1 hx
   simp only[dc,bq,cM,fL]at hr;rcases hr with rfl|rfl|rfl|rfl<;>rfl
theorem LS(w:World)(e:TypeId)(he:e=67)(B g:Nat)(hB:B<=w.heap.size)(hg:g=w.heap.size):jm (w.alloc (.cells #[] e)) B (.slice (some (g,0)) 0 0) []:=by
 subst he hg;exact gD w #[] 0 hB (by unfold maxLen;omega) rfl
theorem jh.alloc{w:World}{B:Nat}{v:Value}{l:List D}(h:jh w B v l)(o:Obj):jh (w.alloc o) B v l:=⟨by
 obtain⟨A,c,rfl,h1,h2,h3,h4⟩:=h.at_;refine⟨A,c,rfl,h1,h2,λh0=>?_,h4⟩;obtain⟨b,off,e,hb,hc⟩:=h3 h0;exact⟨b,off,e,hb,λk hk=>⟨bn o (hc k hk).c0,bn o (hc k hk).c1,bn o (hc k hk).c2,bn o (hc k hk).c3⟩⟩⟩
theorem jm.lt_{w:World}{B:Nat}{v:Value}{l:List D}(h:jm w B v l):∀j,v.ownBlock=some j->B<=j/\j<w.heap.size:=dL h
theorem LU(l:List D)(v:Value)(w:World)(B:Nat)(hv:jh w B v l)(h4:l.length<=1000):
  Calls Tryz.prog 58 #[v] w λe w'=>∃v',e=.returned v'/\jm w' w v' l/\Below w w w':=by
 obtain⟨A,c,rfl,h1,h2,h3,h4'⟩:=hv.at_
 cases A with
 |none=>
  obtain⟨hl,rfl⟩:=h4' rfl;have hl':=dx.1 hl;subst hl';clear h1 h2 h3 h4 h4' hl hv;have hq:=dw (P:=Tryz.prog) w 29 67 none 0 0 0 0 Tryz.underlying29
  go_enter Tryz.func58,Tryz.ntmps58
  go_wp2;go_ret;exact⟨_,rfl,jm.nil,ah _ _⟩
 |some a=>
  have H:=af (LS w 67 rfl w w lr rfl);have hs:=af ((hv.alloc (.cells #[] 67)));have q0:=dw (P:=Tryz.prog) w 29 67 (some a) l.length c 0 0 Tryz.underlying29;have hR:0+l.length<=maxLen/\(0+l.length)*24<=140737488355328:=⟨by unfold maxLen;omega,by omega⟩;clear hv h3 h4'
  go_enter Tryz.func58,Tryz.ntmps58
  go_wp2_with (at_builtin;go_loud (refine og _ rfl (.tmp 5) (.tmp 6) 29 rfl w 67 _ 4 24 wE rfl (by omega) Tryz.underlying29 _ 0 _ H.o rfl _ l.length _ rfl hs.o.src (by simp) hR.1 hR.2 ?_));intro v' w' ho he;have ho:jm w' w v' l:=by
   unfold jm;simpa using ho
  have hb:=((ah w w).alloc lr (.cells #[] 67)).trans (he.toBelow (by simp) (λj hj=>by simp[Value.ownBlock]at hj;omega));go_wp2;go_ret;exact⟨_,rfl,ho,hb⟩
def wF(l:List R4):Prop:=l.length<=8/\∀k,k<l.length->(l.getD k default).may
end
end Go.Proofs.YteadkhigkmijiaaGreat
