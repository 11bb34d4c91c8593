/- Texts FrI in one. -/
import Derived.RegionTactic
import Derived.Test.YteadkhigkmijiaaGreatPC1
import Derived.Test.YteadkhigkmijiaaGreatPC8
import Derived.Test.YteadkhigkmijiaaGreatPC17
set_option linter.all false
namespace Go.Proofs.YteadkhigkmijiaaGreat
section
set_option maxRecDepth 100000
set_option maxHeartbeats 40000000
open Go.RowKit
open Fr (St F)
structure oJ(w W:World)(o:St):Prop where
 below:Below w w W
 lt:w.heap.size+1<W.heap.size
 own:W.cell? (w,0)=some ↑o.r/\W.cell? (w,1)=some ↑o.s/\W.cell? (w,2)=some ↑o.m
 res:W.cell? (w.heap.size+1,0)=some ↑(0:Int)/\W.cell? (w.heap.size+1,1)=some ↑(0:Int)/\W.cell? (w.heap.size+1,2)=some ↑(0:Int)/\W.cell? (w.heap.size+1,3)=some ↑(0:Int)/\W.cell? (w.heap.size+1,4)=some (.slice none 0 0)
 fz:∀i,W.frozen? ⟨w.heap.size+1,i,none⟩=false
theorem oJ.keep{w W W':World}{o:St}{B:Nat}(h:oJ w W o)(hb:Below B W W')(hB:w.heap.size+1<B):oJ w W' o:=by
 have hlt:=h.lt;have hc:=jE hb;refine⟨h.below.trans (hb.mono (by omega)),by have:=hb.size;omega,?_,?_,λi=>?_⟩
 ·rw[hc _ _ (by omega),hc _ _ (by omega),hc _ _ (by omega)];exact h.own
 ·rw[hc _ _ (by omega),hc _ _ (by omega),hc _ _ (by omega),hc _ _ (by omega),hc _ _ (by omega)];exact h.res
 ·rw[<-h.fz i]
  exact hb.frozen (p:=(w.heap.size+1,i)) hB
theorem Bp(w:World)(o:St)(t t':TypeId):oJ w ((w.alloc (.cells #[↑o.r,↑o.s,↑o.m] t)).alloc (.cells #[↑(0:Int),↑(0:Int),↑(0:Int),↑(0:Int),.slice none 0 0] t')) o:=by
 refine⟨((ah w w).alloc lr _).alloc (by simp) _,by simp,?_,?_,λi=>?_⟩
 ·refine⟨?_,?_,?_⟩<;>(rw[dN _ _ _ (by simp),aZ _ _ _ _ rfl];rfl)
 ·refine⟨?_,?_,?_,?_,?_⟩<;>(rw[aZ _ _ _ _ (by simp)];rfl)
 ·go_simp
structure kO(w W:World)(g:Nat)(o:St)(X:Nat->Value):Prop where
 base:oJ w W o
 lo:w.heap.size+1<g
 hi:g<W.heap.size
 fr:∀i,i<5->W.cell? ⟨g,i,none⟩=some (X i)
 frz:∀i,W.frozen? ⟨g,i,none⟩=false
theorem kO.keep{w W W':World}{g:Nat}{o:St}{X:Nat->Value}(h:kO w W g o X)(hb:Below W W W'):kO w W' g o X:=by
 refine⟨h.base.keep hb h.base.lt,h.lo,by have:=hb.size;have:=h.hi;omega,λi hi=>?_,λi=>?_⟩
 ·rw[jE hb _ _ h.hi];exact h.fr i hi
 ·rw[<-h.frz i]
  exact hb.frozen (p:=(g,i)) h.hi
def five(x0 x1 x2 x3 x4:Value)(i:Nat):Value:=match i with|0=>x0|1=>x1|2=>x2|3=>x3|_=>x4
theorem oJ.new{w W:World}{o:St}(h:oJ w W o)(x0 x1 x2 x3 x4:Value)(t:TypeId):kO w (W.alloc (.cells #[x0,x1,x2,x3,x4] t)).drew W o (five x0 x1 x2 x3 x4):=by
 refine⟨h.keep ((ah W W).alloc lr _).drew h.lt,h.lt,by simp,λi hi=>?_,λi=>?_⟩
 ·rw[gS,aZ _ _ _ _ rfl]
  have:i=0\/i=1\/i=2\/i=3\/i=4:=by omega
  rcases this with rfl|rfl|rfl|rfl|rfl<;>rfl
 ·rw[World.frozen?_drew,World.frozen?_alloc_new]
theorem kO.set{w W:World}{g:Nat}{o:St}{X:Nat->Value}(h:kO w W g o X)(i:Nat)(y:Value)(Y:Nat->Value)(hY:Y i=y)(hO:∀j,j≠i->Y j=X j):kO w (W.setCell (g,i) y) g o Y:=by
 have hB:=(ah g W).setCell (p:=(g,i)) lr y;refine⟨h.base.keep hB h.lo,h.lo,by have:=hB.size;have:=h.hi;omega,λj hj=>?_,λj=>?_⟩
 ·by_cases e:i=j
  ·subst e
   rw[hY];exact dP _ _ _ (h.fr i hj)
  ·rw[cw _ _ _ _ (λq=>e (by injection q)),hO j (λq=>e q.symm)]
   exact h.fr j hj
 ·rw[cS]
  exact h.frz j
theorem kO.drew{w W:World}{g:Nat}{o:St}{X:Nat->Value}(h:kO w W g o X):kO w W.drew g o X:=h.keep (ah _ _).drew
theorem kO.vM{w W:World}{g:Nat}{o:St}{x0 x1 x2 x3 x4:Value}(h:kO w W g o (five x0 x1 x2 x3 x4))(y1 y2 y3:Value):kO w (((W.setCell (g,1) y1).setCell (g,2) y2).setCell (g,3) y3) g o (five x0 y1 y2 y3 x4):=by
 refine((h.set 1 y1 (five x0 y1 x2 x3 x4) rfl ?_).set 2 y2 (five x0 y1 y2 x3 x4) rfl ?_).set 3 y3 (five x0 y1 y2 y3 x4) rfl ?_
 all_goals
  intro j hj;unfold five
  match j with
  |0=>rfl
  |1=>first|rfl|exact absurd rfl hj
  |2=>first|rfl|exact absurd rfl hj
  |3=>first|rfl|exact absurd rfl hj
  |j+4=>rfl
theorem kO.Bq{w W:World}{g:Nat}{o:St}{x0 x1 x2 x3 x4:Value}(h:kO w W g o (five x0 x1 x2 x3 x4))(y:Value):kO w (W.setCell (g,4) y) g o (five x0 x1 x2 x3 y):=by
 unfold five;refine⟨?_,h.lo,?_,?_,?_⟩
 ·exact h.base.keep ((ah g W).setCell (p:=(g,4)) lr y) h.lo
 ·have:=((ah g W).setCell (p:=(g,4)) lr y).size
  have:=h.hi;omega
 ·intro i hi
  have:i=0\/i=1\/i=2\/i=3\/i=4:=by omega
  rcases this with rfl|rfl|rfl|rfl|rfl
  iterate 4 (rw[cw _ _ _ _ (by simp)];exact h.fr _ (by omega))
  exact dP _ _ _ (h.fr 4 (by omega))
 ·intro i
  rw[cS];exact h.frz i
theorem JJ{l:List Int}{own:St}(h:l.length<4):Fr.ji l own=false:=by
 rw[fu];intro e;simp only[Fr.ji,bg,bC]at e;omega
theorem Br(l:List Int)(own:St)(m:Nat)(hm:l.length=m+2)(h:Fr.jT l own=false):¬l.take m++Fr.two (Fr.iM (Fr.jI l own) (l.take m))=l:=λe=>by
 have q:=Bf l own;rw[show l.length-2=m by omega]at q;rw[q.2 e]at h
 cases h
theorem Bt(l:List Int)(own:St)(m:Nat)(hm:l.length=m+2)(h:Fr.jT l own=true):l.take m++Fr.two (Fr.iM (Fr.jI l own) (l.take m))=l:=by
 have q:=Bf l own;rw[show l.length-2=m by omega]at q;exact q.1 h
theorem qI(v:Value)(l:List Int)(own:St)(w:World)(hv:iI w w v l)(hl:iK l):
  Calls Tryz.prog 185 #[v,stV own] w (Dec w l own):=by
 obtain⟨A,c,rfl,c1,c2,hs,hnil⟩:=hv.at_;have hv:=af hv;have FF:Fr.ji l own=false->∀w',Below w w w'->Dec w l own (.returned (.tuple #[.agg zF,↑(2:Int)])) w':=λh w' hb=>Ba h rfl hb;have hFS:Fr.ji l own=true->Fr.jT l own=false->∀w',Below w w w'->Dec w l own (.returned (.tuple #[.agg zF,↑(3:Int)])) w':=λh h' w' hb=>Bb h h' rfl hb;have FO:Fr.ji l own=true->Fr.jT l own=true->∀v w',iJ w' w v (Fr.rd l own).d->Below w w w'->Dec w l own (.returned (.tuple #[frV (Fr.rd l own) v,↑(0:Int)])) w':=λh h' v w' ho hb=>Bc h h' rfl ho hb;generalize Dec w l own=D at *;have HM:=λs W=>af (vD s W);have HSd:=λW=>af (A9 own W);unfold stV at HM HSd ⊢;unfold maxLen at c2;by_cases h4:l.length<4
 case pos=>
  have FF:=FF (JJ h4);have hB:=Bp w own 96 182;have q1:decide ((l.length:Int)<4)=true:=by simp;omega
  clear hFS FO HM HSd hs hnil hv
  go_enter Tryz.func185,Tryz.ntmps185
  go_wp2_with fail
  (try simp only[Exit.inBlock,Exit.then])
  refine aK (v:=.tuple #[.agg zF,↑(2:Int)]) ?_ rfl (FF _ ?_)
  ·rw[aV rfl]
   go_simp
  ·(repeat' (first|exact hB.below|exact bS _|(with_reducible refine aU ?_ ?_ _)))
 case neg=>
  have q1:decide ((l.length:Int)<4)=false:=by simp;omega
  go_enter Tryz.func185,Tryz.ntmps185
  go_wp2_with fail;have hb0:=Bp w own 96 182;generalize(w.alloc (.cells #[↑own.r,↑own.s,↑own.m] 96)).alloc (.cells zF 182)=W0 at *;refine(HM _ _).o.mono ?_;rintro e w2 ⟨rfl,hb2⟩;have hx2:=af (hb0.keep hb2 hb0.lt);clear hb0 hb2;have hl:=af hl;by_cases hmay:own.may=true
  case neg=>
   have hmay:own.may=false:=by simpa using hmay
   rw[hmay];have FF:=FF (Bn hmay);clear hFS FO HM HSd hmay hs hnil;obtain⟨r0,r1,r2,r3,r4⟩:=hx2.o.res;have z0:=hx2.o.fz 0;have z1:=hx2.o.fz 1;have z2:=hx2.o.fz 2;have z3:=hx2.o.fz 3;have z4:=hx2.o.fz 4;go_wp2_with fail
   (try simp only[Exit.inBlock,Exit.then])
   refine aK (v:=.tuple #[.agg zF,↑(2:Int)]) ?_ rfl (FF _ ?_)
   ·rw[aV rfl]
    go_simp
   ·(repeat' (first|exact hx2.o.below|exact bS _|(with_reducible refine aU ?_ ?_ _)))
  case pos=>
   rw[hmay];obtain⟨b,off,rfl,hbb,hcell⟩:=hs (by omega);have k0:w2.cell? (b,off)=some (.int .u8 (Fr.kd l)):=(jE hx2.o.below b off hbb).trans (hcell 0 (by omega));have hk0:0<=Fr.kd l/\Fr.kd l<256:=hl.o.getD 0;have q3:(0:Int)<(l.length:Int):=by omega
   have wk:IntKind.i64.wrap (Fr.kd l)=Fr.kd l:=aO _ (by omega);clear hs hnil;by_cases hka:Fr.kd l<1
   case pos=>
    have FF:=FF (vJ (by omega));clear hFS FO HM HSd hmay hcell;obtain⟨r0,r1,r2,r3,r4⟩:=hx2.o.res;have z0:=hx2.o.fz 0;have z1:=hx2.o.fz 1;have z2:=hx2.o.fz 2;have z3:=hx2.o.fz 3;have z4:=hx2.o.fz 4;go_wp2_with fail
    (try simp only[Exit.inBlock,Exit.then])
    refine aK (v:=.tuple #[.agg zF,↑(2:Int)]) ?_ rfl (FF _ ?_)
    ·rw[aV rfl]
     go_simp
    ·(repeat' (first|exact hx2.o.below|exact bS _|(with_reducible refine aU ?_ ?_ _)))
   case neg=>
    by_cases hkb:3<Fr.kd l
    case pos=>
     have FF:=FF (vJ (by omega));clear hFS FO HM HSd hmay hcell;obtain⟨r0,r1,r2,r3,r4⟩:=hx2.o.res;have z0:=hx2.o.fz 0;have z1:=hx2.o.fz 1;have z2:=hx2.o.fz 2;have z3:=hx2.o.fz 3;have z4:=hx2.o.fz 4;go_wp2_with fail
     (try simp only[Exit.inBlock,Exit.then])
     refine aK (v:=.tuple #[.agg zF,↑(2:Int)]) ?_ rfl (FF _ ?_)
     ·rw[aV rfl]
      go_simp
     ·(repeat' (first|exact hx2.o.below|exact bS _|(with_reducible refine aU ?_ ?_ _)))
    case neg=>
     obtain⟨o0,o1,o2⟩:=hx2.o.own;have CS:=λ(W:World)(hb:Below w2 w2 W)=>(⟨(jE hb _ _ (by have:=hx2.o.lt;omega)).trans o0,(jE hb _ _ (by have:=hx2.o.lt;omega)).trans o1,(jE hb _ _ (by have:=hx2.o.lt;omega)).trans o2,(jE hb _ _ (by have:=hx2.o.below.size;omega)).trans k0⟩:W.cell? (w,0)=some ↑own.r/\W.cell? (w,1)=some ↑own.s/\W.cell? (w,2)=some ↑own.m/\W.cell? (b,off)=some (.int .u8 (Fr.kd l)));have B2:=ah w2 w2;go_wp2_with fail
     go_cut [6]from 31 (λs6 W=>s6=↑(w2,0)/\W=(w2.alloc (.cells #[↑(Fr.kd l),↑own.r,↑own.s,↑own.m,.slice none 0 0] 182)).drew)
     case first=>
      go_region_held3 (λW=>W.cell? (w,0)=some ↑own.r/\W.cell? (w,1)=some ↑own.s/\W.cell? (w,2)=some ↑own.m/\W.cell? (b,off)=some (.int .u8 (Fr.kd l)))
       (first|exact CS _ B2|exact CS _ B2.drew|exact CS _ (B2.alloc lr _)|exact CS _ (B2.alloc lr _).drew|exact CS _ (B2.drew.alloc lr _)|go_keep)
       (fail)
      all_goals
       go_wp2_with fail
       go_meet
       exact⟨rfl,rfl⟩
     case rest=>
      obtain⟨rfl,rfl⟩:=hcut;have hx3:=hx2.o.new ↑(Fr.kd l) ↑own.r ↑own.s ↑own.m (.slice none 0 0) 182;generalize(w2.alloc (.cells #[↑(Fr.kd l),↑own.r,↑own.s,↑own.m,.slice none 0 0] 182)).drew=w3 at *;generalize w2.heap.size=g at *;have hx3:=af hx3;clear CS B2 o0 o1 o2 k0 hx2;obtain⟨o0,o1,o2⟩:=hx3.o.base.own;go_wp2_with fail;refine(HSd _).o.mono ?_;rintro e w4 ⟨rfl,hb4⟩;have hx4:=af (hx3.o.keep hb4);clear hx3 hb4 o0 o1 o2 HSd wk;by_cases hk1:Fr.kd l=1
      case pos=>
       have hat:Fr.at_ l=1:=au hk1;have jo:Fr.cnt l=l.getD 1 0:=by rw[Fr.cnt,hat]
       have vL:(Fr.kd l != 1)=false:=by simp[hk1]
       have f0:w4.cell? (g,0)=some ↑(Fr.kd l):=hx4.o.fr 0 (by omega);have hst:Fr.kK l own=own:=au hk1;obtain⟨t,ht⟩:∃t:St,t=own:=⟨_,rfl⟩;have hst:Fr.kK l own=t:=by rw[ht];exact hst
       have hmt:t.may=true:=by rw[ht];exact hmay
       have hx5:=af (show kO w w4 g own (five ↑(Fr.kd l) ↑t.r ↑t.s ↑t.m (.slice none 0 0))from by rw[ht];exact hx4.o);generalize w4=w5 at *;clear hx4 ht;have f0:w5.cell? (g,0)=some ↑(Fr.kd l):=hx5.o.fr 0 (by omega);have f1:w5.cell? (g,1)=some ↑t.r:=hx5.o.fr 1 (by omega);have f2:w5.cell? (g,2)=some ↑t.s:=hx5.o.fr 2 (by omega);have f3:w5.cell? (g,3)=some ↑t.m:=hx5.o.fr 3 (by omega);have k0:w5.cell? (b,off+1)=some (.int .u8 (l.getD 1 0)):=(jE hx5.o.base.below b (off+1) hbb).trans (hcell 1 (by omega));have hx:=hl.o.getD 1;obtain⟨x,hxe⟩:=bZ hx.1;rw[hxe]at hx k0 jo;clear hxe;have q2:(1:Int)<(l.length:Int):=by omega
       go_wp2_with fail;refine(HM _ _).o.mono ?_;rintro e w6 ⟨rfl,hb6⟩;have hx6:=af (hx5.o.keep hb6);clear hx5 hb6 HM f0 f1 f2 f3 k0;have hts:=hmt;rw[hts];by_cases hx8:8<(x:Int)
       case pos=>
        have FF:=FF (sO (by rw[jo];exact hx8));clear hFS FO jo hat hcell hts hmay;obtain⟨r0,r1,r2,r3,r4⟩:=hx6.o.base.res;have z0:=hx6.o.base.fz 0;have z1:=hx6.o.base.fz 1;have z2:=hx6.o.base.fz 2;have z3:=hx6.o.base.fz 3;have z4:=hx6.o.base.fz 4;go_wp2_with fail
        (try simp only[Exit.inBlock,Exit.then])
        refine aK (v:=.tuple #[.agg zF,↑(2:Int)]) ?_ rfl (FF _ ?_)
        ·rw[aV rfl]
         go_simp
        ·(repeat' (first|exact hx6.o.base.below|exact bS _|(with_reducible refine aU ?_ ?_ _)))
       case neg=>
        by_cases he:l.length=x+4
        case neg=>
         have FF:=FF (sP (by rw[hat,jo];omega));have heb:((l.length:Int) != 2+(x:Int)+2)=true:=by simp;omega
         clear hFS FO jo hat hcell hts hmay;obtain⟨r0,r1,r2,r3,r4⟩:=hx6.o.base.res;have z0:=hx6.o.base.fz 0;have z1:=hx6.o.base.fz 1;have z2:=hx6.o.base.fz 2;have z3:=hx6.o.base.fz 3;have z4:=hx6.o.base.fz 4;go_wp2_with fail
         (try simp only[Exit.inBlock,Exit.then])
         refine aK (v:=.tuple #[.agg zF,↑(2:Int)]) ?_ rfl (FF _ ?_)
         ·rw[aV rfl]
          go_simp
         ·(repeat' (first|exact hx6.o.base.below|exact bS _|(with_reducible refine aU ?_ ?_ _)))
        case pos=>
         have heb:((x:Int)+4 != 2+(x:Int)+2)=false:=by simp;omega
         have hform:Fr.ji l own=true:=sQ (by omega) hmay (by rw[hat];omega) (by rw[jo];exact hx8) (by rw[hat,jo];omega) (by rw[hst];exact hts);have hFS:=hFS hform;have FO:=FO hform;have hrd:Fr.rd l own=⟨1,t,(l.drop 2).take x⟩:=by
          unfold Fr.rd;rw[hat,jo,hst,hk1]
          rfl
         have lJ:iI w w (.slice (some (b,off+2)) x (c-2)) ((l.drop 2).take x):=by
          have:=iw hv.o 2 (x+2) (by omega) (by omega) _ rfl x _ (by omega) rfl
          rwa[show x+2-2=x by omega]at this
         have hdl:((l.drop 2).take x).length=x:=by rw[cQ,fF];omega
         rw[hrd]at FO;unfold frV at FO;simp only at FO;generalize(l.drop 2).take x=dl at *;have p1:(2:Int)<=2+(x:Int):=by omega
         have p2:(2:Int)+(x:Int)<=(c:Int):=by omega
         have p3:¬c=2:=by omega
         have wrp:IntKind.i64.wrap 2=2:=by decide
         clear hform FF hrd hcell jo hat hts;have mU:=(lJ.below hx6.o.base.below).alloc (.cells #[] 5);have mU:iI (w6.alloc (.cells #[] 5)) w (.slice (some (b,off+2)) (2+x-2) (c-2)) dl:=by
          rw[show 2+x-2=x by omega];exact mU
         go_wp2_with (at_builtin;go_loud (refine lA _ rfl (.tmp 90) (.tmp 98) 41 rfl w6 kx Tryz.underlying41 _ [] w6 (mL w6 _ rfl _ _ lr rfl) ((ah _ _).alloc lr _) rfl w (.slice (some (b,off+2)) (2+x-2) (c-2)) dl rfl mU (by simp) (by simp<;>omega) ?_));intro v7 w7 ho7 hb7;have ho7:iJ w7 w6 v7 dl:=by simpa using ho7
         have hx7:=hx6.o.keep hb7;have f4:w7.cell? (g,4)=some (.slice none 0 0):=hx7.fr 4 (by omega);have u4:=hx7.frz 4;obtain⟨A7,c7,rfl,-⟩:=ho7.sees.at_;rw[hdl]at ho7;have hg6:g<w6.heap.size:=hx6.o.hi;clear lJ mU hx6 hb7 p1 p2 p3 wrp heb;go_wp2_with fail;have hx8:=af (hx7.Bq (.slice A7 x c7));have ho8:=af (ho7.other hg6 4 (.slice A7 x c7));generalize w7.setCell (g,4) (.slice A7 x c7)=w8 at *;clear hx7 ho7 f4 u4;obtain⟨m,hm⟩:∃m,m=x+2:=⟨_,rfl⟩;have hlm:l.length=m+2:=by omega
         have hbl:iK (l.take m):=λy hy=>hl.o y (bM hy);have lI:iI w w (.slice (some (b,off)) m c) (l.take m):=by
          have:=iw hv.o 0 m (by omega) (by omega) (some (b,off)) rfl m c rfl rfl;simpa using this
         have htl:(l.take m).length=m:=by rw[cQ];omega
         have hcv:=λW(hb:Below w8 w8 W)=>mV (hv.o.below (hx8.o.base.below.trans (hb.mono hx8.o.base.below.size)));have lK:Fr.jI l own=own.seed:=au hk1;have QS:=λW(hb:Below w8 w8 W)=>vE _ (l.take m) (Fr.jI l own) W ((lI.below (hx8.o.base.below.trans (hb.mono hx8.o.base.below.size))).more (hx8.o.base.below.trans (hb.mono hx8.o.base.below.size)).size) hbl (by omega) (by rw[lK];exact own.l8);have hto:((x:Int)+2).toNat=x+2:=by omega
         have JK:(x:Int)+4-2=(x:Int)+2:=by omega
         have p1:(x:Int)+2<=(c:Int):=by omega
         have p2:(0:Int)<=(x:Int)+2:=by omega
         have wr9:IntKind.i64.wrap ((x:Int)+2)=(x:Int)+2:=aO _ (by omega);have p3:x+2<=c:=by omega
         rw[he]at hcv;have B8:=ah w8 w8
         cases hS:Fr.jT l own
         case true=>
          have FO:=FO hS;have hT:=Bt l own m hlm hS;rw[hT,lK]at QS;clear hFS hT hS lK;have QS:=λW(hb:Below w8 w8 W)=>af ((QS W hb).mono (R':=λe w'=>(∃v',e=.returned v'/\iJ w' W v' l)/\Below w8 w8 w') λe w' h=>by
           obtain⟨v,rfl,ho,hb'⟩:=h;exact⟨⟨v,rfl,ho⟩,hb.trans (hb'.mono hb.size)⟩)
          have CV:=λW hb=>af (hcv W hb);clear hcv hbl htl lI;subst hm
          go_cut [111]from 10 (λoK W=>oK=↑false/\Below w8 w8 W)
          case first=>
           have cv0:=(CV _ B8).o;have cv2:=(CV _ B8.drew).o
           go_region_with (first
             |((go_at_call 208;refine(QS _ ?_).o.mono ?_);(focus (first|exact B8|exact B8.drew));rintro e w9 ⟨⟨v9,rfl,ho9⟩,hb9⟩;have tx:=mV ho9.sees;have tx2:=sU ho9.sees;have cv1:=(CV _ hb9).o)
             |fail)
           all_goals
            go_wp2_with fail
            go_meet
            exact⟨by first|rfl|(rw[eT3];rfl),hb9⟩
          case rest=>
           obtain⟨rfl,hb9⟩:=hcut;have hx9:=af (hx8.o.keep hb9);have ho9:=af (ho8.o.below hb9 lr);clear hx8 ho8 QS CV B8;have f0:wc.cell? (g,0)=some ↑(Fr.kd l):=hx9.o.fr 0 (by omega);have f1:wc.cell? (g,1)=some ↑t.r:=hx9.o.fr 1 (by omega);have f2:wc.cell? (g,2)=some ↑t.s:=hx9.o.fr 2 (by omega);have f3:wc.cell? (g,3)=some ↑t.m:=hx9.o.fr 3 (by omega);have f4:wc.cell? (g,4)=some (.slice A7 x c7):=hx9.o.fr 4 (by omega);rw[hk1]at f0;obtain⟨r0,r1,r2,r3,r4⟩:=hx9.o.base.res;have z0:=hx9.o.base.fz 0;have z1:=hx9.o.base.fz 1;have z2:=hx9.o.base.fz 2;have z3:=hx9.o.base.fz 3;have z4:=hx9.o.base.fz 4;have hlo:=hx9.o.lo;have hwg:w.heap.size<=w6.heap.size:=by omega
           go_wp2_with fail
           (try simp only[Exit.inBlock,Exit.then])
           refine aK (v:=.tuple #[.agg #[↑(1:Int),↑t.r,↑t.s,↑t.m,.slice A7 x c7],↑(0:Int)]) ?_ rfl (FO _ _ ?_ ?_)
           ·rw[aV rfl]
            go_simp
           ·exact(((((ho9.o.other (by omega) _ _).other (by omega) _ _).other (by omega) _ _).other (by omega) _ _).other (by omega) _ _).base hwg
           ·(repeat' (first|exact hx9.o.base.below|exact bS _|(with_reducible refine aU ?_ ?_ _)))
         case false=>
          have hFS:=hFS hS;have hT:=Br l own m hlm hS;have hbL:iK (l.take m++Fr.two (Fr.iM (Fr.jI l own) (l.take m))):=Fr.okL.append (show Fr.okL _ from hbl) (Fr.sV (gT (Fr.pL (by rw[lK];exact own.l8) _) (by decide)));generalize l.take m++Fr.two (Fr.iM (Fr.jI l own) (l.take m))=L1 at *;rw[lK]at QS;have eT:¬jV L1=jV l:=λe=>hT (vN hbL hl.o e);have eT2:¬(jV L1).toList=(jV l).toList:=λh=>eT (by
           rw[fB,fB]at h;exact ByteArray.ext (Array.toList_inj.1 h))
          have eT3:((jV L1).toList==(jV l).toList)=false:=by rw[aB];exact eT2
          clear FO hT hS lK hbL;have QS:=λW(hb:Below w8 w8 W)=>af ((QS W hb).mono (R':=λe w'=>(∃v',e=.returned v'/\iJ w' W v' L1)/\Below w8 w8 w') λe w' h=>by
           obtain⟨v,rfl,ho,hb'⟩:=h;exact⟨⟨v,rfl,ho⟩,hb.trans (hb'.mono hb.size)⟩)
          have CV:=λW hb=>af (hcv W hb);clear hcv hbl htl lI;subst hm
          go_cut [111]from 10 (λoK W=>oK=↑true/\Below w8 w8 W)
          case first=>
           have cv0:=(CV _ B8).o;have cv2:=(CV _ B8.drew).o
           go_region_with (first
             |((go_at_call 208;refine(QS _ ?_).o.mono ?_);(focus (first|exact B8|exact B8.drew));rintro e w9 ⟨⟨v9,rfl,ho9⟩,hb9⟩;have tx:=mV ho9.sees;have tx2:=sU ho9.sees;have cv1:=(CV _ hb9).o)
             |fail)
           all_goals
            go_wp2_with fail
            go_meet
            exact⟨by first|rfl|(rw[eT3];rfl),hb9⟩
          case rest=>
           obtain⟨rfl,hb9⟩:=hcut;have hx9:=af (hx8.o.keep hb9);have ho9:=af (ho8.o.below hb9 lr);clear hx8 ho8 QS CV B8;clear eT eT2 eT3;obtain⟨r0,r1,r2,r3,r4⟩:=hx9.o.base.res;have z0:=hx9.o.base.fz 0;have z1:=hx9.o.base.fz 1;have z2:=hx9.o.base.fz 2;have z3:=hx9.o.base.fz 3;have z4:=hx9.o.base.fz 4;go_wp2_with fail
           (try simp only[Exit.inBlock,Exit.then])
           refine aK (v:=.tuple #[.agg zF,↑(3:Int)]) ?_ rfl (hFS _ ?_)
           ·rw[aV rfl]
            go_simp
           ·(repeat' (first|exact hx9.o.base.below|exact bS _|(with_reducible refine aU ?_ ?_ _)))
      case neg=>
       have hat:Fr.at_ l=5:=ai hk1;have jo:Fr.cnt l=l.getD 5 0:=by rw[Fr.cnt,hat]
       have vL:(Fr.kd l != 1)=true:=by simpa using hk1
       have f0:w4.cell? (g,0)=some ↑(Fr.kd l):=hx4.o.fr 0 (by omega);by_cases h8:l.length<8
       case pos=>
        have FF:=FF (vK (by rw[hat];omega) λk=>(hl.o.getD k).1);have q8:(l.length:Int)<8:=by omega
        clear hFS FO HM hmay hcell jo hat;obtain⟨r0,r1,r2,r3,r4⟩:=hx4.o.base.res;have z0:=hx4.o.base.fz 0;have z1:=hx4.o.base.fz 1;have z2:=hx4.o.base.fz 2;have z3:=hx4.o.base.fz 3;have z4:=hx4.o.base.fz 4;go_wp2_with fail
        (try simp only[Exit.inBlock,Exit.then])
        refine aK (v:=.tuple #[.agg zF,↑(2:Int)]) ?_ rfl (FF _ ?_)
        ·rw[aV rfl]
         go_simp
        ·(repeat' (first|exact hx4.o.base.below|exact bS _|(with_reducible refine aU ?_ ?_ _)))
       case neg=>
        have q8:¬(l.length:Int)<8:=by omega
        have a1:w4.cell? (b,off+1)=some (.int .u8 (l.getD 1 0)):=(jE hx4.o.base.below b (off+1) hbb).trans (hcell 1 (by omega));have a2:w4.cell? (b,off+2)=some (.int .u8 (l.getD 2 0)):=(jE hx4.o.base.below b (off+2) hbb).trans (hcell 2 (by omega));have a3:w4.cell? (b,off+3)=some (.int .u8 (l.getD 3 0)):=(jE hx4.o.base.below b (off+3) hbb).trans (hcell 3 (by omega));have a4:w4.cell? (b,off+4)=some (.int .u8 (l.getD 4 0)):=(jE hx4.o.base.below b (off+4) hbb).trans (hcell 4 (by omega));have hst:Fr.kK l own=⟨l.getD 1 0*256+l.getD 2 0,l.getD 3 0,l.getD 4 0⟩:=ai hk1;have b1:=hl.o.getD 1;have b2:=hl.o.getD 2;have b3:=hl.o.getD 3;have b4:=hl.o.getD 4;generalize l.getD 1 0=y1 at *;generalize l.getD 2 0=y2 at *;generalize l.getD 3 0=y3 at *;generalize l.getD 4 0=y4 at *;have orp:=vG y1 y2 b1 b2;have wr1:IntKind.i64.wrap y1=y1:=aO _ (by omega);have wr2:IntKind.i64.wrap y2=y2:=aO _ (by omega);have wr5:IntKind.i64.wrap (y1*256)=y1*256:=aO _ (by omega);have hgb:¬g=b:=by have:=hx4.o.lo;omega
        have hbg:¬b=g:=by omega
        have wr3:IntKind.i64.wrap y3=y3:=aO _ (by omega);have wr4:IntKind.i64.wrap y4=y4:=aO _ (by omega);have p1:(1:Int)<(l.length:Int):=by omega
        have p2:(2:Int)<(l.length:Int):=by omega
        have p3:(3:Int)<(l.length:Int):=by omega
        have p4:(4:Int)<(l.length:Int):=by omega
        have f1:w4.cell? (g,1)=some ↑own.r:=hx4.o.fr 1 (by omega);have f2:w4.cell? (g,2)=some ↑own.s:=hx4.o.fr 2 (by omega);have f3:w4.cell? (g,3)=some ↑own.m:=hx4.o.fr 3 (by omega);have u1:=hx4.o.frz 1;have u2:=hx4.o.frz 2;have u3:=hx4.o.frz 3;go_wp2_with fail
        go_cut []from 46 (λW=>kO w W g own (five ↑(Fr.kd l) ↑(y1*256+y2:Int) ↑y3 ↑y4 (.slice none 0 0)))
        case first=>
         go_region_held3 (λW=>W.cell? (b,off+1)=some (.int .u8 y1)/\W.cell? (b,off+2)=some (.int .u8 y2)/\W.cell? (b,off+3)=some (.int .u8 y3)/\W.cell? (b,off+4)=some (.int .u8 y4))
          (go_keep)
          (fail)
         all_goals
          go_wp2_with fail
          go_meet
          first|exact hx4.o.vM _ _ _|exact(hx4.o.vM _ _ _).drew|exact hx4.o.drew.vM _ _ _
        case rest=>
         have hx5:=af hcut;generalize wc=w5 at *;clear hcut hx4 a1 a2 a3 a4 b1 b2 b3 b4 orp wr1 wr2 wr5 hgb hbg wr3 wr4 p1 p2 p3 p4 f0 f1 f2 f3 u1 u2 u3 q8;obtain⟨t,ht⟩:∃t:St,t=⟨y1*256+y2,y3,y4⟩:=⟨_,rfl⟩;rw[<-ht]at hst;have e1:y1*256+y2=t.r:=by rw[ht]
         have e2:y3=t.s:=by rw[ht]
         have e3:y4=t.m:=by rw[ht]
         rw[e1,e2,e3]at hx5;clear e1 e2 e3 ht;have f0:w5.cell? (g,0)=some ↑(Fr.kd l):=hx5.o.fr 0 (by omega);have f1:w5.cell? (g,1)=some ↑t.r:=hx5.o.fr 1 (by omega);have f2:w5.cell? (g,2)=some ↑t.s:=hx5.o.fr 2 (by omega);have f3:w5.cell? (g,3)=some ↑t.m:=hx5.o.fr 3 (by omega);have k0:w5.cell? (b,off+5)=some (.int .u8 (l.getD 5 0)):=(jE hx5.o.base.below b (off+5) hbb).trans (hcell 5 (by omega));have hx:=hl.o.getD 5;obtain⟨x,hxe⟩:=bZ hx.1;rw[hxe]at hx k0 jo;clear hxe;have q2:(5:Int)<(l.length:Int):=by omega
         go_wp2_with fail;refine(HM _ _).o.mono ?_;rintro e w6 ⟨rfl,hb6⟩;have hx6:=af (hx5.o.keep hb6);clear hx5 hb6 HM f0 f1 f2 f3 k0;by_cases hts:t.may=true
         case neg=>
          have hts:t.may=false:=by simpa using hts
          rw[hts];have FF:=FF (Bo (by rw[hst];exact hts));clear hFS FO jo hat hcell hts hmay;obtain⟨r0,r1,r2,r3,r4⟩:=hx6.o.base.res;have z0:=hx6.o.base.fz 0;have z1:=hx6.o.base.fz 1;have z2:=hx6.o.base.fz 2;have z3:=hx6.o.base.fz 3;have z4:=hx6.o.base.fz 4;go_wp2_with fail
          (try simp only[Exit.inBlock,Exit.then])
          refine aK (v:=.tuple #[.agg zF,↑(2:Int)]) ?_ rfl (FF _ ?_)
          ·rw[aV rfl]
           go_simp
          ·(repeat' (first|exact hx6.o.base.below|exact bS _|(with_reducible refine aU ?_ ?_ _)))
         case pos=>
          rw[hts];by_cases hx8:8<(x:Int)
          case pos=>
           have FF:=FF (sO (by rw[jo];exact hx8));clear hFS FO jo hat hcell hts hmay;obtain⟨r0,r1,r2,r3,r4⟩:=hx6.o.base.res;have z0:=hx6.o.base.fz 0;have z1:=hx6.o.base.fz 1;have z2:=hx6.o.base.fz 2;have z3:=hx6.o.base.fz 3;have z4:=hx6.o.base.fz 4;go_wp2_with fail
           (try simp only[Exit.inBlock,Exit.then])
           refine aK (v:=.tuple #[.agg zF,↑(2:Int)]) ?_ rfl (FF _ ?_)
           ·rw[aV rfl]
            go_simp
           ·(repeat' (first|exact hx6.o.base.below|exact bS _|(with_reducible refine aU ?_ ?_ _)))
          case neg=>
           by_cases he:l.length=x+8
           case neg=>
            have FF:=FF (sP (by rw[hat,jo];omega));have heb:((l.length:Int) != 6+(x:Int)+2)=true:=by simp;omega
            clear hFS FO jo hat hcell hts hmay;obtain⟨r0,r1,r2,r3,r4⟩:=hx6.o.base.res;have z0:=hx6.o.base.fz 0;have z1:=hx6.o.base.fz 1;have z2:=hx6.o.base.fz 2;have z3:=hx6.o.base.fz 3;have z4:=hx6.o.base.fz 4;go_wp2_with fail
            (try simp only[Exit.inBlock,Exit.then])
            refine aK (v:=.tuple #[.agg zF,↑(2:Int)]) ?_ rfl (FF _ ?_)
            ·rw[aV rfl]
             go_simp
            ·(repeat' (first|exact hx6.o.base.below|exact bS _|(with_reducible refine aU ?_ ?_ _)))
           case pos=>
            have heb:((x:Int)+8 != 6+(x:Int)+2)=false:=by simp;omega
            have hform:Fr.ji l own=true:=sQ (by omega) hmay (by rw[hat];omega) (by rw[jo];exact hx8) (by rw[hat,jo];omega) (by rw[hst];exact hts);have hFS:=hFS hform;have FO:=FO hform;have hrd:Fr.rd l own=⟨(Fr.kd l),t,(l.drop 6).take x⟩:=by
             unfold Fr.rd;rw[hat,jo,hst]
             rfl
            have lJ:iI w w (.slice (some (b,off+6)) x (c-6)) ((l.drop 6).take x):=by
             have:=iw hv.o 6 (x+6) (by omega) (by omega) _ rfl x _ (by omega) rfl
             rwa[show x+6-6=x by omega]at this
            have hdl:((l.drop 6).take x).length=x:=by rw[cQ,fF];omega
            rw[hrd]at FO;unfold frV at FO;simp only at FO;generalize(l.drop 6).take x=dl at *;have p1:(6:Int)<=6+(x:Int):=by omega
            have p2:(6:Int)+(x:Int)<=(c:Int):=by omega
            have p3:¬c=6:=by omega
            have wrp:IntKind.i64.wrap 6=6:=by decide
            clear hform FF hrd hcell jo hat hts;have mU:=(lJ.below hx6.o.base.below).alloc (.cells #[] 5);have mU:iI (w6.alloc (.cells #[] 5)) w (.slice (some (b,off+6)) (6+x-6) (c-6)) dl:=by
             rw[show 6+x-6=x by omega];exact mU
            go_wp2_with (at_builtin;go_loud (refine lA _ rfl (.tmp 90) (.tmp 98) 41 rfl w6 kx Tryz.underlying41 _ [] w6 (mL w6 _ rfl _ _ lr rfl) ((ah _ _).alloc lr _) rfl w (.slice (some (b,off+6)) (6+x-6) (c-6)) dl rfl mU (by simp) (by simp<;>omega) ?_));intro v7 w7 ho7 hb7;have ho7:iJ w7 w6 v7 dl:=by simpa using ho7
            have hx7:=hx6.o.keep hb7;have f4:w7.cell? (g,4)=some (.slice none 0 0):=hx7.fr 4 (by omega);have u4:=hx7.frz 4;obtain⟨A7,c7,rfl,-⟩:=ho7.sees.at_;rw[hdl]at ho7;have hg6:g<w6.heap.size:=hx6.o.hi;clear lJ mU hx6 hb7 p1 p2 p3 wrp heb;go_wp2_with fail;have hx8:=af (hx7.Bq (.slice A7 x c7));have ho8:=af (ho7.other hg6 4 (.slice A7 x c7));generalize w7.setCell (g,4) (.slice A7 x c7)=w8 at *;clear hx7 ho7 f4 u4;obtain⟨m,hm⟩:∃m,m=x+6:=⟨_,rfl⟩;have hlm:l.length=m+2:=by omega
            have hbl:iK (l.take m):=λy hy=>hl.o y (bM hy);have lI:iI w w (.slice (some (b,off)) m c) (l.take m):=by
             have:=iw hv.o 0 m (by omega) (by omega) (some (b,off)) rfl m c rfl rfl;simpa using this
            have htl:(l.take m).length=m:=by rw[cQ];omega
            have hcv:=λW(hb:Below w8 w8 W)=>mV (hv.o.below (hx8.o.base.below.trans (hb.mono hx8.o.base.below.size)));have lK:Fr.jI l own=0:=ai hk1;have QS:=λW(hb:Below w8 w8 W)=>vE _ (l.take m) (Fr.jI l own) W ((lI.below (hx8.o.base.below.trans (hb.mono hx8.o.base.below.size))).more (hx8.o.base.below.trans (hb.mono hx8.o.base.below.size)).size) hbl (by omega) (by rw[lK];decide);have hto:((x:Int)+6).toNat=x+6:=by omega
            have JK:(x:Int)+8-2=(x:Int)+6:=by omega
            have p1:(x:Int)+6<=(c:Int):=by omega
            have p2:(0:Int)<=(x:Int)+6:=by omega
            have wr9:IntKind.i64.wrap ((x:Int)+6)=(x:Int)+6:=aO _ (by omega);have p3:x+6<=c:=by omega
            rw[he]at hcv;have B8:=ah w8 w8
            cases hS:Fr.jT l own
            case true=>
             have FO:=FO hS;have hT:=Bt l own m hlm hS;rw[hT,lK]at QS;clear hFS hT hS lK;have QS:=λW(hb:Below w8 w8 W)=>af ((QS W hb).mono (R':=λe w'=>(∃v',e=.returned v'/\iJ w' W v' l)/\Below w8 w8 w') λe w' h=>by
              obtain⟨v,rfl,ho,hb'⟩:=h;exact⟨⟨v,rfl,ho⟩,hb.trans (hb'.mono hb.size)⟩)
             have CV:=λW hb=>af (hcv W hb);clear hcv hbl htl lI;subst hm
             go_cut [111]from 10 (λoK W=>oK=↑false/\Below w8 w8 W)
             case first=>
              have cv0:=(CV _ B8).o;have cv2:=(CV _ B8.drew).o
              go_region_with (first
                |((go_at_call 208;refine(QS _ ?_).o.mono ?_);(focus (first|exact B8|exact B8.drew));rintro e w9 ⟨⟨v9,rfl,ho9⟩,hb9⟩;have tx:=mV ho9.sees;have tx2:=sU ho9.sees;have cv1:=(CV _ hb9).o)
                |fail)
              all_goals
               go_wp2_with fail
               go_meet
               exact⟨by first|rfl|(rw[eT3];rfl),hb9⟩
             case rest=>
              obtain⟨rfl,hb9⟩:=hcut;have hx9:=af (hx8.o.keep hb9);have ho9:=af (ho8.o.below hb9 lr);clear hx8 ho8 QS CV B8;have f0:wc.cell? (g,0)=some ↑(Fr.kd l):=hx9.o.fr 0 (by omega);have f1:wc.cell? (g,1)=some ↑t.r:=hx9.o.fr 1 (by omega);have f2:wc.cell? (g,2)=some ↑t.s:=hx9.o.fr 2 (by omega);have f3:wc.cell? (g,3)=some ↑t.m:=hx9.o.fr 3 (by omega);have f4:wc.cell? (g,4)=some (.slice A7 x c7):=hx9.o.fr 4 (by omega);obtain⟨r0,r1,r2,r3,r4⟩:=hx9.o.base.res;have z0:=hx9.o.base.fz 0;have z1:=hx9.o.base.fz 1;have z2:=hx9.o.base.fz 2;have z3:=hx9.o.base.fz 3;have z4:=hx9.o.base.fz 4;have hlo:=hx9.o.lo;have hwg:w.heap.size<=w6.heap.size:=by omega
              go_wp2_with fail
              (try simp only[Exit.inBlock,Exit.then])
              refine aK (v:=.tuple #[.agg #[↑(Fr.kd l),↑t.r,↑t.s,↑t.m,.slice A7 x c7],↑(0:Int)]) ?_ rfl (FO _ _ ?_ ?_)
              ·rw[aV rfl]
               go_simp
              ·exact(((((ho9.o.other (by omega) _ _).other (by omega) _ _).other (by omega) _ _).other (by omega) _ _).other (by omega) _ _).base hwg
              ·(repeat' (first|exact hx9.o.base.below|exact bS _|(with_reducible refine aU ?_ ?_ _)))
            case false=>
             have hFS:=hFS hS;have hT:=Br l own m hlm hS;have hbL:iK (l.take m++Fr.two (Fr.iM (Fr.jI l own) (l.take m))):=Fr.okL.append (show Fr.okL _ from hbl) (Fr.sV (gT (Fr.pL (by rw[lK];decide) _) (by decide)));generalize l.take m++Fr.two (Fr.iM (Fr.jI l own) (l.take m))=L1 at *;rw[lK]at QS;have eT:¬jV L1=jV l:=λe=>hT (vN hbL hl.o e);have eT2:¬(jV L1).toList=(jV l).toList:=λh=>eT (by
              rw[fB,fB]at h;exact ByteArray.ext (Array.toList_inj.1 h))
             have eT3:((jV L1).toList==(jV l).toList)=false:=by rw[aB];exact eT2
             clear FO hT hS lK hbL;have QS:=λW(hb:Below w8 w8 W)=>af ((QS W hb).mono (R':=λe w'=>(∃v',e=.returned v'/\iJ w' W v' L1)/\Below w8 w8 w') λe w' h=>by
              obtain⟨v,rfl,ho,hb'⟩:=h;exact⟨⟨v,rfl,ho⟩,hb.trans (hb'.mono hb.size)⟩)
             have CV:=λW hb=>af (hcv W hb);clear hcv hbl htl lI;subst hm
             go_cut [111]from 10 (λoK W=>oK=↑true/\Below w8 w8 W)
             case first=>
              have cv0:=(CV _ B8).o;have cv2:=(CV _ B8.drew).o
              go_region_with (first
                |((go_at_call 208;refine(QS _ ?_).o.mono ?_);(focus (first|exact B8|exact B8.drew));rintro e w9 ⟨⟨v9,rfl,ho9⟩,hb9⟩;have tx:=mV ho9.sees;have tx2:=sU ho9.sees;have cv1:=(CV _ hb9).o)
                |fail)
              all_goals
               go_wp2_with fail
               go_meet
               exact⟨by first|rfl|(rw[eT3];rfl),hb9⟩
             case rest=>
              obtain⟨rfl,hb9⟩:=hcut;have hx9:=af (hx8.o.keep hb9);have ho9:=af (ho8.o.below hb9 lr);clear hx8 ho8 QS CV B8;clear eT eT2 eT3;obtain⟨r0,r1,r2,r3,r4⟩:=hx9.o.base.res;have z0:=hx9.o.base.fz 0;have z1:=hx9.o.base.fz 1;have z2:=hx9.o.base.fz 2;have z3:=hx9.o.base.fz 3;have z4:=hx9.o.base.fz 4;go_wp2_with fail
              (try simp only[Exit.inBlock,Exit.then])
              refine aK (v:=.tuple #[.agg zF,↑(3:Int)]) ?_ rfl (hFS _ ?_)
              ·rw[aV rfl]
               go_simp
              ·(repeat' (first|exact hx9.o.base.below|exact bS _|(with_reducible refine aU ?_ ?_ _)))
end
end Go.Proofs.YteadkhigkmijiaaGreat
