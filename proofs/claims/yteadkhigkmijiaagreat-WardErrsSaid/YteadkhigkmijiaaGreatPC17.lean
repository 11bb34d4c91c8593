/- Texts FrH in one. -/
import Derived.ScopeJumps
import Derived.WalkMore
import Derived.Test.YteadkhigkmijiaaGreatPC1
import Derived.Test.YteadkhigkmijiaaGreatPC5
import Derived.Test.YteadkhigkmijiaaGreatPC8
set_option linter.all false
namespace Go.Proofs.YteadkhigkmijiaaGreat
section
set_option maxRecDepth 100000
set_option maxHeartbeats 40000000
open Go.RowKit
open Fr (St F)
theorem JF{P:Program}{Q:Exit->Act->World->Prop}{a:Act}{w:World}{c rest:Code}(l:Nat)(hf:findLabel c l=some rest)(first:c.wp P (Exit.jump l (λa w=>rest.wp P (Exit.jump l (λ_ _=>False) Q) a w) Q) a w):(Code.scope c).wp P Q a w:=
 wp_scope_jumps l _ (λ_ _=>0) hf first λa w h=>Code.wp_mono (λe a w hq=>by
  cases e
  case goto l'=>exact hq.2.elim
  all_goals exact hq) h
structure mP(w W:World)(o s:St):Prop where
 below:Below w w W
 lt:w.heap.size+1+1+1<W.heap.size
 own:W.cell? (w,0)=some ↑o.r/\W.cell? (w,1)=some ↑o.s/\W.cell? (w,2)=some ↑o.m
 res:W.cell? (w.heap.size+1,0)=some ↑(0:Int)/\W.cell? (w.heap.size+1,1)=some ↑(0:Int)/\W.cell? (w.heap.size+1,2)=some ↑(0:Int)/\W.cell? (w.heap.size+1,3)=some ↑(0:Int)/\W.cell? (w.heap.size+1,4)=some (.slice none 0 0)
 fr:W.cell? (w.heap.size+1+1,0)=some ↑(0:Int)/\W.cell? (w.heap.size+1+1,1)=some ↑(0:Int)/\W.cell? (w.heap.size+1+1,2)=some ↑(0:Int)/\W.cell? (w.heap.size+1+1,3)=some ↑(0:Int)/\W.cell? (w.heap.size+1+1,4)=some (.slice none 0 0)
 st:W.cell? (w.heap.size+1+1+1,0)=some ↑s.r/\W.cell? (w.heap.size+1+1+1,1)=some ↑s.s/\W.cell? (w.heap.size+1+1+1,2)=some ↑s.m
 fz:∀b i,w.heap.size<=b->b<=w.heap.size+1+1+1->W.frozen? ⟨b,i,none⟩=false
theorem mP.keep{w W W':World}{o s:St}(h:mP w W o s)(hb:Below W W W'):mP w W' o s:=by
 have hlt:=h.lt;have hc:=jE hb;refine⟨h.below.trans (hb.mono (by omega)),by have:=hb.size;omega,?_,?_,?_,?_,λb i h1 h2=>?_⟩
 ·rw[hc _ _ (by omega),hc _ _ (by omega),hc _ _ (by omega)];exact h.own
 ·rw[hc _ _ (by omega),hc _ _ (by omega),hc _ _ (by omega),hc _ _ (by omega),hc _ _ (by omega)];exact h.res
 ·rw[hc _ _ (by omega),hc _ _ (by omega),hc _ _ (by omega),hc _ _ (by omega),hc _ _ (by omega)];exact h.fr
 ·rw[hc _ _ (by omega),hc _ _ (by omega),hc _ _ (by omega)];exact h.st
 ·rw[<-h.fz b i h1 h2]
  unfold World.frozen?;rw[hb.block b (by omega)]
theorem cells3{W:World}{b:Nat}{a0 a1 a2:Value}(h0:W.cell? (b,0)=some a0)(h1:W.cell? (b,1)=some a1)(h2:W.cell? (b,2)=some a2)(x y z:Value):
  (((W.setCell (b,0) x).setCell (b,1) y).setCell (b,2) z).cell? (b,0)=some x/\(((W.setCell (b,0) x).setCell (b,1) y).setCell (b,2) z).cell? (b,1)=some y/\(((W.setCell (b,0) x).setCell (b,1) y).setCell (b,2) z).cell? (b,2)=some z:=by
 refine⟨?_,?_,?_⟩
 ·rw[cw _ _ _ _ (by simp),cw _ _ _ _ (by simp),dP _ _ _ h0]
 ·rw[cw _ _ _ _ (by simp),dP _ _ _ ((cw _ _ _ _ (by simp)).trans h1)]
 ·rw[dP _ _ _ ((cw _ _ _ _ (by simp)).trans ((cw _ _ _ _ (by simp)).trans h2))]
theorem mP.store{w W:World}{o s:St}(h:mP w W o s)(t:St):mP w (((W.setCell (w.heap.size+1+1+1,0) ↑t.r).setCell (w.heap.size+1+1+1,1) ↑t.s).setCell (w.heap.size+1+1+1,2) ↑t.m) o t:=by
 obtain⟨hb,hlt,ho,hr,hf,hs,hz⟩:=h;have hB:=(((ah (w.heap.size+1+1+1) W).setCell (p:=(w.heap.size+1+1+1,0)) lr ↑t.r).setCell (p:=(w.heap.size+1+1+1,1)) lr ↑t.s).setCell (p:=(w.heap.size+1+1+1,2)) lr ↑t.m;have hc:=jE hB;refine⟨hb.trans (hB.mono (by omega)),by simpa using hlt,?_,?_,?_,?_,λb i h1 h2=>?_⟩
 ·rw[hc _ _ (by omega),hc _ _ (by omega),hc _ _ (by omega)];exact ho
 ·rw[hc _ _ (by omega),hc _ _ (by omega),hc _ _ (by omega),hc _ _ (by omega),hc _ _ (by omega)];exact hr
 ·rw[hc _ _ (by omega),hc _ _ (by omega),hc _ _ (by omega),hc _ _ (by omega),hc _ _ (by omega)];exact hf
 ·exact cells3 hs.1 hs.2.1 hs.2.2 _ _ _
 ·rw[cS,cS,cS]
  exact hz b i h1 h2
theorem iJ.other{w:World}{Bs g:Nat}{v:Value}{l:List Int}(h:iJ w Bs v l)(hg:g<Bs)(i:Nat)(u:Value):iJ (w.setCell (g,i) u) Bs v l:=
 cB (row:=some g) h ⟨rfl,rfl,rfl,by simp[World.setCell],λk _ hne=>dR _ _ _ _ (λe=>hne (by rw[e]))⟩ (.inr λe=>by have:=dL h g e;omega)
theorem cells5{W:World}{b:Nat}{a0 a1 a2 a3 a4:Value}(h0:W.cell? (b,0)=some a0)(h1:W.cell? (b,1)=some a1)(h2:W.cell? (b,2)=some a2)(h3:W.cell? (b,3)=some a3)(h4:W.cell? (b,4)=some a4)(x0 x1 x2 x3 x4:Value)(W':World)(hW:W'=((((W.setCell (b,0) x0).setCell (b,1) x1).setCell (b,2) x2).setCell (b,3) x3).setCell (b,4) x4):
  W'.cell? (b,0)=some x0/\W'.cell? (b,1)=some x1/\W'.cell? (b,2)=some x2/\W'.cell? (b,3)=some x3/\W'.cell? (b,4)=some x4:=by
 subst hW;have o:=λ(V:World)(i j:Nat)(u:Value)(h:i≠j)=>cw V (b,i) (b,j) u (λe=>h (by injection e));have s:=λ(V:World)(i:Nat)(u u':Value)(h:V.cell? (b,i)=some u')=>dP V (b,i) u h;refine⟨?_,?_,?_,?_,?_⟩
 ·rw[o _ _ _ _ (by decide),o _ _ _ _ (by decide),o _ _ _ _ (by decide),o _ _ _ _ (by decide)]
  exact s _ _ _ _ h0
 ·rw[o _ _ _ _ (by decide),o _ _ _ _ (by decide),o _ _ _ _ (by decide)]
  refine s _ _ _ _ (?_:_=some a1);rw[o _ _ _ _ (by decide)];exact h1
 ·rw[o _ _ _ _ (by decide),o _ _ _ _ (by decide)]
  refine s _ _ _ _ (?_:_=some a2);rw[o _ _ _ _ (by decide),o _ _ _ _ (by decide)];exact h2
 ·rw[o _ _ _ _ (by decide)]
  refine s _ _ _ _ (?_:_=some a3);rw[o _ _ _ _ (by decide),o _ _ _ _ (by decide),o _ _ _ _ (by decide)];exact h3
 ·refine s _ _ _ _ (?_:_=some a4)
  rw[o _ _ _ _ (by decide),o _ _ _ _ (by decide),o _ _ _ _ (by decide),o _ _ _ _ (by decide)];exact h4
structure JG(w W:World)(v:Value)(l:List Int)(x0 x1 x2 x3 x4:Value):Prop where
 below:Below w w W
 res:W.cell? (w.heap.size+1,0)=some ↑(0:Int)/\W.cell? (w.heap.size+1,1)=some ↑(0:Int)/\W.cell? (w.heap.size+1,2)=some ↑(0:Int)/\W.cell? (w.heap.size+1,3)=some ↑(0:Int)/\W.cell? (w.heap.size+1,4)=some (.slice none 0 0)
 fr:W.cell? (w.heap.size+1+1,0)=some x0/\W.cell? (w.heap.size+1+1,1)=some x1/\W.cell? (w.heap.size+1+1,2)=some x2/\W.cell? (w.heap.size+1+1,3)=some x3/\W.cell? (w.heap.size+1+1,4)=some x4
 fz:∀i,W.frozen? ⟨w.heap.size+1,i,none⟩=false
 own:iJ W (w.heap.size+1+1+1) v l
theorem mP.fill{w W:World}{o s:St}(h:mP w W o s){v:Value}{l:List Int}(ho:iJ W (w.heap.size+1+1+1) v l)(x0 x1 x2 x3 x4:Value):
  JG w (((((W.setCell (w.heap.size+1+1,0) x0).setCell (w.heap.size+1+1,1) x1).setCell (w.heap.size+1+1,2) x2).setCell (w.heap.size+1+1,3) x3).setCell (w.heap.size+1+1,4) x4) v l x0 x1 x2 x3 x4:=by
 have hB:=(((((ah (w.heap.size+1+1) W).setCell (p:=(w.heap.size+1+1,0)) lr x0).setCell (p:=(w.heap.size+1+1,1)) lr x1).setCell (p:=(w.heap.size+1+1,2)) lr x2).setCell (p:=(w.heap.size+1+1,3)) lr x3).setCell (p:=(w.heap.size+1+1,4)) lr x4;have hc:=jE hB;refine⟨h.below.trans (hB.mono (by omega)),?_,cells5 h.fr.1 h.fr.2.1 h.fr.2.2.1 h.fr.2.2.2.1 h.fr.2.2.2.2 x0 x1 x2 x3 x4 _ rfl,λi=>?_,?_⟩
 ·rw[hc _ _ (by omega),hc _ _ (by omega),hc _ _ (by omega),hc _ _ (by omega),hc _ _ (by omega)];exact h.res
 ·rw[cS,cS,cS,cS,cS]
  exact h.fz _ i (by omega) (by omega)
 ·exact((((ho.other (by omega) _ _).other (by omega) _ _).other (by omega) _ _).other (by omega) _ _).other (by omega) _ _
theorem JH(w:World)(o:St)(t t':TypeId):mP w ((((w.alloc (.cells #[↑o.r,↑o.s,↑o.m] t)).alloc (.cells #[↑(0:Int),↑(0:Int),↑(0:Int),↑(0:Int),.slice none 0 0] t')).alloc (.cells #[↑(0:Int),↑(0:Int),↑(0:Int),↑(0:Int),.slice none 0 0] t')).alloc (.cells #[↑o.r,↑o.s,↑o.m] t)).drew o o:=by
 refine⟨((((((ah w w).alloc lr _).alloc (by simp) _).alloc (by simp;omega) _).alloc (by simp;omega) _)).drew,by simp,?_,?_,?_,?_,λb i h1 h2=>?_⟩
 ·refine⟨?_,?_,?_⟩<;>(rw[gS,dN _ _ _ (by simp;omega),dN _ _ _ (by simp;omega),dN _ _ _ (by simp),aZ _ _ _ _ rfl];rfl)
 ·refine⟨?_,?_,?_,?_,?_⟩<;>(rw[gS,dN _ _ _ (by simp),dN _ _ _ (by simp),aZ _ _ _ _ (by simp)];rfl)
 ·refine⟨?_,?_,?_,?_,?_⟩<;>(rw[gS,dN _ _ _ (by simp),aZ _ _ _ _ (by simp)];rfl)
 ·refine⟨?_,?_,?_⟩<;>(rw[gS,aZ _ _ _ _ (by simp)];rfl)
 ·have:b=w.heap.size\/b=w.heap.size+1\/b=w.heap.size+1+1\/b=w.heap.size+1+1+1:=by omega
  rcases this with rfl|rfl|rfl|rfl<;>go_simp
theorem iI.sub{W:World}{B b off n c:Nat}{l:List Int}(h:iI W B (.slice (some (b,off)) n c) l)(i j:Nat)(hij:i<=j)(hj:j<=l.length)(A:Option Addr)(hA:A=some ⟨b,off+i,none⟩)(k e:Nat)(hk:k=j-i)(he:e=c-i):
  iI W B (.slice A k e) ((l.drop i).take (j-i)):=by
 obtain⟨A',c',e1,h1,h2,h3,-⟩:=h.at_
 injection e1 with q1 q2 q3
 subst q1 q2 q3 hA hk he;have hlen:((l.drop i).take (j-i)).length=j-i:=by rw[cQ,fF];omega
 refine⟨some (b,off+i),c-i,by rw[hlen],by omega,by omega,?_,λh=>by cases h⟩;rw[hlen];intro h0;obtain⟨b',off',q,hb,hc⟩:=h3 (by omega);simp only[bB,Addr.mk.injEq]at q;obtain⟨rfl,rfl,-⟩:=q;refine⟨b,off+i,rfl,hb,λk hk=>?_⟩;have:=hc (i+k) (by omega);rw[<-fe]at this;rw[this];unfold bv;rw[ay,ay,List.getElem?_take,au (by omega),List.getElem?_drop]
abbrev iw:=@iI.sub
theorem Bm(l:List Int)(own:St)(m:Nat)(hm:l.length=m+2)(hl:iK l):Fr.jT l own=decide ((Fr.iM (Fr.jI l own) (l.take m):Int)=l.getD m 0*256+l.getD (m+1) 0):=by
 have h0:=hl.getD m;have h1:=hl.getD (m+1);have e:l.length-2=m:=by omega
 obtain⟨x,y,hd⟩:=Fr.JI (l:=l.drop m) (by rw[fF];omega);have g0:l.getD m 0=x:=by
  have:=dn (λq=>q.getD 0 0) hd;simpa[ay,List.getElem?_drop]using this
 have g1:l.getD (m+1) 0=y:=by
  have:=dn (λq=>q.getD 1 0) hd;simpa[ay,List.getElem?_drop]using this
 unfold Fr.jT;rw[e,hd,g0,g1];rw[g0]at h0;rw[g1]at h1;generalize Fr.iM (Fr.jI l own) (l.take m)=S;rw[bY,fW,gB];unfold Fr.two;simp only[List.cons.injEq,gu];omega
section
variable {l:List Int}{own:St}
theorem vJ(h:¬(1<=Fr.kd l/\Fr.kd l<=3)):Fr.ji l own=false:=by
 rw[fu];intro e;simp only[Fr.ji,bg,bC]at e;omega
theorem Bn(h:own.may=false):Fr.ji l own=false:=by simp[Fr.ji,h]
theorem vK(h:¬((Fr.at_ l:Int)<l.length-2))(h0:∀k,0<=l.getD k 0):Fr.ji l own=false:=by
 rw[fu];intro e;simp only[Fr.ji,bg,bC]at e;have:=h0 (Fr.at_ l);have:Fr.cnt l=l.getD (Fr.at_ l) 0:=rfl;omega
theorem sO(h:8<Fr.cnt l):Fr.ji l own=false:=by
 rw[fu];intro e;simp only[Fr.ji,bg,bC]at e;omega
theorem sP(h:¬((Fr.at_ l:Int)+1+Fr.cnt l=l.length-2)):Fr.ji l own=false:=by
 rw[fu];intro e;simp only[Fr.ji,bg,bC]at e;omega
theorem Bo(h:(Fr.kK l own).may=false):Fr.ji l own=false:=by simp[Fr.ji,h]
theorem sQ(h1:1<=Fr.kd l/\Fr.kd l<=3)(h2:own.may=true)(h3:(Fr.at_ l:Int)<l.length-2)(h4:¬8<Fr.cnt l)(h5:(Fr.at_ l:Int)+1+Fr.cnt l=l.length-2)(h6:(Fr.kK l own).may=true):Fr.ji l own=true:=by
 have ha:Fr.kd l=1/\Fr.at_ l=1\/Fr.kd l≠1/\Fr.at_ l=5:=by
  unfold Fr.at_;by_cases h:Fr.kd l=1
  ·exact .inl ⟨h,au h⟩
  ·exact .inr ⟨h,ai h⟩
 simp only[Fr.ji,bg,bC,iE,fW,h2,h6,gu];omega
end
theorem sS(v:Value)(l:List Int)(own:St)(w:World)(hv:iI w w v l)(hl:iK l):
  Calls Tryz.prog 201 #[v,stV own] w (Dec w l own):=by
 obtain⟨A,c,rfl,c1,c2,hs,hnil⟩:=hv.at_;have hv:=af hv;have QK:=λW(hb:Below w w W)=>af (JA A c l w W (hs.below hb) hl (by omega));have B3:=λo1 o2 o3:Obj=>(((ah w w).alloc lr o1).alloc (by simp) o2).alloc (by simp;omega) o3;have B4:=λo1 o2 o3 o4:Obj=>(B3 o1 o2 o3).alloc (by simp;omega) o4;have FF:Fr.ji l own=false->∀w',Below w w w'->Dec w l own (.returned (.tuple #[.agg zF,↑(2:Int)])) w':=λh w' hb=>Ba h rfl hb;have hFS:Fr.ji l own=true->Fr.jT l own=false->∀w',Below w w w'->Dec w l own (.returned (.tuple #[.agg zF,↑(3:Int)])) w':=λh h' w' hb=>Bb h h' rfl hb;have FO:Fr.ji l own=true->Fr.jT l own=true->∀v w',iJ w' w v (Fr.rd l own).d->Below w w w'->Dec w l own (.returned (.tuple #[frV (Fr.rd l own) v,↑(0:Int)])) w':=λh h' v w' ho hb=>Bc h h' rfl ho hb;generalize Dec w l own=D at *;have HK:=λW=>af (Bg (Fr.kd l) W);have HO:=λs W=>af (vF s W);unfold stV at HO ⊢;unfold maxLen at c2
 go_enter Tryz.func201,Tryz.ntmps201
 go_wp2_with fail;refine JF 0 rfl ?_;go_wp2_with fail
 go_cut [8,9]from 13 (λs8 s9 W=>s8=↑(Fr.kd l)/\s9=↑(w.heap.size+1+1+1,0)/\W=((((w.alloc (.cells #[↑own.r,↑own.s,↑own.m] 96)).alloc (.cells zF 182)).alloc (.cells zF 182)).alloc (.cells #[↑own.r,↑own.s,↑own.m] 96)).drew)
 case first=>
  go_region_held3 (λW=>W.cell? (w,0)=some ↑own.r/\W.cell? (w,1)=some ↑own.s/\W.cell? (w,2)=some ↑own.m) (go_keep)
   (first
    |((go_at_call 223;refine(QK _ ?_).o.mono ?_);(focus (first|exact B3 _ _ _|exact(B3 _ _ _).drew|exact B4 _ _ _ _|exact(B4 _ _ _ _).drew));rintro e w3 ⟨rfl,rfl⟩)
    |fail)
  all_goals
   go_wp2_with fail
   go_meet
   exact⟨rfl,rfl,rfl⟩
 case rest=>
  obtain⟨rfl,rfl,rfl⟩:=hcut;clear QK B3 B4;have hl:=af hl;have hb0:=JH w own 96 182;generalize((((w.alloc (.cells #[↑own.r,↑own.s,↑own.m] 96)).alloc (.cells zF 182)).alloc (.cells zF 182)).alloc (.cells #[↑own.r,↑own.s,↑own.m] 96)).drew=W0 at *;have iO:=af hb0;clear hb0;go_wp2_with fail;refine(HK _).o.mono ?_;rintro e w1 ⟨rfl,rfl⟩;clear HK;by_cases hkd:1<=Fr.kd l/\Fr.kd l<=3
  case neg=>
   have e1:(decide (1<=Fr.kd l)&&decide (Fr.kd l<=3))=false:=by simp;omega
   rw[e1];have FF:=FF (vJ hkd);clear hFS FO HO e1 hkd;obtain⟨f0,f1,f2,f3,f4⟩:=iO.o.fr;obtain⟨r0,r1,r2,r3,r4⟩:=iO.o.res;have z0:=iO.o.fz (w.heap.size+1) 0 (by omega) (by omega);have z1:=iO.o.fz (w.heap.size+1) 1 (by omega) (by omega);have z2:=iO.o.fz (w.heap.size+1) 2 (by omega) (by omega);have z3:=iO.o.fz (w.heap.size+1) 3 (by omega) (by omega);have z4:=iO.o.fz (w.heap.size+1) 4 (by omega) (by omega);go_wp2_with fail
   go_step3
   simp only[Exit.then];refine⟨rfl,?_⟩;go_wp2_with fail;change bodyPost _ _ _ Exit.ret _ _;refine aK (v:=.tuple #[.agg zF,↑(2:Int)]) ?_ rfl (FF _ ?_)
   ·rw[aV rfl]
    go_simp
   ·(repeat' (first|exact iO.o.below|exact bS _|(with_reducible refine aU ?_ ?_ _)))
  case pos=>
   have e1:(decide (1<=Fr.kd l)&&decide (Fr.kd l<=3))=true:=by simp;omega
   rw[e1];clear e1;obtain⟨o0,o1,o2⟩:=iO.o.own;go_wp2_with fail;refine(HO _ _).o.mono ?_;rintro e w2 ⟨rfl,hb2⟩;have hx2:=af (iO.o.keep hb2);clear o0 o1 o2 hb2 iO;by_cases hmay:own.may=true
   case neg=>
    have hmay:own.may=false:=by simpa using hmay
    rw[hmay];have FF:=FF (Bn hmay);clear hFS FO HO hmay;obtain⟨f0,f1,f2,f3,f4⟩:=hx2.o.fr;obtain⟨r0,r1,r2,r3,r4⟩:=hx2.o.res;have z0:=hx2.o.fz (w.heap.size+1) 0 (by omega) (by omega);have z1:=hx2.o.fz (w.heap.size+1) 1 (by omega) (by omega);have z2:=hx2.o.fz (w.heap.size+1) 2 (by omega) (by omega);have z3:=hx2.o.fz (w.heap.size+1) 3 (by omega) (by omega);have z4:=hx2.o.fz (w.heap.size+1) 4 (by omega) (by omega);go_wp2_with fail
    go_step3
    simp only[Exit.then];refine⟨rfl,?_⟩;go_wp2_with fail;change bodyPost _ _ _ Exit.ret _ _;refine aK (v:=.tuple #[.agg zF,↑(2:Int)]) ?_ rfl (FF _ ?_)
    ·rw[aV rfl]
     go_simp
    ·(repeat' (first|exact hx2.o.below|exact bS _|(with_reducible refine aU ?_ ?_ _)))
   case pos=>
    rw[hmay];by_cases hk1:Fr.kd l=1
    case pos=>
     have hat:Fr.at_ l=1:=au hk1;have jo:Fr.cnt l=l.getD 1 0:=by rw[Fr.cnt,hat]
     have vL:(Fr.kd l != 1)=false:=by simp[hk1]
     rw[show((l.length:Int)-2)=((l.length:Int)-2)from rfl];by_cases hlen:(1:Int)<(l.length:Int)-2
     case neg=>
      have FF:=FF (vK (by rw[hat];exact hlen) λk=>(hl.o.getD k).1);have q1:(l.length:Int)-2<=1:=by omega
      clear hFS FO HO jo hat hmay;obtain⟨f0,f1,f2,f3,f4⟩:=hx2.o.fr;obtain⟨r0,r1,r2,r3,r4⟩:=hx2.o.res;have z0:=hx2.o.fz (w.heap.size+1) 0 (by omega) (by omega);have z1:=hx2.o.fz (w.heap.size+1) 1 (by omega) (by omega);have z2:=hx2.o.fz (w.heap.size+1) 2 (by omega) (by omega);have z3:=hx2.o.fz (w.heap.size+1) 3 (by omega) (by omega);have z4:=hx2.o.fz (w.heap.size+1) 4 (by omega) (by omega);go_wp2_with fail
      go_step3
      simp only[Exit.then];refine⟨rfl,?_⟩;go_wp2_with fail;change bodyPost _ _ _ Exit.ret _ _;refine aK (v:=.tuple #[.agg zF,↑(2:Int)]) ?_ rfl (FF _ ?_)
      ·rw[aV rfl]
       go_simp
      ·(repeat' (first|exact hx2.o.below|exact bS _|(with_reducible refine aU ?_ ?_ _)))
     case pos=>
      obtain⟨m,hm⟩:∃m,l.length=m+2:=⟨l.length-2,by omega⟩;obtain⟨b,off,rfl,hbb,hcell⟩:=hs (by omega);have hx:=hl.o.getD 1;have k0:w2.cell? (b,off+1)=some (.int .u8 (l.getD 1 0)):=(jE hx2.o.below b (off+1) hbb).trans (hcell 1 (by omega));have hmI:(l.length:Int)-2=(m:Int):=by omega
      rw[hmI];obtain⟨x,hxe⟩:∃x,l.getD 1 0=x:=⟨_,rfl⟩;rw[hxe]at hx k0 jo;clear hxe;have q1:¬(m:Int)<=1:=by omega
      have q2:(1:Int)<(l.length:Int):=by omega
      by_cases hx8:8<x
      case pos=>
       have FF:=FF (sO (by rw[jo];exact hx8));clear hFS FO HO jo hat hmay hcell;obtain⟨f0,f1,f2,f3,f4⟩:=hx2.o.fr;obtain⟨r0,r1,r2,r3,r4⟩:=hx2.o.res;have z0:=hx2.o.fz (w.heap.size+1) 0 (by omega) (by omega);have z1:=hx2.o.fz (w.heap.size+1) 1 (by omega) (by omega);have z2:=hx2.o.fz (w.heap.size+1) 2 (by omega) (by omega);have z3:=hx2.o.fz (w.heap.size+1) 3 (by omega) (by omega);have z4:=hx2.o.fz (w.heap.size+1) 4 (by omega) (by omega);go_wp2_with fail
       go_step3
       simp only[Exit.then];refine⟨rfl,?_⟩;go_wp2_with fail;change bodyPost _ _ _ Exit.ret _ _;refine aK (v:=.tuple #[.agg zF,↑(2:Int)]) ?_ rfl (FF _ ?_)
       ·rw[aV rfl]
        go_simp
       ·(repeat' (first|exact hx2.o.below|exact bS _|(with_reducible refine aU ?_ ?_ _)))
      case neg=>
       by_cases he:2+x=(m:Int)
       case neg=>
        have FF:=FF (sP (by rw[hat,jo];omega));have heb:(2+x != (m:Int))=true:=by simpa using he
        clear hFS FO HO jo hat hmay hcell;obtain⟨f0,f1,f2,f3,f4⟩:=hx2.o.fr;obtain⟨r0,r1,r2,r3,r4⟩:=hx2.o.res;have z0:=hx2.o.fz (w.heap.size+1) 0 (by omega) (by omega);have z1:=hx2.o.fz (w.heap.size+1) 1 (by omega) (by omega);have z2:=hx2.o.fz (w.heap.size+1) 2 (by omega) (by omega);have z3:=hx2.o.fz (w.heap.size+1) 3 (by omega) (by omega);have z4:=hx2.o.fz (w.heap.size+1) 4 (by omega) (by omega);go_wp2_with fail
        go_step3
        simp only[Exit.then];refine⟨rfl,?_⟩;go_wp2_with fail;change bodyPost _ _ _ Exit.ret _ _;refine aK (v:=.tuple #[.agg zF,↑(2:Int)]) ?_ rfl (FF _ ?_)
        ·rw[aV rfl]
         go_simp
        ·(repeat' (first|exact hx2.o.below|exact bS _|(with_reducible refine aU ?_ ?_ _)))
       case pos=>
        have heb:(2+x != (m:Int))=false:=by simpa using he
        have hst:Fr.kK l own=own:=au hk1;have hx4:=hx2;obtain⟨s0,s1,s2⟩:=hx2.o.st;go_wp2_with fail;clear hx2 s0 s1 s2 k0;refine(HO _ _).o.mono ?_;rintro e w5 ⟨rfl,hb5⟩;have hx5:=af (hx4.o.keep hb5);clear hx4 hb5 HO heb;rw[hmay];have hts:=hmay;have hform:Fr.ji l own=true:=sQ hkd hmay (by rw[hat];exact hlen) (by rw[jo];omega) (by rw[hat,jo];omega) (by rw[hst];exact hts);have hFS:=hFS hform;have FO:=FO hform;have hxN:x.toNat=m-2:=by omega
        have hrd:Fr.rd l own=⟨1,own,(l.drop 2).take (m-2)⟩:=by
         unfold Fr.rd;rw[hat,jo,hst,hxN,hk1]
        have mQ:=Bm l own m hm hl.o;have lI:iI w w (.slice (some (b,off)) m c) (l.take m):=by
         have:=iw hv.o 0 m (by omega) (by omega) (some (b,off)) rfl m c rfl rfl;simpa using this
        have lJ:iI w w (.slice (some (b,off+2)) (m-2) (c-2)) ((l.drop 2).take (m-2)):=iw hv.o 2 m (by omega) (by omega) _ rfl _ _ rfl rfl;have hsd:(if(1:Int)=1 then St.seed own else 0)=Fr.jI l own:=by
         unfold Fr.jI;rw[au rfl,au hk1]
        have hbl:iK (l.take m):=λy hy=>hl.o y (bM hy);have QU:=λW(hb:Below w5 w5 W)=>af ((vI 1 own _ _ W ((lI.below (hx5.o.below.trans (hb.mono hx5.o.below.size))).more (hx5.o.below.trans (hb.mono hx5.o.below.size)).size) hbl).mono (R':=λe w'=>e=.returned ↑(Fr.iM (Fr.jI l own) (l.take m):Nat)/\Below w5 w5 w') λe w' h=>⟨by rw[<-hsd];exact h.1,hb.trans (h.2.mono hb.size)⟩);have u0:=hcell m (by omega);have u1:=hcell (m+1) (by omega);unfold bv at u0 u1;have g0:=hl.o.getD m;have g1:=hl.o.getD (m+1);generalize l.getD m 0=y0 at *;generalize l.getD (m+1) 0=y1 at *;generalize Fr.iM (Fr.jI l own) (l.take m)=S at *;have QP:=λW(hb:Below w5 w5 W)=>af ((vH b (off+m) (c-m) 2 y0 y1 W (by omega) (by unfold maxLen;omega) ((jE (hx5.o.below.trans (hb.mono hx5.o.below.size)) b (off+m) hbb).trans u0) ((jE (hx5.o.below.trans (hb.mono hx5.o.below.size)) b (off+m+1) hbb).trans u1) g0 g1).mono (R':=λe w'=>e=.returned ↑(y0*256+y1:Int)/\Below w5 w5 w') λe w' h=>⟨h.1,by obtain⟨-,q,rfl⟩:=h;exact aC hb q⟩);have CS:=λ(W:World)(hb:Below w5 w5 W)=>(hx5.o.keep hb).st;have B5:=ah w5 w5;have hx:=hx5;have hm8:m-2<=8:=by omega
        clear hx5 hcell u0 u1 g0 g1 hbl hsd lI hxN hform FF hts hmay hat jo hv he;have p1:(m:Int)<=(c:Int):=by omega
        have p2:(m:Int)<=(m:Int)+2:=by omega
        have p3:(m+2)-m=2:=by omega
        unfold stV at QU;obtain⟨s0,s1,s2⟩:=CS _ B5;go_wp2_with fail
        go_cut [72]from 62 (λs72 W=>s72=↑((S:Int) != y0*256+y1)/\Below w5 w5 W)
        case first=>
         go_region_held3 (λW=>W.cell? (w.heap.size+1+1+1,0)=some ↑own.r/\W.cell? (w.heap.size+1+1+1,1)=some ↑own.s/\W.cell? (w.heap.size+1+1+1,2)=some ↑own.m)
          (first|exact CS _ B5|exact CS _ B5.drew|exact CS _ hb6|exact CS _ hb6.drew|exact CS _ hb7|exact CS _ hb7.drew)
          (first
           |((go_at_call 147;refine(QU _ ?_).o.mono ?_);(focus (first|exact B5|exact B5.drew));rintro e w6 ⟨rfl,hb6⟩)
           |((go_at_call 225;refine(QP _ ?_).o.mono ?_);(focus (first|exact hb6|exact hb6.drew));rintro e w7 ⟨rfl,hb7⟩)
           |fail)
         all_goals
          go_wp2_with fail
          go_meet
          exact⟨rfl,by first|exact hb7|exact hb7.drew⟩
        case rest=>
         obtain⟨rfl,hb7⟩:=hcut;have hx7:=af (hx.o.keep hb7);clear hx QU QP CS B5 s0 s1 s2;by_cases hS:(S:Int)=y0*256+y1
         case neg=>
          have hSb:((S:Int) != y0*256+y1)=true:=by simpa using hS
          have hFS:=hFS (by rw[mQ];simpa using hS);rw[hSb];clear FO mQ hS hSb hrd lJ;obtain⟨f0,f1,f2,f3,f4⟩:=hx7.o.fr;obtain⟨r0,r1,r2,r3,r4⟩:=hx7.o.res;have z0:=hx7.o.fz (w.heap.size+1) 0 (by omega) (by omega);have z1:=hx7.o.fz (w.heap.size+1) 1 (by omega) (by omega);have z2:=hx7.o.fz (w.heap.size+1) 2 (by omega) (by omega);have z3:=hx7.o.fz (w.heap.size+1) 3 (by omega) (by omega);have z4:=hx7.o.fz (w.heap.size+1) 4 (by omega) (by omega);go_wp2_with fail
          go_step3
          simp only[Exit.then];refine⟨rfl,?_⟩;go_wp2_with fail;change bodyPost _ _ _ Exit.ret _ _;refine aK (v:=.tuple #[.agg zF,↑(3:Int)]) ?_ rfl (hFS _ ?_)
          ·rw[aV rfl]
           go_simp
          ·(repeat' (first|exact hx7.o.below|exact bS _|(with_reducible refine aU ?_ ?_ _)))
         case pos=>
          have hSb:((S:Int) != y0*256+y1)=false:=by simpa using hS
          have FO:=FO (by rw[mQ];simpa using hS);rw[hrd]at FO;unfold frV at FO;rw[hSb];clear hFS mQ hS hSb hrd;have hdl:((l.drop 2).take (m-2)).length=m-2:=by rw[cQ,fF];omega
          have QC:=λW(hb:Below wc wc W)=>af ((Bj _ _ W w (lJ.below (hx7.o.below.trans (hb.mono hx7.o.below.size))) (by rw[hdl];omega)).mono (R':=λe w'=>(∃A8 c8,e=.returned (.slice A8 (m-2) c8)/\iJ w' wc (.slice A8 (m-2) c8) ((l.drop 2).take (m-2)))/\Below wc wc w') λe w' h=>by
           obtain⟨v,rfl,ho,hb'⟩:=h;obtain⟨A8,c8,rfl,-⟩:=ho.sees.at_;refine⟨⟨A8,c8,by rw[hdl],?_⟩,hb.trans (hb'.mono hb.size)⟩;rw[hdl]at ho;exact ho.base hb.size)
          generalize(l.drop 2).take (m-2)=dl at *;have CS:=λ(W:World)(hb:Below wc wc W)=>(hx7.o.keep hb).st;have B7:=ah wc wc;have p4:(2:Int)<=(m:Int):=by omega
          have p5:2<=m:=by omega
          have p6:m<=c:=by omega
          have wrp:IntKind.i64.wrap 2=2:=by decide
          have p7:¬c=2:=by omega
          clear p2 p3;obtain⟨s0,s1,s2⟩:=CS _ B7;clear lJ;go_wp2_with fail
          go_region_held3 (λW=>W.cell? (w.heap.size+1+1+1,0)=some ↑own.r/\W.cell? (w.heap.size+1+1+1,1)=some ↑own.s/\W.cell? (w.heap.size+1+1+1,2)=some ↑own.m)
           (first|exact CS _ B7|exact CS _ B7.drew|exact CS _ hb8|exact CS _ hb8.drew|go_keep)
           (first
            |((go_at_call 71;refine(QC _ ?_).o.mono ?_);(focus (first|exact B7|exact B7.drew));rintro e w8 ⟨⟨A8,c8,rfl,ho8⟩,hb8⟩;have hx8:=hx7.o.keep hb8;obtain⟨f0,f1,f2,f3,f4⟩:=hx8.fr;have v0:=hx8.fz (w.heap.size+1+1) 0 (by omega) (by omega);have v1:=hx8.fz (w.heap.size+1+1) 1 (by omega) (by omega);have v2:=hx8.fz (w.heap.size+1+1) 2 (by omega) (by omega);have v3:=hx8.fz (w.heap.size+1+1) 3 (by omega) (by omega);have v4:=hx8.fz (w.heap.size+1+1) 4 (by omega) (by omega))
            |fail)
          go_wp2_with fail;have hF:=hx8.fill (show iJ w8 (w.heap.size+1+1+1) _ dl from ho8.base (by have:=hx7.o.lt;omega)) ↑(1:Int) ↑own.r ↑own.s ↑own.m (.slice A8 (m-2) c8);generalize((((w8.setCell (w.heap.size+1+1,0) ↑(1:Int)).setCell (w.heap.size+1+1,1) ↑own.r).setCell (w.heap.size+1+1,2) ↑own.s).setCell (w.heap.size+1+1,3) ↑own.m).setCell (w.heap.size+1+1,4) (.slice A8 (m-2) c8)=w9 at *;obtain⟨k0,k1,k2,k3,k4⟩:=hF.fr;obtain⟨r0,r1,r2,r3,r4⟩:=hF.res;have z0:=hF.fz 0;have z1:=hF.fz 1;have z2:=hF.fz 2;have z3:=hF.fz 3;have z4:=hF.fz 4;have hG:=af hF;clear hF hx8 hx7 f0 f1 f2 f3 f4 v0 v1 v2 v3 v4 s0 s1 s2 CS B7 QC ho8 hb8 hb7 p1 p4 p5 p6 p7 wrp
          go_step3
          go_wp2_with fail;change bodyPost _ _ _ Exit.ret _ _;refine aK (v:=.tuple #[.agg #[↑(1:Int),↑own.r,↑own.s,↑own.m,.slice A8 (m-2) c8],↑(0:Int)]) ?_ rfl (FO _ _ ?_ ?_)
          ·rw[aV rfl]
           go_simp
          ·exact(((((hG.o.own.other (by omega) _ _).other (by omega) _ _).other (by omega) _ _).other (by omega) _ _).other (by omega) _ _).base (by omega)
          ·(repeat' (first|exact hG.o.below|exact bS _|(with_reducible refine aU ?_ ?_ _)))
    case neg=>
     have hat:Fr.at_ l=5:=ai hk1;have jo:Fr.cnt l=l.getD 5 0:=by rw[Fr.cnt,hat]
     have vL:(Fr.kd l != 1)=true:=by simpa using hk1
     rw[show((l.length:Int)-2)=((l.length:Int)-2)from rfl];by_cases hlen:(5:Int)<(l.length:Int)-2
     case neg=>
      have FF:=FF (vK (by rw[hat];exact hlen) λk=>(hl.o.getD k).1);have q1:(l.length:Int)-2<=5:=by omega
      clear hFS FO HO jo hat hmay;obtain⟨f0,f1,f2,f3,f4⟩:=hx2.o.fr;obtain⟨r0,r1,r2,r3,r4⟩:=hx2.o.res;have z0:=hx2.o.fz (w.heap.size+1) 0 (by omega) (by omega);have z1:=hx2.o.fz (w.heap.size+1) 1 (by omega) (by omega);have z2:=hx2.o.fz (w.heap.size+1) 2 (by omega) (by omega);have z3:=hx2.o.fz (w.heap.size+1) 3 (by omega) (by omega);have z4:=hx2.o.fz (w.heap.size+1) 4 (by omega) (by omega);go_wp2_with fail
      go_step3
      simp only[Exit.then];refine⟨rfl,?_⟩;go_wp2_with fail;change bodyPost _ _ _ Exit.ret _ _;refine aK (v:=.tuple #[.agg zF,↑(2:Int)]) ?_ rfl (FF _ ?_)
      ·rw[aV rfl]
       go_simp
      ·(repeat' (first|exact hx2.o.below|exact bS _|(with_reducible refine aU ?_ ?_ _)))
     case pos=>
      obtain⟨m,hm⟩:∃m,l.length=m+2:=⟨l.length-2,by omega⟩;obtain⟨b,off,rfl,hbb,hcell⟩:=hs (by omega);have hx:=hl.o.getD 5;have k0:w2.cell? (b,off+5)=some (.int .u8 (l.getD 5 0)):=(jE hx2.o.below b (off+5) hbb).trans (hcell 5 (by omega));have hmI:(l.length:Int)-2=(m:Int):=by omega
      rw[hmI];obtain⟨x,hxe⟩:∃x,l.getD 5 0=x:=⟨_,rfl⟩;rw[hxe]at hx k0 jo;clear hxe;have q1:¬(m:Int)<=5:=by omega
      have q2:(5:Int)<(l.length:Int):=by omega
      by_cases hx8:8<x
      case pos=>
       have FF:=FF (sO (by rw[jo];exact hx8));clear hFS FO HO jo hat hmay hcell;obtain⟨f0,f1,f2,f3,f4⟩:=hx2.o.fr;obtain⟨r0,r1,r2,r3,r4⟩:=hx2.o.res;have z0:=hx2.o.fz (w.heap.size+1) 0 (by omega) (by omega);have z1:=hx2.o.fz (w.heap.size+1) 1 (by omega) (by omega);have z2:=hx2.o.fz (w.heap.size+1) 2 (by omega) (by omega);have z3:=hx2.o.fz (w.heap.size+1) 3 (by omega) (by omega);have z4:=hx2.o.fz (w.heap.size+1) 4 (by omega) (by omega);go_wp2_with fail
       go_step3
       simp only[Exit.then];refine⟨rfl,?_⟩;go_wp2_with fail;change bodyPost _ _ _ Exit.ret _ _;refine aK (v:=.tuple #[.agg zF,↑(2:Int)]) ?_ rfl (FF _ ?_)
       ·rw[aV rfl]
        go_simp
       ·(repeat' (first|exact hx2.o.below|exact bS _|(with_reducible refine aU ?_ ?_ _)))
      case neg=>
       by_cases he:6+x=(m:Int)
       case neg=>
        have FF:=FF (sP (by rw[hat,jo];omega));have heb:(6+x != (m:Int))=true:=by simpa using he
        clear hFS FO HO jo hat hmay hcell;obtain⟨f0,f1,f2,f3,f4⟩:=hx2.o.fr;obtain⟨r0,r1,r2,r3,r4⟩:=hx2.o.res;have z0:=hx2.o.fz (w.heap.size+1) 0 (by omega) (by omega);have z1:=hx2.o.fz (w.heap.size+1) 1 (by omega) (by omega);have z2:=hx2.o.fz (w.heap.size+1) 2 (by omega) (by omega);have z3:=hx2.o.fz (w.heap.size+1) 3 (by omega) (by omega);have z4:=hx2.o.fz (w.heap.size+1) 4 (by omega) (by omega);go_wp2_with fail
        go_step3
        simp only[Exit.then];refine⟨rfl,?_⟩;go_wp2_with fail;change bodyPost _ _ _ Exit.ret _ _;refine aK (v:=.tuple #[.agg zF,↑(2:Int)]) ?_ rfl (FF _ ?_)
        ·rw[aV rfl]
         go_simp
        ·(repeat' (first|exact hx2.o.below|exact bS _|(with_reducible refine aU ?_ ?_ _)))
       case pos=>
        have heb:(6+x != (m:Int))=false:=by simpa using he
        have a1:=(jE hx2.o.below b (off+1) hbb).trans (hcell 1 (by omega));have a2:=(jE hx2.o.below b (off+2) hbb).trans (hcell 2 (by omega));have a3:=(jE hx2.o.below b (off+3) hbb).trans (hcell 3 (by omega));have a4:=(jE hx2.o.below b (off+4) hbb).trans (hcell 4 (by omega));unfold bv at a1 a2 a3 a4;have HR:=af (JD b (off+1) 4 (c-1) (l.getD 1 0) (l.getD 2 0) (l.getD 3 0) (l.getD 4 0) w2 (by omega) (by unfold maxLen;omega) (by have:=hx2.o.below.size;omega) a1 a2 a3 a4 (hl.o.getD 1) (hl.o.getD 2) (hl.o.getD 3) (hl.o.getD 4));have hst:Fr.kK l own=⟨l.getD 1 0*256+l.getD 2 0,l.getD 3 0,l.getD 4 0⟩:=ai hk1;rw[<-hst]at HR;generalize mg:Fr.kK l own=t at *;clear a1 a2 a3 a4 hst;unfold stV at HR;have p1:(5:Int)<=(c:Int):=by omega
        go_wp2_with fail;refine HR.o.mono ?_;rintro e w3 ⟨rfl,hb3⟩;have hx3:=af (hx2.o.keep hb3);clear HR hb3 hx2 k0;obtain⟨s0,s1,s2⟩:=hx3.o.st;have y0:=hx3.o.fz (w.heap.size+1+1+1) 0 (by omega) (by omega);have y1:=hx3.o.fz (w.heap.size+1+1+1) 1 (by omega) (by omega);have y2:=hx3.o.fz (w.heap.size+1+1+1) 2 (by omega) (by omega);go_wp2_with fail;have hx4:=af (hx3.o.store t);generalize((w3.setCell (w.heap.size+1+1+1,0) ↑t.r).setCell (w.heap.size+1+1+1,1) ↑t.s).setCell (w.heap.size+1+1+1,2) ↑t.m=w4 at *;clear hx3 s0 s1 s2 y0 y1 y2 p1;refine(HO _ _).o.mono ?_;rintro e w5 ⟨rfl,hb5⟩;have hx5:=af (hx4.o.keep hb5);clear hx4 hb5 HO heb;by_cases hts:t.may=true
        case neg=>
         have hts:t.may=false:=by simpa using hts
         rw[hts];have FF:=FF (Bo (by rw[mg];exact hts));clear hFS FO jo hat hcell hts;obtain⟨f0,f1,f2,f3,f4⟩:=hx5.o.fr;obtain⟨r0,r1,r2,r3,r4⟩:=hx5.o.res;have z0:=hx5.o.fz (w.heap.size+1) 0 (by omega) (by omega);have z1:=hx5.o.fz (w.heap.size+1) 1 (by omega) (by omega);have z2:=hx5.o.fz (w.heap.size+1) 2 (by omega) (by omega);have z3:=hx5.o.fz (w.heap.size+1) 3 (by omega) (by omega);have z4:=hx5.o.fz (w.heap.size+1) 4 (by omega) (by omega);go_wp2_with fail
         go_step3
         simp only[Exit.then];refine⟨rfl,?_⟩;go_wp2_with fail;change bodyPost _ _ _ Exit.ret _ _;refine aK (v:=.tuple #[.agg zF,↑(2:Int)]) ?_ rfl (FF _ ?_)
         ·rw[aV rfl]
          go_simp
         ·(repeat' (first|exact hx5.o.below|exact bS _|(with_reducible refine aU ?_ ?_ _)))
        case pos=>
         rw[hts];have hform:Fr.ji l own=true:=sQ hkd hmay (by rw[hat];exact hlen) (by rw[jo];omega) (by rw[hat,jo];omega) (by rw[mg];exact hts);have hFS:=hFS hform;have FO:=FO hform;have hxN:x.toNat=m-6:=by omega
         have hrd:Fr.rd l own=⟨(Fr.kd l),t,(l.drop 6).take (m-6)⟩:=by
          unfold Fr.rd;rw[hat,jo,mg,hxN]
         have mQ:=Bm l own m hm hl.o;have lI:iI w w (.slice (some (b,off)) m c) (l.take m):=by
          have:=iw hv.o 0 m (by omega) (by omega) (some (b,off)) rfl m c rfl rfl;simpa using this
         have lJ:iI w w (.slice (some (b,off+6)) (m-6) (c-6)) ((l.drop 6).take (m-6)):=iw hv.o 6 m (by omega) (by omega) _ rfl _ _ rfl rfl;have hsd:(if((Fr.kd l):Int)=1 then St.seed t else 0)=Fr.jI l own:=by
          unfold Fr.jI;rw[ai hk1,ai hk1]
         have hbl:iK (l.take m):=λy hy=>hl.o y (bM hy);have QU:=λW(hb:Below w5 w5 W)=>af ((vI (Fr.kd l) t _ _ W ((lI.below (hx5.o.below.trans (hb.mono hx5.o.below.size))).more (hx5.o.below.trans (hb.mono hx5.o.below.size)).size) hbl).mono (R':=λe w'=>e=.returned ↑(Fr.iM (Fr.jI l own) (l.take m):Nat)/\Below w5 w5 w') λe w' h=>⟨by rw[<-hsd];exact h.1,hb.trans (h.2.mono hb.size)⟩);have u0:=hcell m (by omega);have u1:=hcell (m+1) (by omega);unfold bv at u0 u1;have g0:=hl.o.getD m;have g1:=hl.o.getD (m+1);generalize l.getD m 0=y0 at *;generalize l.getD (m+1) 0=y1 at *;generalize Fr.iM (Fr.jI l own) (l.take m)=S at *;have QP:=λW(hb:Below w5 w5 W)=>af ((vH b (off+m) (c-m) 2 y0 y1 W (by omega) (by unfold maxLen;omega) ((jE (hx5.o.below.trans (hb.mono hx5.o.below.size)) b (off+m) hbb).trans u0) ((jE (hx5.o.below.trans (hb.mono hx5.o.below.size)) b (off+m+1) hbb).trans u1) g0 g1).mono (R':=λe w'=>e=.returned ↑(y0*256+y1:Int)/\Below w5 w5 w') λe w' h=>⟨h.1,by obtain⟨-,q,rfl⟩:=h;exact aC hb q⟩);have CS:=λ(W:World)(hb:Below w5 w5 W)=>(hx5.o.keep hb).st;have B5:=ah w5 w5;have hx:=hx5;have hm8:m-6<=8:=by omega
         clear hx5 hcell u0 u1 g0 g1 hbl hsd lI hxN hform FF hts hmay hat jo hv he;have p1:(m:Int)<=(c:Int):=by omega
         have p2:(m:Int)<=(m:Int)+2:=by omega
         have p3:(m+2)-m=2:=by omega
         unfold stV at QU;obtain⟨s0,s1,s2⟩:=CS _ B5;go_wp2_with fail
         go_cut [72]from 62 (λs72 W=>s72=↑((S:Int) != y0*256+y1)/\Below w5 w5 W)
         case first=>
          go_region_held3 (λW=>W.cell? (w.heap.size+1+1+1,0)=some ↑t.r/\W.cell? (w.heap.size+1+1+1,1)=some ↑t.s/\W.cell? (w.heap.size+1+1+1,2)=some ↑t.m)
           (first|exact CS _ B5|exact CS _ B5.drew|exact CS _ hb6|exact CS _ hb6.drew|exact CS _ hb7|exact CS _ hb7.drew)
           (first
            |((go_at_call 147;refine(QU _ ?_).o.mono ?_);(focus (first|exact B5|exact B5.drew));rintro e w6 ⟨rfl,hb6⟩)
            |((go_at_call 225;refine(QP _ ?_).o.mono ?_);(focus (first|exact hb6|exact hb6.drew));rintro e w7 ⟨rfl,hb7⟩)
            |fail)
          all_goals
           go_wp2_with fail
           go_meet
           exact⟨rfl,by first|exact hb7|exact hb7.drew⟩
         case rest=>
          obtain⟨rfl,hb7⟩:=hcut;have hx7:=af (hx.o.keep hb7);clear hx QU QP CS B5 s0 s1 s2;by_cases hS:(S:Int)=y0*256+y1
          case neg=>
           have hSb:((S:Int) != y0*256+y1)=true:=by simpa using hS
           have hFS:=hFS (by rw[mQ];simpa using hS);rw[hSb];clear FO mQ hS hSb hrd lJ;obtain⟨f0,f1,f2,f3,f4⟩:=hx7.o.fr;obtain⟨r0,r1,r2,r3,r4⟩:=hx7.o.res;have z0:=hx7.o.fz (w.heap.size+1) 0 (by omega) (by omega);have z1:=hx7.o.fz (w.heap.size+1) 1 (by omega) (by omega);have z2:=hx7.o.fz (w.heap.size+1) 2 (by omega) (by omega);have z3:=hx7.o.fz (w.heap.size+1) 3 (by omega) (by omega);have z4:=hx7.o.fz (w.heap.size+1) 4 (by omega) (by omega);go_wp2_with fail
           go_step3
           simp only[Exit.then];refine⟨rfl,?_⟩;go_wp2_with fail;change bodyPost _ _ _ Exit.ret _ _;refine aK (v:=.tuple #[.agg zF,↑(3:Int)]) ?_ rfl (hFS _ ?_)
           ·rw[aV rfl]
            go_simp
           ·(repeat' (first|exact hx7.o.below|exact bS _|(with_reducible refine aU ?_ ?_ _)))
          case pos=>
           have hSb:((S:Int) != y0*256+y1)=false:=by simpa using hS
           have FO:=FO (by rw[mQ];simpa using hS);rw[hrd]at FO;unfold frV at FO;rw[hSb];clear hFS mQ hS hSb hrd;have hdl:((l.drop 6).take (m-6)).length=m-6:=by rw[cQ,fF];omega
           have QC:=λW(hb:Below wc wc W)=>af ((Bj _ _ W w (lJ.below (hx7.o.below.trans (hb.mono hx7.o.below.size))) (by rw[hdl];omega)).mono (R':=λe w'=>(∃A8 c8,e=.returned (.slice A8 (m-6) c8)/\iJ w' wc (.slice A8 (m-6) c8) ((l.drop 6).take (m-6)))/\Below wc wc w') λe w' h=>by
            obtain⟨v,rfl,ho,hb'⟩:=h;obtain⟨A8,c8,rfl,-⟩:=ho.sees.at_;refine⟨⟨A8,c8,by rw[hdl],?_⟩,hb.trans (hb'.mono hb.size)⟩;rw[hdl]at ho;exact ho.base hb.size)
           generalize(l.drop 6).take (m-6)=dl at *;have CS:=λ(W:World)(hb:Below wc wc W)=>(hx7.o.keep hb).st;have B7:=ah wc wc;have p4:(6:Int)<=(m:Int):=by omega
           have p5:6<=m:=by omega
           have p6:m<=c:=by omega
           have wrp:IntKind.i64.wrap 6=6:=by decide
           have p7:¬c=6:=by omega
           clear p2 p3;obtain⟨s0,s1,s2⟩:=CS _ B7;clear lJ;go_wp2_with fail
           go_region_held3 (λW=>W.cell? (w.heap.size+1+1+1,0)=some ↑t.r/\W.cell? (w.heap.size+1+1+1,1)=some ↑t.s/\W.cell? (w.heap.size+1+1+1,2)=some ↑t.m)
            (first|exact CS _ B7|exact CS _ B7.drew|exact CS _ hb8|exact CS _ hb8.drew|go_keep)
            (first
             |((go_at_call 71;refine(QC _ ?_).o.mono ?_);(focus (first|exact B7|exact B7.drew));rintro e w8 ⟨⟨A8,c8,rfl,ho8⟩,hb8⟩;have hx8:=hx7.o.keep hb8;obtain⟨f0,f1,f2,f3,f4⟩:=hx8.fr;have v0:=hx8.fz (w.heap.size+1+1) 0 (by omega) (by omega);have v1:=hx8.fz (w.heap.size+1+1) 1 (by omega) (by omega);have v2:=hx8.fz (w.heap.size+1+1) 2 (by omega) (by omega);have v3:=hx8.fz (w.heap.size+1+1) 3 (by omega) (by omega);have v4:=hx8.fz (w.heap.size+1+1) 4 (by omega) (by omega))
             |fail)
           go_wp2_with fail;have hF:=hx8.fill (show iJ w8 (w.heap.size+1+1+1) _ dl from ho8.base (by have:=hx7.o.lt;omega)) ↑(Fr.kd l) ↑t.r ↑t.s ↑t.m (.slice A8 (m-6) c8);generalize((((w8.setCell (w.heap.size+1+1,0) ↑(Fr.kd l)).setCell (w.heap.size+1+1,1) ↑t.r).setCell (w.heap.size+1+1,2) ↑t.s).setCell (w.heap.size+1+1,3) ↑t.m).setCell (w.heap.size+1+1,4) (.slice A8 (m-6) c8)=w9 at *;obtain⟨k0,k1,k2,k3,k4⟩:=hF.fr;obtain⟨r0,r1,r2,r3,r4⟩:=hF.res;have z0:=hF.fz 0;have z1:=hF.fz 1;have z2:=hF.fz 2;have z3:=hF.fz 3;have z4:=hF.fz 4;have hG:=af hF;clear hF hx8 hx7 f0 f1 f2 f3 f4 v0 v1 v2 v3 v4 s0 s1 s2 CS B7 QC ho8 hb8 hb7 p1 p4 p5 p6 p7 wrp
           go_step3
           go_wp2_with fail;change bodyPost _ _ _ Exit.ret _ _;refine aK (v:=.tuple #[.agg #[↑(Fr.kd l),↑t.r,↑t.s,↑t.m,.slice A8 (m-6) c8],↑(0:Int)]) ?_ rfl (FO _ _ ?_ ?_)
           ·rw[aV rfl]
            go_simp
           ·exact(((((hG.o.own.other (by omega) _ _).other (by omega) _ _).other (by omega) _ _).other (by omega) _ _).other (by omega) _ _).base (by omega)
           ·(repeat' (first|exact hG.o.below|exact bS _|(with_reducible refine aU ?_ ?_ _)))
end
end Go.Proofs.YteadkhigkmijiaaGreat
