/- Texts RaF in one. -/
import Derived.Test.YteadkhigkmijiaaGreatPD1
import Derived.Test.YteadkhigkmijiaaGreatPD8
import Derived.Test.YteadkhigkmijiaaGreatPD25
import Derived.Test.YteadkhigkmijiaaGreatPD31
import Derived.Test.YteadkhigkmijiaaGreatPD40
set_option linter.all false
namespace Go.Proofs.YteadkhigkmijiaaGreat
section
set_option maxRecDepth 100000
set_option maxHeartbeats 8000000
open Go.RowKit
open Fr (St F)
theorem NN(a:Int)(v:Value)(w:World):
  Calls Tryz.prog 127 #[↑a,v] w λe w'=>e=.returned (if a=2 then v else .slice none 0 0)/\w'=w:=by
 by_cases h:a=2
 ·rw[au h]
  subst h
  go_enter Tryz.func127,Tryz.ntmps127
  go_wp2;go_ret;exact⟨rfl,rfl⟩
 ·rw[ai h]
  have q:(a==2)=false:=by rw[aB];exact h
  go_enter Tryz.func127,Tryz.ntmps127
  go_wp2;go_ret;exact⟨rfl,rfl⟩
def kR(x y:List Int):Hn:=⟨2,2,x,y,0⟩
theorem NP(own:St):Fr.err [] own≠0:=by
 unfold Fr.err;rw[ai (by simp[Fr.ji])]
 decide
theorem rz{own:St}{T:F->Bool}(a:Int)(l:List Int):jf own T 2 (if a=2 then l else [])=jf own T a l:=by
 unfold jf;by_cases h:a=2
 ·rw[au h,av h,av rfl]
 ·rw[ai h,aj h,aj (NP own)]
  rfl
theorem DX{w w':World}{own:St}{T:F->Bool}{h:Hn}{e:Ending}(hf:Fst w own T (kR (if h.a=2 then h.x else []) (if h.b=2 then h.y else [])) e w'):Fst w own T h e w':=by
 cases q0:jf own T h.a h.x
 ·cases q1:jf own T h.b h.y
  ·unfold Fst at hf ⊢
   rw[wI q0 q1];rw[wI (h:=kR (if h.a=2 then h.x else []) (if h.b=2 then h.y else [])) ((rz h.a h.x).trans q0) ((rz h.b h.y).trans q1)]at hf;exact hf
  ·unfold Fst at hf ⊢
   rw[wH q0 q1];rw[wH (h:=kR (if h.a=2 then h.x else []) (if h.b=2 then h.y else [])) ((rz h.a h.x).trans q0) ((rz h.b h.y).trans q1)]at hf;have hb:h.b=2:=by
    unfold jf at q1;simp only[bg,bC]at q1;exact q1.1
   simp only[kR,au hb]at hf;exact hf
 ·unfold Fst at hf ⊢
  rw[wG q0];rw[wG (h:=kR (if h.a=2 then h.x else []) (if h.b=2 then h.y else [])) ((rz h.a h.x).trans q0)]at hf;have ha:h.a=2:=by
   unfold jf at q0;simp only[bg,bC]at q0;exact q0.1
  simp only[kR,au ha]at hf;exact hf
theorem NQ(b:Bool)(G:GS)(g:Nat)(m:NM)(xx:RX)(vx vy:Value)(x y:List Int)(w:World)(hx:iI w w vx x)(bx:iK x)(hy:iI w w vy y)(by_:iK y)(hm:RA b G w g m xx):
  Calls Tryz.prog 180 #[↑(g,0),vx,vy] w (Fst w NM.z3 (λf=>decide (m.lP f)) (kR x y)):=by
 have HX:=λW(hW:Below w w W)=>af (qI vx x NM.z3 W ((hx.below hW).more hW.size) bx);have HY:=λW(hW:Below w w W)=>af (qI vy y NM.z3 W ((hy.below hW).more hW.size) by_);have F0:=λe w'=>@wJ w w' NM.z3 (λf=>decide (m.lP f)) (kR x y) e;have F1:=λe w'=>@wK w w' NM.z3 (λf=>decide (m.lP f)) (kR x y) e;have FN:=λe w'=>@wL w w' NM.z3 (λf=>decide (m.lP f)) (kR x y) e;obtain⟨N,hNe⟩:∃N,m.t.ns.length=N:=⟨_,rfl⟩;obtain⟨i,hie⟩:∃i,m.i=i:=⟨_,rfl⟩;have hT:∀f:F,(λf=>decide (m.lP f)) f=decide (f.k≠1/\f.st.s<(N:Int)/\f.st.s≠(i:Int)):=λf=>by rw[<-hNe,<-hie];rfl
 obtain⟨AN,cN,c0,-⟩:=hm.c0;rw[hNe]at c0;have c4:=hm.c4;rw[hie]at c4;have hgl:=hm.lt;have HG:=λW(hW:Below w w W)=>af (aL ((hW.cell (p:=(g,0)) hgl).trans c0) ((hW.cell (p:=(g,4)) hgl).trans c4));unfold Dec at HX HY;generalize hTT:(λf=>decide (m.lP f))=T at *;clear hTT hm hNe hie c0 c4;generalize hD:Fst w NM.z3 T (kR x y)=D at *;clear hD;obtain⟨Ax,cx,rfl,-⟩:=hx.at_;obtain⟨Ay,cy,rfl,-⟩:=hy.at_;unfold stV NM.z3 at HX HY;unfold kR NM.z3 at F0 F1 FN;simp only at HX HY F0 F1 FN ⊢;clear hx hy bx by_
 go_enter Tryz.func180,Tryz.ntmps180
 go_wp2_with fail
 go_loopw [9] (λi wr=>∃k:Nat,k<=2/\i=↑k/\(0<k->jf ⟨0,0,0⟩ T 2 x=false)/\(1<k->jf ⟨0,0,0⟩ T 2 y=false)/\Below w w wr/\Blk wr w zF 182/\Blk wr (w.heap.size+1) #[.slice Ax x.length cx,.slice Ay y.length cy] 41) (λi _=>2-(intOf i).toNat)
 case atStart=>exact⟨0,by omega,rfl,λh=>absurd h (by omega),λh=>absurd h (by omega),((ah w w).alloc lr _).alloc (by simp) _,(aJ _ _ rfl _ _).alloc _,aJ _ _ (by simp) _ _⟩
 case round=>
  obtain⟨k,hk,rfl,n0,n1,b0,hR,hS⟩:=hrel;rcases(by omega:k=0\/k=1\/k=2)with rfl|rfl|rfl
  ·skip
   have s0:=hS.cell 0 (x:=.slice Ax x.length cx) rfl;have hh:jf ⟨0,0,0⟩ T 2 x=(decide (Fr.err x ⟨0,0,0⟩=0)&&T (Fr.res x ⟨0,0,0⟩)):=by unfold jf;rw[av rfl,cK]
   generalize jf ⟨0,0,0⟩ T 2 x=hb at *;go_wp2_with fail;refine(HX _ b0).o.mono ?_;rintro _ w2 ⟨v,rfl,hv,b2⟩;have hR2:=hR.below b2 hR.lt;have hS2:=hS.below b2 hS.lt;have b3:=b0.trans (b2.mono b0.size);have hZ:=b0.size;have hZ2:=b2.size;have hSl:=hS.lt;clear FN F1 HY HX hR hS b0 b2 s0;generalize Fr.err x ⟨0,0,0⟩=er at *;generalize Fr.res x ⟨0,0,0⟩=fr at *;rw[hT fr]at hh;obtain⟨fk,⟨f_r,f_s,f_m⟩,fd⟩:=fr;obtain⟨A2,c2,rfl,-⟩:=hv.sees.at_;simp only at hv F0 hh;have hX:=aJ w2 w2 rfl (aF fk f_r f_s f_m A2 (fd.length) c2) 182;have hR3:=hR2.alloc (.cells (aF fk f_r f_s f_m A2 (fd.length) c2) 182);have hS3:=hS2.alloc (.cells (aF fk f_r f_s f_m A2 (fd.length) c2) 182);have b4:=b3.alloc b3.size (.cells (aF fk f_r f_s f_m A2 (fd.length) c2) 182);have hv3:=hv.alloc (.cells (aF fk f_r f_s f_m A2 (fd.length) c2) 182);obtain⟨g0,g4⟩:=(HG _ b4).o;clear hR2 hS2 hv hT;unfold frV;simp only;have y0:=hX.cell 0 (x:=↑fk) rfl;have y1:=hX.cell 1 (x:=↑f_r) rfl;have y2:=hX.cell 2 (x:=↑f_s) rfl;have y3:=hX.cell 3 (x:=↑f_m) rfl;have y4:=hX.cell 4 (x:=.slice A2 fd.length c2) rfl;have hcase:(er≠0/\hb=false)\/(er=0/\fk=1/\hb=false)\/(er=0/\fk≠1/\¬f_s<(N:Int)/\hb=false)\/(er=0/\fk≠1/\f_s<(N:Int)/\f_s=(i:Int)/\hb=false)\/(er=0/\fk≠1/\f_s<(N:Int)/\f_s≠(i:Int)/\hb=true):=by
    by_cases e1:er=0
    ·by_cases e2:fk=1
     ·exact .inr (.inl ⟨e1,e2,by rw[hh,aj (by omega:¬(fk≠1/\f_s<(N:Int)/\f_s≠(i:Int))),eG]⟩)
     ·by_cases e3:f_s<(N:Int)
      ·by_cases e4:f_s=(i:Int)
       ·exact .inr (.inr (.inr (.inl ⟨e1,e2,e3,e4,by rw[hh,aj (by omega:¬(fk≠1/\f_s<(N:Int)/\f_s≠(i:Int))),eG]⟩)))
       ·exact .inr (.inr (.inr (.inr ⟨e1,e2,e3,e4,by rw[hh,av e1,av (⟨e2,e3,e4⟩:fk≠1/\f_s<(N:Int)/\f_s≠(i:Int)),Bool.and_true]⟩)))
      ·exact .inr (.inr (.inl ⟨e1,e2,e3,by rw[hh,aj (by omega:¬(fk≠1/\f_s<(N:Int)/\f_s≠(i:Int))),eG]⟩))
    ·exact .inl ⟨e1,by rw[hh,aj e1,dD]⟩
   clear hh;rcases hcase with⟨e1,hn⟩|⟨rfl,e2,hn⟩|⟨rfl,e2,e3,hn⟩|⟨rfl,e2,e3,e4,hn⟩|⟨rfl,e2,e3,e4,hn⟩
   ·skip
    have q0:(er==0)=false:=by rw[aB];exact e1
    clear e1;have HN:=af hn;have HH:=af (λn=>aL (aC b4 n) (aL (hR3.drewN n) (hS3.drewN n)));clear F0 hn hX hR3 hS3 b4 b3 hv3;go_wp2_with fail
    go_quiet (fail)
    go_wp2;go_roundw
    case rel=>exact⟨1,by omega,by go_num,λ_=>HN.o,λh=>absurd h (by omega),(HH.o _).1,(HH.o _).2.1,(HH.o _).2.2⟩
    case measure=>simp[intOf]
   ·skip
    subst e2;have HN:=af hn;have HH:=af (λn=>aL (aC b4 n) (aL (hR3.drewN n) (hS3.drewN n)));clear F0 hn hX hR3 hS3 b4 b3 hv3;go_wp2_with fail
    go_quiet (fail)
    go_wp2;go_roundw
    case rel=>exact⟨1,by omega,by go_num,λ_=>HN.o,λh=>absurd h (by omega),(HH.o _).1,(HH.o _).2.1,(HH.o _).2.2⟩
    case measure=>simp[intOf]
   ·skip
    have q1:(fk != 1)=true:=by rw[bV];exact e2
    have q2:decide (f_s<(N:Int))=false:=aj e3;clear e2 e3;have HN:=af hn;have HH:=af (λn=>aL (aC b4 n) (aL (hR3.drewN n) (hS3.drewN n)));clear F0 hn hX hR3 hS3 b4 b3 hv3;go_wp2_with fail
    go_quiet (fail)
    go_wp2;go_roundw
    case rel=>exact⟨1,by omega,by go_num,λ_=>HN.o,λh=>absurd h (by omega),(HH.o _).1,(HH.o _).2.1,(HH.o _).2.2⟩
    case measure=>simp[intOf]
   ·skip
    have q1:(fk != 1)=true:=by rw[bV];exact e2
    have q2:decide (f_s<(N:Int))=true:=av e3;have q3:(f_s != (i:Int))=false:=by rw[e4];simp
    clear e2 e3 e4;have HN:=af hn;have HH:=af (λn=>aL (aC b4 n) (aL (hR3.drewN n) (hS3.drewN n)));clear F0 hn hX hR3 hS3 b4 b3 hv3;go_wp2_with fail
    go_quiet (fail)
    go_wp2;go_roundw
    case rel=>exact⟨1,by omega,by go_num,λ_=>HN.o,λh=>absurd h (by omega),(HH.o _).1,(HH.o _).2.1,(HH.o _).2.2⟩
    case measure=>simp[intOf]
   ·have q1:(fk != 1)=true:=by rw[bV];exact e2
    have q2:decide (f_s<(N:Int))=true:=av e3;have q3:(f_s != (i:Int))=true:=by rw[bV];exact e4
    clear e2 e3 e4;have HF:=af (λe w' h=>F0 e w' hn h);clear F0 hn;have HH:=af (λn W'(e:World.drewN _ n=W')=>e▸aL (aC b4 n) (aL (hR3.drewN n) (aL (hX.drewN n) (hv3.below (aC (ah _ _) n) lr))));clear hR3 hS3 hX b4 b3 hv3;go_wp2_with fail
    go_quiet (fail)
    generalize hw5:World.drewN _ _=w5;obtain⟨b6,hR5,hX5,hv5⟩:=HH.o _ _ hw5;clear hw5;clear HH y0 y1 y2 y3 y4 g0 g4;have y0:=hX5.cell 0 (x:=↑fk) rfl;have y1:=hX5.cell 1 (x:=↑f_r) rfl;have y2:=hX5.cell 2 (x:=↑f_s) rfl;have y3:=hX5.cell 3 (x:=↑f_m) rfl;have y4:=hX5.cell 4 (x:=.slice A2 fd.length c2) rfl;have r0:=hR5.cell 0 (x:=↑(0:Int)) rfl;have r1:=hR5.cell 1 (x:=↑(0:Int)) rfl;have r2:=hR5.cell 2 (x:=↑(0:Int)) rfl;have r3:=hR5.cell 3 (x:=↑(0:Int)) rfl;have r4:=hR5.cell 4 (x:=.slice none 0 0) rfl;have f0:=hR5.frozen 0;have f1:=hR5.frozen 1;have f2:=hR5.frozen 2;have f3:=hR5.frozen 3;have f4:=hR5.frozen 4;have jY:w.heap.size<wr.heap.size:=by omega
    have hvf:=af (((((hv5.iN (w,0) ↑fk jY).iN (w,1) ↑f_r jY).iN (w,2) ↑f_s jY).iN (w,3) ↑f_m jY).iN (w,4) (.slice A2 fd.length c2) jY);have hbf:=af (((((b6.setCell (p:=(w.heap.size,0)) lr ↑fk).setCell (p:=(w.heap.size,1)) lr ↑f_r).setCell (p:=(w.heap.size,2)) lr ↑f_s).setCell (p:=(w.heap.size,3)) lr ↑f_m).setCell (p:=(w.heap.size,4)) lr (.slice A2 fd.length c2));clear hX5 hR5 b6 hv5;go_wp2;refine aK (v:=.tuple #[.agg (aF fk f_r f_s f_m A2 (fd.length) c2),↑true]) ?_ rfl (HF.o _ _ ⟨_,rfl,hvf.o.base hZ,hbf.o⟩);rw[aV rfl];go_simp
  ·have n0:=n0 (by omega)
   have F1:=λe w' h=>F1 e w' n0 h;have s0:=hS.cell 1 (x:=.slice Ay y.length cy) rfl;have hh:jf ⟨0,0,0⟩ T 2 y=(decide (Fr.err y ⟨0,0,0⟩=0)&&T (Fr.res y ⟨0,0,0⟩)):=by unfold jf;rw[av rfl,cK]
   generalize jf ⟨0,0,0⟩ T 2 y=hb at *;go_wp2_with fail;refine(HY _ b0).o.mono ?_;rintro _ w2 ⟨v,rfl,hv,b2⟩;have hR2:=hR.below b2 hR.lt;have hS2:=hS.below b2 hS.lt;have b3:=b0.trans (b2.mono b0.size);have hZ:=b0.size;have hZ2:=b2.size;have hSl:=hS.lt;clear FN F0 HY HX hR hS b0 b2 s0;generalize Fr.err y ⟨0,0,0⟩=er at *;generalize Fr.res y ⟨0,0,0⟩=fr at *;rw[hT fr]at hh;obtain⟨fk,⟨f_r,f_s,f_m⟩,fd⟩:=fr;obtain⟨A2,c2,rfl,-⟩:=hv.sees.at_;simp only at hv F1 hh;have hX:=aJ w2 w2 rfl (aF fk f_r f_s f_m A2 (fd.length) c2) 182;have hR3:=hR2.alloc (.cells (aF fk f_r f_s f_m A2 (fd.length) c2) 182);have hS3:=hS2.alloc (.cells (aF fk f_r f_s f_m A2 (fd.length) c2) 182);have b4:=b3.alloc b3.size (.cells (aF fk f_r f_s f_m A2 (fd.length) c2) 182);have hv3:=hv.alloc (.cells (aF fk f_r f_s f_m A2 (fd.length) c2) 182);obtain⟨g0,g4⟩:=(HG _ b4).o;clear hR2 hS2 hv hT;unfold frV;simp only;have y0:=hX.cell 0 (x:=↑fk) rfl;have y1:=hX.cell 1 (x:=↑f_r) rfl;have y2:=hX.cell 2 (x:=↑f_s) rfl;have y3:=hX.cell 3 (x:=↑f_m) rfl;have y4:=hX.cell 4 (x:=.slice A2 fd.length c2) rfl;have hcase:(er≠0/\hb=false)\/(er=0/\fk=1/\hb=false)\/(er=0/\fk≠1/\¬f_s<(N:Int)/\hb=false)\/(er=0/\fk≠1/\f_s<(N:Int)/\f_s=(i:Int)/\hb=false)\/(er=0/\fk≠1/\f_s<(N:Int)/\f_s≠(i:Int)/\hb=true):=by
    by_cases e1:er=0
    ·by_cases e2:fk=1
     ·exact .inr (.inl ⟨e1,e2,by rw[hh,aj (by omega:¬(fk≠1/\f_s<(N:Int)/\f_s≠(i:Int))),eG]⟩)
     ·by_cases e3:f_s<(N:Int)
      ·by_cases e4:f_s=(i:Int)
       ·exact .inr (.inr (.inr (.inl ⟨e1,e2,e3,e4,by rw[hh,aj (by omega:¬(fk≠1/\f_s<(N:Int)/\f_s≠(i:Int))),eG]⟩)))
       ·exact .inr (.inr (.inr (.inr ⟨e1,e2,e3,e4,by rw[hh,av e1,av (⟨e2,e3,e4⟩:fk≠1/\f_s<(N:Int)/\f_s≠(i:Int)),Bool.and_true]⟩)))
      ·exact .inr (.inr (.inl ⟨e1,e2,e3,by rw[hh,aj (by omega:¬(fk≠1/\f_s<(N:Int)/\f_s≠(i:Int))),eG]⟩))
    ·exact .inl ⟨e1,by rw[hh,aj e1,dD]⟩
   clear hh;rcases hcase with⟨e1,hn⟩|⟨rfl,e2,hn⟩|⟨rfl,e2,e3,hn⟩|⟨rfl,e2,e3,e4,hn⟩|⟨rfl,e2,e3,e4,hn⟩
   ·skip
    have q0:(er==0)=false:=by rw[aB];exact e1
    clear e1;have HN:=af hn;have HH:=af (λn=>aL (aC b4 n) (aL (hR3.drewN n) (hS3.drewN n)));clear F1 hn hX hR3 hS3 b4 b3 hv3;go_wp2_with fail
    go_quiet (fail)
    go_wp2;go_roundw
    case rel=>exact⟨2,by omega,by go_num,λ_=>n0,λ_=>HN.o,(HH.o _).1,(HH.o _).2.1,(HH.o _).2.2⟩
    case measure=>simp[intOf]
   ·skip
    subst e2;have HN:=af hn;have HH:=af (λn=>aL (aC b4 n) (aL (hR3.drewN n) (hS3.drewN n)));clear F1 hn hX hR3 hS3 b4 b3 hv3;go_wp2_with fail
    go_quiet (fail)
    go_wp2;go_roundw
    case rel=>exact⟨2,by omega,by go_num,λ_=>n0,λ_=>HN.o,(HH.o _).1,(HH.o _).2.1,(HH.o _).2.2⟩
    case measure=>simp[intOf]
   ·skip
    have q1:(fk != 1)=true:=by rw[bV];exact e2
    have q2:decide (f_s<(N:Int))=false:=aj e3;clear e2 e3;have HN:=af hn;have HH:=af (λn=>aL (aC b4 n) (aL (hR3.drewN n) (hS3.drewN n)));clear F1 hn hX hR3 hS3 b4 b3 hv3;go_wp2_with fail
    go_quiet (fail)
    go_wp2;go_roundw
    case rel=>exact⟨2,by omega,by go_num,λ_=>n0,λ_=>HN.o,(HH.o _).1,(HH.o _).2.1,(HH.o _).2.2⟩
    case measure=>simp[intOf]
   ·skip
    have q1:(fk != 1)=true:=by rw[bV];exact e2
    have q2:decide (f_s<(N:Int))=true:=av e3;have q3:(f_s != (i:Int))=false:=by rw[e4];simp
    clear e2 e3 e4;have HN:=af hn;have HH:=af (λn=>aL (aC b4 n) (aL (hR3.drewN n) (hS3.drewN n)));clear F1 hn hX hR3 hS3 b4 b3 hv3;go_wp2_with fail
    go_quiet (fail)
    go_wp2;go_roundw
    case rel=>exact⟨2,by omega,by go_num,λ_=>n0,λ_=>HN.o,(HH.o _).1,(HH.o _).2.1,(HH.o _).2.2⟩
    case measure=>simp[intOf]
   ·have q1:(fk != 1)=true:=by rw[bV];exact e2
    have q2:decide (f_s<(N:Int))=true:=av e3;have q3:(f_s != (i:Int))=true:=by rw[bV];exact e4
    clear e2 e3 e4;have HF:=af (λe w' h=>F1 e w' hn h);clear F1 hn;have HH:=af (λn W'(e:World.drewN _ n=W')=>e▸aL (aC b4 n) (aL (hR3.drewN n) (aL (hX.drewN n) (hv3.below (aC (ah _ _) n) lr))));clear hR3 hS3 hX b4 b3 hv3;go_wp2_with fail
    go_quiet (fail)
    generalize hw5:World.drewN _ _=w5;obtain⟨b6,hR5,hX5,hv5⟩:=HH.o _ _ hw5;clear hw5;clear HH y0 y1 y2 y3 y4 g0 g4;have y0:=hX5.cell 0 (x:=↑fk) rfl;have y1:=hX5.cell 1 (x:=↑f_r) rfl;have y2:=hX5.cell 2 (x:=↑f_s) rfl;have y3:=hX5.cell 3 (x:=↑f_m) rfl;have y4:=hX5.cell 4 (x:=.slice A2 fd.length c2) rfl;have r0:=hR5.cell 0 (x:=↑(0:Int)) rfl;have r1:=hR5.cell 1 (x:=↑(0:Int)) rfl;have r2:=hR5.cell 2 (x:=↑(0:Int)) rfl;have r3:=hR5.cell 3 (x:=↑(0:Int)) rfl;have r4:=hR5.cell 4 (x:=.slice none 0 0) rfl;have f0:=hR5.frozen 0;have f1:=hR5.frozen 1;have f2:=hR5.frozen 2;have f3:=hR5.frozen 3;have f4:=hR5.frozen 4;have jY:w.heap.size<wr.heap.size:=by omega
    have hvf:=af (((((hv5.iN (w,0) ↑fk jY).iN (w,1) ↑f_r jY).iN (w,2) ↑f_s jY).iN (w,3) ↑f_m jY).iN (w,4) (.slice A2 fd.length c2) jY);have hbf:=af (((((b6.setCell (p:=(w.heap.size,0)) lr ↑fk).setCell (p:=(w.heap.size,1)) lr ↑f_r).setCell (p:=(w.heap.size,2)) lr ↑f_s).setCell (p:=(w.heap.size,3)) lr ↑f_m).setCell (p:=(w.heap.size,4)) lr (.slice A2 fd.length c2));clear hX5 hR5 b6 hv5;go_wp2;refine aK (v:=.tuple #[.agg (aF fk f_r f_s f_m A2 (fd.length) c2),↑true]) ?_ rfl (HF.o _ _ ⟨_,rfl,hvf.o.base hZ,hbf.o⟩);rw[aV rfl];go_simp
  ·have n0:=n0 (by omega)
   have n1:=n1 (by omega);have FN:=λe w'=>FN e w' n0 n1;clear HX HY F0 F1 hS hT;have r0:=hR.cell 0 (x:=↑(0:Int)) rfl;have r1:=hR.cell 1 (x:=↑(0:Int)) rfl;have r2:=hR.cell 2 (x:=↑(0:Int)) rfl;have r3:=hR.cell 3 (x:=↑(0:Int)) rfl;have r4:=hR.cell 4 (x:=.slice none 0 0) rfl;have f0:=hR.frozen 0;have f1:=hR.frozen 1;have f2:=hR.frozen 2;have f3:=hR.frozen 3;have f4:=hR.frozen 4;go_wp2;refine aK (v:=.tuple #[.agg zF,↑false]) ?_ rfl (FN _ _ ⟨rfl,?_⟩)
   ·rw[aV rfl]
    go_simp
   ·(repeat' (first|exact b0|exact aR _|(with_reducible refine aU ?_ ?_ _)|omega|(simp;omega)))
end
end Go.Proofs.YteadkhigkmijiaaGreat
