/- Texts NdR, NdV, SgB1 in one. -/
import Derived.Test.YteadkhigkmijiaaGreatPD1
import Derived.Test.YteadkhigkmijiaaGreatPD8
import Derived.Test.YteadkhigkmijiaaGreatPD20
import Derived.Test.YteadkhigkmijiaaGreatPD23
set_option linter.all false
namespace Go.Proofs.YteadkhigkmijiaaGreat
section
set_option maxRecDepth 100000
set_option maxHeartbeats 8000000
open Go.RowKit
open Fr (St F)
def Fst(w:World)(own:St)(T:F->Bool)(h:Hn)(e:Ending)(w':World):Prop:=
 match((NM.rows h).find? λl=>decide (Fr.err l own=0)&&T (Fr.res l own))with
 |some l=>∃v,e=.returned (.tuple #[frV (Fr.res l own) v,↑true])/\iJ w' w v (Fr.res l own).d/\Below w w w'
 |none=>e=.returned (.tuple #[frV Fr.zero (.slice none 0 0),↑false])/\Below w w w'
def jf(own:St)(T:F->Bool)(a:Int)(l:List Int):Bool:=decide (a=2)&&(decide (Fr.err l own=0)&&T (Fr.res l own))
section
variable {w w':World}{own:St}{T:F->Bool}{h:Hn}{e:Ending}
theorem wG(h0:jf own T h.a h.x=true):((NM.rows h).find? λl=>decide (Fr.err l own=0)&&T (Fr.res l own))=some h.x:=by
 unfold jf at h0;simp only[bg,bC]at h0;unfold NM.rows;rw[au h0.1,gA,List.find?_cons_of_pos (by simp[h0.2.1,h0.2.2])]
theorem CU(h0:jf own T h.a h.x=false):((NM.rows h).find? λl=>decide (Fr.err l own=0)&&T (Fr.res l own))=((if h.b=2 then [h.y]else []).find? λl=>decide (Fr.err l own=0)&&T (Fr.res l own)):=by
 unfold jf at h0;unfold NM.rows;by_cases ha:h.a=2
 ·rw[av ha,cK]at h0
  rw[au ha,gA,List.find?_cons_of_neg (by rw[h0];decide),gJ]
 ·rw[ai ha,gJ]
theorem wH(h0:jf own T h.a h.x=false)(h1:jf own T h.b h.y=true):((NM.rows h).find? λl=>decide (Fr.err l own=0)&&T (Fr.res l own))=some h.y:=by
 rw[CU h0];unfold jf at h1;simp only[bg,bC]at h1;rw[au h1.1,List.find?_cons_of_pos (by simp[h1.2.1,h1.2.2])]
theorem wI(h0:jf own T h.a h.x=false)(h1:jf own T h.b h.y=false):((NM.rows h).find? λl=>decide (Fr.err l own=0)&&T (Fr.res l own))=none:=by
 rw[CU h0];unfold jf at h1;by_cases hb:h.b=2
 ·rw[av hb,cK]at h1
  rw[au hb,List.find?_cons_of_neg (by rw[h1];decide)]
  rfl
 ·rw[ai hb]
  rfl
theorem wJ(h0:jf own T h.a h.x=true)(hr:∃v,e=.returned (.tuple #[frV (Fr.res h.x own) v,↑true])/\iJ w' w v (Fr.res h.x own).d/\Below w w w'):Fst w own T h e w':=by
 unfold Fst;rw[wG h0];exact hr
theorem wK(h0:jf own T h.a h.x=false)(h1:jf own T h.b h.y=true)(hr:∃v,e=.returned (.tuple #[frV (Fr.res h.y own) v,↑true])/\iJ w' w v (Fr.res h.y own).d/\Below w w w'):Fst w own T h e w':=by
 unfold Fst;rw[wH h0 h1];exact hr
theorem wL(h0:jf own T h.a h.x=false)(h1:jf own T h.b h.y=false)(hr:e=.returned (.tuple #[frV Fr.zero (.slice none 0 0),↑false])/\Below w w w'):Fst w own T h e w':=by
 unfold Fst;rw[wI h0 h1];exact hr
end
theorem CW(fv:Value)(T:F->Bool)(h:Hn)(vx vy:Value)(own:St)(w:World)(hx:iI w w vx h.x)(bx:iK h.x)(hy:iI w w vy h.y)(by_:iK h.y)
  (H:(∃g:Nat,fv=.func (.func 159) #[↑(g,0)] #[]/\∀f v W,Below w w W->Hid (Calls Tryz.prog 159 #[↑(g,0),frV f v] W λe w'=>e=.returned ↑(T f)/\Below W W w'))\/
   ∃p:Nat,fv=.func (.func 164) #[] #[↑(p,0)]/\∀f v W,Below w w W->Hid (Calls Tryz.prog 164 #[frV f v,↑(p,0)] W λe w'=>e=.returned ↑(T f)/\Below W W w')):
  Calls Tryz.prog 158 #[hdV h vx vy,stV own,fv] w (Fst w own T h):=by
 rcases H with⟨g,rfl,HT⟩|⟨p,rfl,HT⟩
 all_goals
  have HX:=λW(hW:Below w w W)=>af (sS vx h.x own W ((hx.below hW).more hW.size) bx);have HY:=λW(hW:Below w w W)=>af (sS vy h.y own W ((hy.below hW).more hW.size) by_);have F0:=λe w'=>@wJ w w' own T h e;have F1:=λe w'=>@wK w w' own T h e;have FN:=λe w'=>@wL w w' own T h e;unfold Dec at HX HY;generalize Fst w own T h=D at *;obtain⟨Ax,cx,rfl,-⟩:=hx.at_;obtain⟨Ay,cy,rfl,-⟩:=hy.at_;obtain⟨a,b',x,y,of⟩:=h;unfold stV at HX HY ⊢;unfold hdV;simp only at HX HY F0 F1 FN ⊢;clear hx hy bx by_
  go_enter Tryz.func158,Tryz.ntmps158
  go_wp2_with fail
  go_loopw [24] (λi wr=>∃k:Nat,k<=2/\i=↑k/\(0<k->jf own T a x=false)/\(1<k->jf own T b' y=false)/\Below w w wr/\Blk wr (w.heap.size+1) #[↑own.r,↑own.s,↑own.m] 96/\Blk wr (w.heap.size+2) zF 182/\Blk wr (w.heap.size+3) #[↑a,.slice Ax x.length cx,↑b',.slice Ay y.length cy] 267) (λi _=>2-(intOf i).toNat)
  case atStart=>exact⟨0,by omega,rfl,λh=>absurd h (by omega),λh=>absurd h (by omega),((((ah w w).alloc lr _).alloc (by simp) _).alloc (by simp;omega) _).alloc (by simp;omega) _,(((aJ _ _ (by simp) _ _).alloc _).alloc _),((aJ _ _ (by simp) _ _).alloc _),(aJ _ _ (by simp) _ _)⟩
  case round=>
   obtain⟨k,hk,rfl,n0,n1,b0,hO,hR,hS⟩:=hrel;rcases(by omega:k=0\/k=1\/k=2)with rfl|rfl|rfl
   ·have s0:=hS.cell 0 (x:=↑a) rfl
    have s1:=hS.cell 1 (x:=.slice Ax x.length cx) rfl;by_cases ha:a=2
    case neg=>
     have q0:(a != 2)=true:=by simpa using ha
     have hn:jf own T a x=false:=by unfold jf;rw[aj ha,dD]
     have b1:=af (b0.alloc b0.size (.cells #[↑a,.slice Ax x.length cx] 267));have H1:=af (aL (hO.alloc (.cells #[↑a,.slice Ax x.length cx] 267)) (aL (hR.alloc (.cells #[↑a,.slice Ax x.length cx] 267)) (hS.alloc (.cells #[↑a,.slice Ax x.length cx] 267))));clear HX HY HT F0 F1 FN hO hR hS b0 ha;go_wp2;go_roundw
     case rel=>exact⟨1,by omega,by go_num,λ_=>hn,λh=>absurd h (by omega),b1.o,H1.o.1,H1.o.2.1,H1.o.2.2⟩
     case measure=>simp[intOf]
    case pos=>
     have hh:jf own T a x=(decide (Fr.err x own=0)&&T (Fr.res x own)):=by unfold jf;rw[av ha,cK]
     generalize jf own T a x=hb at *;subst ha;have b1:=b0.alloc b0.size (.cells #[↑(2:Int),.slice Ax x.length cx] 267);have hO1:=hO.alloc (.cells #[↑(2:Int),.slice Ax x.length cx] 267);have hR1:=hR.alloc (.cells #[↑(2:Int),.slice Ax x.length cx] 267);have hS1:=hS.alloc (.cells #[↑(2:Int),.slice Ax x.length cx] 267);have p0:=hO1.cell 0 (x:=↑own.r) rfl;have p1:=hO1.cell 1 (x:=↑own.s) rfl;have p2:=hO1.cell 2 (x:=↑own.m) rfl;have hZ:=b0.size;have hS4:=hS.lt;clear hO hR hS b0;go_wp2_with fail;refine(HX _ b1).o.mono ?_;rintro _ w2 ⟨v,rfl,hv,b2⟩;have hO2:=hO1.below b2 hO1.lt;have hR2:=hR1.below b2 hR1.lt;have hS2:=hS1.below b2 hS1.lt;have b3:=b1.trans (b2.mono b1.size);clear FN F1 HY HX hO1 hR1 hS1 b1 b2 p0 p1 p2 s0 s1;generalize Fr.err x own=er at *;generalize Fr.res x own=fr at *;obtain⟨fk,⟨f_r,f_s,f_m⟩,fd⟩:=fr;obtain⟨A2,c2,rfl,-⟩:=hv.sees.at_;simp only at hv F0;have hX:=aJ w2 w2 rfl (aF fk f_r f_s f_m A2 (fd.length) c2) 182;have hO3:=hO2.alloc (.cells (aF fk f_r f_s f_m A2 (fd.length) c2) 182);have hR3:=hR2.alloc (.cells (aF fk f_r f_s f_m A2 (fd.length) c2) 182);have hS3:=hS2.alloc (.cells (aF fk f_r f_s f_m A2 (fd.length) c2) 182);have b4:=b3.alloc b3.size (.cells (aF fk f_r f_s f_m A2 (fd.length) c2) 182);have hv3:=hv.alloc (.cells (aF fk f_r f_s f_m A2 (fd.length) c2) 182);clear hO2 hR2 hS2 hv;unfold frV;simp only;by_cases he:er=0
     case neg=>
      have hn:hb=false:=by rw[hh,aj he,dD]
      have q0:(er==0)=false:=by rw[aB];exact he
      have HH:=af (aL b4 (aL hO3 (aL hR3 hS3)));have HN:=af hn;clear HT F0 hh he hn hX hO3 hR3 hS3 b4 b3 hv3;go_wp2;go_roundw
      case rel=>exact⟨1,by omega,by go_num,λ_=>HN.o,λh=>absurd h (by omega),HH.o.1,HH.o.2.1,HH.o.2.2.1,HH.o.2.2.2⟩
      case measure=>simp[intOf]
     case pos=>
      subst he;rw[av rfl,cK]at hh;have y0:=hX.cell 0 (x:=↑fk) rfl;have y1:=hX.cell 1 (x:=↑f_r) rfl;have y2:=hX.cell 2 (x:=↑f_s) rfl;have y3:=hX.cell 3 (x:=↑f_m) rfl;have y4:=hX.cell 4 (x:=.slice A2 fd.length c2) rfl;have HT:=HT ⟨fk,⟨f_r,f_s,f_m⟩,fd⟩ (.slice A2 fd.length c2) _ b4;generalize T ⟨fk,⟨f_r,f_s,f_m⟩,fd⟩=tf at *;unfold frV at HT F0;simp only at HT F0;go_wp2_with fail;refine HT.o.mono ?_;rintro _ w5 ⟨rfl,b5⟩;have hO5:=hO3.below b5 hO3.lt;have hR5:=hR3.below b5 hR3.lt;have hS5:=hS3.below b5 hS3.lt;have hX5:=hX.below b5 hX.lt;have hv5:=hv3.below b5 (by first|exact aR _|simp);have b6:=b4.trans (b5.mono b4.size);clear hO3 hR3 hS3 hX hv3 b4 b5 HT y0 y1 y2 y3 y4
      cases tf
      ·have HH:=af (aL b6 (aL hO5 (aL hR5 hS5)))
       have HN:=af hh;clear F0 hh hX5 hO5 hR5 hS5 b6 hv5;go_wp2;go_roundw
       case rel=>exact⟨1,by omega,by go_num,λ_=>HN.o,λh=>absurd h (by omega),HH.o.1,HH.o.2.1,HH.o.2.2.1,HH.o.2.2.2⟩
       case measure=>simp[intOf]
      ·have y0:=hX5.cell 0 (x:=↑fk) rfl
       have y1:=hX5.cell 1 (x:=↑f_r) rfl;have y2:=hX5.cell 2 (x:=↑f_s) rfl;have y3:=hX5.cell 3 (x:=↑f_m) rfl;have y4:=hX5.cell 4 (x:=.slice A2 fd.length c2) rfl;have r0:=hR5.cell 0 (x:=↑(0:Int)) rfl;have r1:=hR5.cell 1 (x:=↑(0:Int)) rfl;have r2:=hR5.cell 2 (x:=↑(0:Int)) rfl;have r3:=hR5.cell 3 (x:=↑(0:Int)) rfl;have r4:=hR5.cell 4 (x:=.slice none 0 0) rfl;have f0:=hR5.frozen 0;have f1:=hR5.frozen 1;have f2:=hR5.frozen 2;have f3:=hR5.frozen 3;have f4:=hR5.frozen 4;have hvf:=af (((((hv5.iN (w.heap.size+2,0) ↑fk (by simp;omega)).iN (w.heap.size+2,1) ↑f_r (by simp;omega)).iN (w.heap.size+2,2) ↑f_s (by simp;omega)).iN (w.heap.size+2,3) ↑f_m (by simp;omega)).iN (w.heap.size+2,4) (.slice A2 fd.length c2) (by simp;omega));have hbf:=af (((((b6.setCell (p:=(w.heap.size+2,0)) (by simp) ↑fk).setCell (p:=(w.heap.size+2,1)) (by simp) ↑f_r).setCell (p:=(w.heap.size+2,2)) (by simp) ↑f_s).setCell (p:=(w.heap.size+2,3)) (by simp) ↑f_m).setCell (p:=(w.heap.size+2,4)) (by simp) (.slice A2 fd.length c2));have HF:=af (λe w' h=>F0 e w' hh h);clear F0 hh hX5 hO5 hR5 hS5 b6 hv5;go_wp2;refine aK (v:=.tuple #[.agg (aF fk f_r f_s f_m A2 (fd.length) c2),↑true]) ?_ rfl (HF.o _ _ ⟨_,rfl,hvf.o.base (by simp;omega),hbf.o⟩);rw[aV rfl];go_simp
   ·have n0:=n0 (by omega)
    have F1:=λe w' h=>F1 e w' n0 h;have s0:=hS.cell 2 (x:=↑b') rfl;have s1:=hS.cell 3 (x:=.slice Ay y.length cy) rfl;by_cases ha:b'=2
    case neg=>
     have q0:(b' != 2)=true:=by simpa using ha
     have hn:jf own T b' y=false:=by unfold jf;rw[aj ha,dD]
     have b1:=af (b0.alloc b0.size (.cells #[↑b',.slice Ay y.length cy] 267));have H1:=af (aL (hO.alloc (.cells #[↑b',.slice Ay y.length cy] 267)) (aL (hR.alloc (.cells #[↑b',.slice Ay y.length cy] 267)) (hS.alloc (.cells #[↑b',.slice Ay y.length cy] 267))));clear HX HY HT F0 F1 FN hO hR hS b0 ha;go_wp2;go_roundw
     case rel=>exact⟨2,by omega,by go_num,λ_=>n0,λ_=>hn,b1.o,H1.o.1,H1.o.2.1,H1.o.2.2⟩
     case measure=>simp[intOf]
    case pos=>
     have hh:jf own T b' y=(decide (Fr.err y own=0)&&T (Fr.res y own)):=by unfold jf;rw[av ha,cK]
     generalize jf own T b' y=hb at *;subst ha;have b1:=b0.alloc b0.size (.cells #[↑(2:Int),.slice Ay y.length cy] 267);have hO1:=hO.alloc (.cells #[↑(2:Int),.slice Ay y.length cy] 267);have hR1:=hR.alloc (.cells #[↑(2:Int),.slice Ay y.length cy] 267);have hS1:=hS.alloc (.cells #[↑(2:Int),.slice Ay y.length cy] 267);have p0:=hO1.cell 0 (x:=↑own.r) rfl;have p1:=hO1.cell 1 (x:=↑own.s) rfl;have p2:=hO1.cell 2 (x:=↑own.m) rfl;have hZ:=b0.size;have hS4:=hS.lt;clear hO hR hS b0;go_wp2_with fail;refine(HY _ b1).o.mono ?_;rintro _ w2 ⟨v,rfl,hv,b2⟩;have hO2:=hO1.below b2 hO1.lt;have hR2:=hR1.below b2 hR1.lt;have hS2:=hS1.below b2 hS1.lt;have b3:=b1.trans (b2.mono b1.size);clear FN F0 HX HY hO1 hR1 hS1 b1 b2 p0 p1 p2 s0 s1;generalize Fr.err y own=er at *;generalize Fr.res y own=fr at *;obtain⟨fk,⟨f_r,f_s,f_m⟩,fd⟩:=fr;obtain⟨A2,c2,rfl,-⟩:=hv.sees.at_;simp only at hv F1;have hX:=aJ w2 w2 rfl (aF fk f_r f_s f_m A2 (fd.length) c2) 182;have hO3:=hO2.alloc (.cells (aF fk f_r f_s f_m A2 (fd.length) c2) 182);have hR3:=hR2.alloc (.cells (aF fk f_r f_s f_m A2 (fd.length) c2) 182);have hS3:=hS2.alloc (.cells (aF fk f_r f_s f_m A2 (fd.length) c2) 182);have b4:=b3.alloc b3.size (.cells (aF fk f_r f_s f_m A2 (fd.length) c2) 182);have hv3:=hv.alloc (.cells (aF fk f_r f_s f_m A2 (fd.length) c2) 182);clear hO2 hR2 hS2 hv;unfold frV;simp only;by_cases he:er=0
     case neg=>
      have hn:hb=false:=by rw[hh,aj he,dD]
      have q0:(er==0)=false:=by rw[aB];exact he
      have HH:=af (aL b4 (aL hO3 (aL hR3 hS3)));have HN:=af hn;clear HT F1 hh he hn hX hO3 hR3 hS3 b4 b3 hv3;go_wp2;go_roundw
      case rel=>exact⟨2,by omega,by go_num,λ_=>n0,λ_=>HN.o,HH.o.1,HH.o.2.1,HH.o.2.2.1,HH.o.2.2.2⟩
      case measure=>simp[intOf]
     case pos=>
      subst he;rw[av rfl,cK]at hh;have y0:=hX.cell 0 (x:=↑fk) rfl;have y1:=hX.cell 1 (x:=↑f_r) rfl;have y2:=hX.cell 2 (x:=↑f_s) rfl;have y3:=hX.cell 3 (x:=↑f_m) rfl;have y4:=hX.cell 4 (x:=.slice A2 fd.length c2) rfl;have HT:=HT ⟨fk,⟨f_r,f_s,f_m⟩,fd⟩ (.slice A2 fd.length c2) _ b4;generalize T ⟨fk,⟨f_r,f_s,f_m⟩,fd⟩=tf at *;unfold frV at HT F1;simp only at HT F1;go_wp2_with fail;refine HT.o.mono ?_;rintro _ w5 ⟨rfl,b5⟩;have hO5:=hO3.below b5 hO3.lt;have hR5:=hR3.below b5 hR3.lt;have hS5:=hS3.below b5 hS3.lt;have hX5:=hX.below b5 hX.lt;have hv5:=hv3.below b5 (by first|exact aR _|simp);have b6:=b4.trans (b5.mono b4.size);clear hO3 hR3 hS3 hX hv3 b4 b5 HT y0 y1 y2 y3 y4
      cases tf
      ·have HH:=af (aL b6 (aL hO5 (aL hR5 hS5)))
       have HN:=af hh;clear F1 hh hX5 hO5 hR5 hS5 b6 hv5;go_wp2;go_roundw
       case rel=>exact⟨2,by omega,by go_num,λ_=>n0,λ_=>HN.o,HH.o.1,HH.o.2.1,HH.o.2.2.1,HH.o.2.2.2⟩
       case measure=>simp[intOf]
      ·have y0:=hX5.cell 0 (x:=↑fk) rfl
       have y1:=hX5.cell 1 (x:=↑f_r) rfl;have y2:=hX5.cell 2 (x:=↑f_s) rfl;have y3:=hX5.cell 3 (x:=↑f_m) rfl;have y4:=hX5.cell 4 (x:=.slice A2 fd.length c2) rfl;have r0:=hR5.cell 0 (x:=↑(0:Int)) rfl;have r1:=hR5.cell 1 (x:=↑(0:Int)) rfl;have r2:=hR5.cell 2 (x:=↑(0:Int)) rfl;have r3:=hR5.cell 3 (x:=↑(0:Int)) rfl;have r4:=hR5.cell 4 (x:=.slice none 0 0) rfl;have f0:=hR5.frozen 0;have f1:=hR5.frozen 1;have f2:=hR5.frozen 2;have f3:=hR5.frozen 3;have f4:=hR5.frozen 4;have hvf:=af (((((hv5.iN (w.heap.size+2,0) ↑fk (by simp;omega)).iN (w.heap.size+2,1) ↑f_r (by simp;omega)).iN (w.heap.size+2,2) ↑f_s (by simp;omega)).iN (w.heap.size+2,3) ↑f_m (by simp;omega)).iN (w.heap.size+2,4) (.slice A2 fd.length c2) (by simp;omega));have hbf:=af (((((b6.setCell (p:=(w.heap.size+2,0)) (by simp) ↑fk).setCell (p:=(w.heap.size+2,1)) (by simp) ↑f_r).setCell (p:=(w.heap.size+2,2)) (by simp) ↑f_s).setCell (p:=(w.heap.size+2,3)) (by simp) ↑f_m).setCell (p:=(w.heap.size+2,4)) (by simp) (.slice A2 fd.length c2));have HF:=af (λe w' h=>F1 e w' hh h);clear F1 hh hX5 hO5 hR5 hS5 b6 hv5;go_wp2;refine aK (v:=.tuple #[.agg (aF fk f_r f_s f_m A2 (fd.length) c2),↑true]) ?_ rfl (HF.o _ _ ⟨_,rfl,hvf.o.base (by simp;omega),hbf.o⟩);rw[aV rfl];go_simp
   ·have n0:=n0 (by omega)
    have n1:=n1 (by omega);have FN:=λe w'=>FN e w' n0 n1;clear HX HY HT F0 F1 hO hS;have r0:=hR.cell 0 (x:=↑(0:Int)) rfl;have r1:=hR.cell 1 (x:=↑(0:Int)) rfl;have r2:=hR.cell 2 (x:=↑(0:Int)) rfl;have r3:=hR.cell 3 (x:=↑(0:Int)) rfl;have r4:=hR.cell 4 (x:=.slice none 0 0) rfl;have f0:=hR.frozen 0;have f1:=hR.frozen 1;have f2:=hR.frozen 2;have f3:=hR.frozen 3;have f4:=hR.frozen 4;go_wp2;refine aK (v:=.tuple #[.agg zF,↑false]) ?_ rfl (FN _ _ ⟨rfl,?_⟩)
    ·rw[aV rfl]
     go_simp
    ·(repeat' (first|exact b0|(with_reducible refine aU ?_ ?_ _)|omega|(simp;omega)))
theorem CX(b:Bool)(G:Nat->Prop)(g:Nat)(m:NM)(h:Hn)(vx vy:Value)(own:St)(w:World)(hx:iI w w vx h.x)(bx:iK h.x)(hy:iI w w vy h.y)(by_:iK h.y)(hm:NA b G w g m):
  Calls Tryz.prog 158 #[hdV h vx vy,stV own,.func (.func 159) #[↑(g,0)] #[]] w (Fst w own (λf=>decide (m.lP f)) h):=
 CW _ _ h vx vy own w hx bx hy by_ (.inl ⟨g,rfl,λf v W hW=>af (LW b G g m f v W (hm.below hW))⟩)
theorem CY(p:Nat)(h:Hn)(vx vy:Value)(own:St)(w:World)(hx:iI w w vx h.x)(bx:iK h.x)(hy:iI w w vy h.y)(by_:iK h.y)(hm:Blk w p #[↑own.r,↑own.s,↑own.m] 96):
  Calls Tryz.prog 158 #[hdV h vx vy,stV own,.func (.func 164) #[] #[↑(p,0)]] w (Fst w own (λf:F=>decide (f.k≠3/\f.st=own)) h):=
 CW _ _ h vx vy own w hx bx hy by_ (.inr ⟨p,rfl,λf v W hW=>af (LX f v p own W (hm.below hW hm.lt))⟩)
end
section
set_option maxRecDepth 100000
set_option maxHeartbeats 4000000
open Go.RowKit
open Fr (St F)
theorem okL.bytes{l:List Int}(h:Fr.okL l):iK l:=λx hx=>h x hx
theorem qV(l:List Int)(own:St)(h:iK l):iK (Fr.res l own).d:=by
 unfold Fr.res
 split
 ·exactλx hx=>h x (fP (bM hx))
 ·exactλx hx=>by simp[Fr.zero]at hx
theorem tJ{h:Hn}{l:List Int}(hl:l∈NM.rows h):l=h.x\/l=h.y:=by
 unfold NM.rows at hl;rcases bG.1 hl with hl|hl
 ·split at hl
  ·exact .inl (bD.1 hl)
  ·cases hl
 ·split at hl
  ·exact .inr (bD.1 hl)
  ·cases hl
theorem tK(m:NM)(h:Hn):((NM.rows h).find? λl=>decide (Fr.err l NM.z3=0)&&decide (m.lP (Fr.res l NM.z3)))=m.kY h:=by
 unfold NM.kY
 congr 1
 funext l
 rw[bY];simp only[bg,bC];exact fS
structure HOk(w:World)(h:Hn)(vx vy:Value):Prop where
 x:iI w w vx h.x
 bx:iK h.x
 y:iI w w vy h.y
 by_:iK h.y
 o:-1099511627776<=h.o/\h.o<=1099511627776
theorem Md(b:Bool)(G:Nat->Prop)(g:Nat)(m:NM)(h:Hn)(vx vy:Value)(w:World)(hm:NA b G w g m)(hh:HOk w h vx vy)(hn:m.kY h=none):
  Calls Tryz.prog 107 #[↑(g,0),hdV h vx vy] w λe w'=>e=.returned (.tuple #[])/\NA b G w' g (if h.a≠0\/h.b≠0 then {m with wt:=0}else m)/\Only g w w':=by
 have hmf:∀(fn:Fn)(first cap:Array Value)(w:World),(Instr.makeFunc fn first cap).run Tryz.prog w=.ok (.func fn first cap) w:=λ_ _ _ _=>rfl;obtain⟨Ax,cx,ex,-⟩:=hh.x.at_;obtain⟨Ay,cy,ey,-⟩:=hh.y.at_;subst ex;subst ey;have hb0:=(ah w w).alloc lr (.cells (aH h (.slice Ax h.x.length cx) (.slice Ay h.y.length cy)) 153);have hF:=af (CX b G g m h _ _ NM.z3 _ ((hh.x.below hb0).more hb0.size) hh.bx ((hh.y.below hb0).more hb0.size) hh.by_ (hm.below hb0));have hS:=λW=>af (CR h (.slice Ax h.x.length cx) (.slice Ay h.y.length cy) W);have hX:=aJ w w rfl (aH h (.slice Ax h.x.length cx) (.slice Ay h.y.length cy)) 153;unfold Fst at hF;rw[tK,hn]at hF;simp only at hF;rw[show frV Fr.zero (.slice none 0 0)=.agg zF from rfl]at hF;unfold hdV stV NM.z3 at hF;unfold hdV at hS ⊢;have hk:Hid (NA b G w g m):=af hm;clear hn hm hh;by_cases hq:h.a=0/\h.b=0
 ·rw[av hq]at hS
  rw[ai (by omega)];clear hq
  go_enter Tryz.func107,Tryz.ntmps107
  go_wp2_with fail;refine hF.o.mono ?_;rintro _ w2 ⟨rfl,b2⟩;have hX3:=(hX.below b2 (by simp)).alloc (.cells zF 182);have b3:=(hb0.trans (b2.mono hb0.size)).alloc (aW hb0.size b2.size) (.cells zF 182);have x0:=hX3.cell 0 (x:=↑h.a) rfl;have x1:=hX3.cell 1 (x:=↑h.b) rfl;have x2:=hX3.cell 2 (x:=.slice Ax h.x.length cx) rfl;have x3:=hX3.cell 3 (x:=.slice Ay h.y.length cy) rfl;have x4:=hX3.cell 4 (x:=↑h.o) rfl;clear hX hX3 hb0 b2;go_wp2_with fail;refine(hS _).o.mono ?_;rintro _ w4 ⟨rfl,b4⟩;have b4:=b3.trans (b4.mono b3.size);go_wp2;exact aD (ax (by rfl) _ _ _) rfl ⟨rfl,hk.o.below b4,iQ g b4⟩
 ·rw[aj hq]at hS
  rw[au (by omega)];clear hq
  go_enter Tryz.func107,Tryz.ntmps107
  go_wp2_with fail;refine hF.o.mono ?_;rintro _ w2 ⟨rfl,b2⟩;have hX3:=(hX.below b2 (by simp)).alloc (.cells zF 182);have b3:=(hb0.trans (b2.mono hb0.size)).alloc (aW hb0.size b2.size) (.cells zF 182);have x0:=hX3.cell 0 (x:=↑h.a) rfl;have x1:=hX3.cell 1 (x:=↑h.b) rfl;have x2:=hX3.cell 2 (x:=.slice Ax h.x.length cx) rfl;have x3:=hX3.cell 3 (x:=.slice Ay h.y.length cy) rfl;have x4:=hX3.cell 4 (x:=↑h.o) rfl;clear hX hX3 hb0 b2;go_wp2_with fail;refine(hS _).o.mono ?_;rintro _ w4 ⟨rfl,b4⟩;have b4:=b3.trans (b4.mono b3.size);have h4:=hk.o.below b4;have e13:=h4.c13;have f13:=h4.frozen 13;have h5:=af (h4.sWt 0);have o5:=af ((iQ g b4).set 13 ↑(0:Int));clear h4 b4 hk;go_wp2;exact aD (ax (by rfl) _ _ _) rfl ⟨rfl,h5.o,o5.o⟩
theorem Me(b:Bool)(G:Nat->Prop)(g:Nat)(m:NM)(h:Hn)(vx vy:Value)(l:List Int)(w:World)(hm:NA b G w g m)(hG:∀x,w.heap.size<=x->G x)(hh:HOk w h vx vy)(hn:m.kY h=some l)(hg:NG (m.knows (Fr.res l NM.z3) h.o))(ht:-4611686018427387904<=m.tm/\m.tm<=4611686018427387904)(hs:0<=(Fr.res l NM.z3).st.s):
  Calls Tryz.prog 107 #[↑(g,0),hdV h vx vy] w λe w'=>e=.returned (.tuple #[])/\NA false G w' g (m.knows (Fr.res l NM.z3) h.o).goOn/\Only g w w':=by
 have hmf:∀(fn:Fn)(first cap:Array Value)(w:World),(Instr.makeFunc fn first cap).run Tryz.prog w=.ok (.func fn first cap) w:=λ_ _ _ _=>rfl;have hl:iK (Fr.res l NM.z3).d:=by
  refine qV _ _ ?_;rcases tJ (fI hn)with e|e
  ·rw[e];exact hh.bx
  ·rw[e];exact hh.by_
 obtain⟨Ax,cx,ex,-⟩:=hh.x.at_;obtain⟨Ay,cy,ey,-⟩:=hh.y.at_;subst ex;subst ey;have hb0:=(ah w w).alloc lr (.cells (aH h (.slice Ax h.x.length cx) (.slice Ay h.y.length cy)) 153);have hF:=af (CX b G g m h _ _ NM.z3 _ ((hh.x.below hb0).more hb0.size) hh.bx ((hh.y.below hb0).more hb0.size) hh.by_ (hm.below hb0));have hX:=aJ w w rfl (aH h (.slice Ax h.x.length cx) (.slice Ay h.y.length cy)) 153;unfold Fst at hF;rw[tK,hn]at hF;simp only at hF;unfold hdV at hF ⊢;have ho:=hh.o;have hgl:=hm.lt;have HJ:=λv W(hW:Below w w W)(hv:iJ W (w.heap.size+1) v (Fr.res l NM.z3).d)=>af (Mc b G g m (Fr.res l NM.z3) h.o v W W (hm.below hW) (λx hx=>hG x (aW hW.size hx)) hv.sees lr hl hs ht ho (λ_ e=>by have:=(hv.lt g e).1;omega));have HGo:=λW(hW:NA false G W g (m.knows (Fr.res l NM.z3) h.o))=>af (qU false G g _ W hW hg);generalize(m.knows (Fr.res l NM.z3) h.o)=m2 at *;generalize(Fr.res l NM.z3)=fr at *;obtain⟨fk,⟨f_r,f_s,f_m⟩,fd⟩:=fr;unfold stV NM.z3 at hF;unfold frV at hF HJ;simp only at hF HJ;clear hn hm hh hg ht hs hl ho
 go_enter Tryz.func107,Tryz.ntmps107
 go_wp2_with fail;refine hF.o.mono ?_;rintro _ w2 ⟨v,rfl,hv,b2⟩;obtain⟨A2,c2,rfl,-⟩:=hv.sees.at_;have hX3:=(hX.below b2 (by simp)).alloc (.cells (aF fk f_r f_s f_m A2 (fd.length) c2) 182);have hY3:=aJ w2 w2 rfl (aF fk f_r f_s f_m A2 (fd.length) c2) 182;have b3:=(hb0.trans (b2.mono hb0.size)).alloc (aW hb0.size b2.size) (.cells (aF fk f_r f_s f_m A2 (fd.length) c2) 182);have hv3:=(hv.alloc (.cells (aF fk f_r f_s f_m A2 (fd.length) c2) 182)).base (B:=w.heap.size+1) (by simp);have x0:=hX3.cell 0 (x:=↑h.a) rfl;have x1:=hX3.cell 1 (x:=↑h.b) rfl;have x2:=hX3.cell 2 (x:=.slice Ax h.x.length cx) rfl;have x3:=hX3.cell 3 (x:=.slice Ay h.y.length cy) rfl;have x4:=hX3.cell 4 (x:=↑h.o) rfl;have y0:=hY3.cell 0 (x:=↑fk) rfl;have y1:=hY3.cell 1 (x:=↑f_r) rfl;have y2:=hY3.cell 2 (x:=↑f_s) rfl;have y3:=hY3.cell 3 (x:=↑f_m) rfl;have y4:=hY3.cell 4 (x:=.slice A2 fd.length c2) rfl;have HJ3:=HJ _ _ b3 hv3;clear hX hX3 hY3 hb0 b2 hF HJ hv hv3;go_wp2_with fail;refine HJ3.o.mono ?_;rintro _ w4 ⟨rfl,h4,o4⟩;have o4:=(iQ g b3).trans o4;have HG4:=HGo _ h4;clear HGo HJ3 h4;go_wp2_with fail;refine HG4.o.mono ?_;rintro _ w5 ⟨rfl,h5,o5⟩;go_wp2;exact aD (ax (by rfl) _ _ _) rfl ⟨rfl,h5,o4.trans o5⟩
end
section
set_option maxRecDepth 100000
set_option maxHeartbeats 4000000
open Go.RowKit
open Clk (avg)
open Fr (St F)
theorem PK(c:Cx 1)(g:Nat)(s:G)(v:Value)(l:List Int)(at_:Int)(w:World)(h:jj c w g s)(hn:s.n<=8)(hm:0<=s.lm/\s.lm<=9223372036854775807)(hv:iI w w v l)(hl:iK l)
  (_hat:time at_) (jz:time (at_+jb s.lm [])):
  Calls Tryz.prog 198 #[↑(g,1),v,↑at_] w λe w'=>e=.returned (.tuple #[])/\jj c w' g (s.mX l at_)/\Only g w w':=by
 have hD:=af (sS v l z0 w hv hl);have hts:=af (vS hl);unfold Dec stV z0 at hD;unfold G.mX tells;simp only at hD;have ez:(⟨0,0,0⟩:St)=z0:=rfl;rw[ez]at hD;generalize Fr.err l z0=er at *;generalize Fr.res l z0=R at *;obtain⟨k,⟨r,sl,m⟩,d⟩:=R;unfold frV at hD;simp only at hD hts ⊢;clear ez
 go_enter Tryz.func198,Tryz.ntmps198
 go_wp2_with fail;refine hD.o.mono ?_;rintro e w1 ⟨v1,rfl,ho,hb⟩;obtain⟨A1,n1,rfl,-⟩:=ho.sees.at_;have hB1:=(hb.alloc hb.size (.cells (aF k r sl m A1 (d.length) n1) 182));have H1:=h.below hB1 h.lt;have hO1:=iQ g hB1;have hX:=aJ w1 _ rfl (aF k r sl m A1 (d.length) n1) 182;have hgw:g<w1.heap.size:=aN h.lt hb.size;go_wp2_with fail;generalize hW1:w1.alloc (.cells (aF k r sl m A1 (d.length) n1) 182)=W1 at *;have x0:=hX.cell 0 (x:=↑k) rfl;have x2:=hX.cell 2 (x:=↑sl) rfl;have c8:=PBa (H1.1.cell 8 (x:=↑(s.n:Nat)) rfl) (show 1+8=9 from rfl);generalize w1.heap.size=b at *;clear ho hB1 hW1 hb hX hD hv;have HH:Hid (∀n,jj c (W1.drewN n) g s):=af λn=>⟨H1.1.drewN n,H1.2⟩;have HO:Hid (∀n,Only g w (W1.drewN n)):=af λn=>hO1.trans (iQ g (aC (ah _ W1) n));clear H1 hO1 h;by_cases p1:er=0
 ·subst p1
  obtain⟨s0,s8⟩:=hts.o rfl;by_cases p2:k=1
  ·subst p2
   go_quiet (fail)
   go_wp2;exact aK (ax (by rfl) _ _ _) rfl ⟨rfl,HH.o _,HO.o _⟩
  ·have q2:(k==1)=false:=by rw[aB];exact p2
   by_cases p3:sl<(s.n:Int)
   ·have q3:decide ((s.n:Int)<=sl)=false:=aj (by omega)
    have HX:Hid (∀n,(W1.drewN n).cell? (b,2)=some ↑sl):=af λn=>((aC (ah (b+1) W1) n).cell (p:=(b,2)) (cJ _)).trans x2
    go_quiet (fail)
    have H2:=HH.o nq;have hO2:=HO.o nq;have y2:=HX.o nq;clear HX HH HO x0 x2 c8;generalize W1.drewN nq=W2 at *;clear q3;have c16:=PBa (H2.1.cell 16 (x:=↑s.now) rfl) (show 1+16=17 from rfl);have c17:=PBa (H2.1.cell 17 (x:=↑s.kn) rfl) (show 1+17=18 from rfl);have c18:=PBa (H2.1.cell 18 (x:=↑(s.slot:Nat)) rfl) (show 1+18=19 from rfl);have c19:=PBa (H2.1.cell 19 (x:=↑(s.si:Nat)) rfl) (show 1+19=20 from rfl);have f16:=H2.1.frozen 17;have f17:=H2.1.frozen 18;have f18:=H2.1.frozen 19;have f19:=H2.1.frozen 20;have H2:=af H2;have hO2:=af hO2;have es:sl=(sl.toNat:Int):=by omega
    have H3:Hid (jj c ((((W2.setCell (g,18) ↑true).setCell (g,19) ↑sl).setCell (g,17) ↑at_).setCell (g,20) ↑(0:Int)).drew g {s with kn:=true,slot:=sl.toNat,now:=at_,si:=0}):=af
     ⟨(((((H2.o.1.set 17 (by simp[grd]) ↑true).set 18 (by simp[grd]) ↑sl).set 16 (by simp[grd]) ↑at_).set 19 (by simp[grd]) ↑((0:Nat):Int)).drew).eq (by rw[tq,dn (Value.int .i64) es,nL,tj,pR]),H2.o.2⟩
    have hO3:=af (((((hO2.o.set 18 ↑true).set 19 ↑sl).set 17 ↑at_).set 20 ↑(0:Int)).drew);have HE:=af es;clear es;go_wp2_with fail
    go_region
    generalize((((W2.setCell (g,18) ↑true).setCell (g,19) ↑sl).setCell (g,17) ↑at_).setCell (g,20) ↑(0:Int)).drew=W3 at *;go_wp2_with fail;refine(EM c g _ _ H3.o).mono ?_;rintro e w4 ⟨rfl,H4,hO4⟩;go_wp2_with fail;refine(uG c g _ _ H4 (by show sl.toNat<s.n;omega) hn (by simp[small]) hm (λ_=>jz)).mono ?_;rintro e w5 ⟨rfl,H5,hO5⟩;go_wp2;exact aD (ax (by rfl) _ _ _) rfl ⟨rfl,by simpa[p2,p3]using H5,(hO3.o.trans hO4).trans hO5⟩
   ·have q3:decide ((s.n:Int)<=sl)=true:=av (by omega)
    go_quiet (fail)
    go_wp2;exact aK (ax (by rfl) _ _ _) rfl ⟨rfl,by simpa[p2,p3]using HH.o _,HO.o _⟩
 ·have q1:(er != 0)=true:=by rw[bV];exact p1
  go_quiet (fail)
  all_goals
   go_wp2
   all_goals exact aK (ax (by rfl) _ _ _) rfl ⟨rfl,by simpa[p1]using HH.o _,HO.o _⟩
theorem PL(c:Cx 1)(g:Nat)(s:G)(v:Value)(l:List Int)(at_:Int)(w:World)(h:jj c w g s)(ok:s.Ok at_)(hv:iI w w v l)(hl:iK l):
  Calls Tryz.prog 156 #[↑(g,1),v,↑at_] w λe w'=>e=.returned (.tuple #[])/\jj c w' g (s.ended l at_)/\Only g w w':=by
 obtain⟨o1,o2,o3,o4,o5,o6,o7⟩:=ok;have o4':0<=s.lm/\s.lm<=9223372036854775807:=⟨o4.1,by omega⟩;have tb:=λl=>sX s.lm l o4.1;have H1:=af (PK c g s v l at_ w h o1 o4' hv hl (by unfold time;omega) (by have:=tb [];unfold time;omega));have H2:=af (Px c g s at_ w h o2 o1 o3 o4' (by unfold time;omega) (by unfold time;omega) (λ_=>o6) (λ_=>by have:=tb (if s.sy s.slot then iT s.l (at_-s.now)else s.l);unfold time;omega));have H3:=af (Py c g s w h o2 o1 o3 o4' o7 (λ_=>by have:=tb s.l;unfold time;omega));have c17:=PBa (h.1.cell 17 (x:=↑s.kn) rfl) (show 1+17=18 from rfl);obtain⟨A,c,rfl,-⟩:=hv.at_;unfold G.ended;clear h hv tb
 cases hk:s.kn
 ·rw[hk]at c17
  go_enter Tryz.func156,Tryz.ntmps156
  go_wp2_with fail;refine H1.o.mono ?_;rintro e w4 ⟨rfl,H4,hO4⟩;go_wp2;exact aD (ax (by rfl) _ _ _) rfl ⟨rfl,H4,hO4⟩
 ·rw[hk]at c17
  by_cases h0:0<l.length
  ·have q1:decide ((0:Int)<(l.length:Nat))=true:=av (by omega)
   go_enter Tryz.func156,Tryz.ntmps156
   go_wp2_with fail;refine H2.o.mono ?_;rintro e w4 ⟨rfl,H4,hO4⟩;go_wp2;exact aD (ax (by rfl) _ _ _) rfl ⟨rfl,by simpa[h0]using H4,hO4⟩
  ·have q1:decide ((0:Int)<(l.length:Nat))=false:=aj (by omega)
   go_enter Tryz.func156,Tryz.ntmps156
   go_wp2_with fail;refine H3.o.mono ?_;rintro e w4 ⟨rfl,H4,hO4⟩;go_wp2;exact aD (ax (by rfl) _ _ _) rfl ⟨rfl,by simpa[h0]using H4,hO4⟩
theorem PN(c:Cx 1)(g:Nat)(s:G)(f:Nat->Bool)(a:Nat->Int)(w:World)(h:jj c w g s)(hn:s.n<=8)(hs:s.slot<8)(jz:time s.now)(hat:time (a s.slot))(hwi:0<=s.wi/\s.wi<=2305843009213693952):
  Calls Tryz.prog 151 #[↑(g,1),kZ f,jK a] w λe w'=>e=.returned ↑(s.pass f a)/\Below w w w':=by
 have hB:=((ah w w).alloc lr (.cells #[↑(f 0),↑(f 1),↑(f 2),↑(f 3),↑(f 4),↑(f 5),↑(f 6),↑(f 7)] 110)).alloc (by simp) (.cells (aI a) 22);have hX:=(aJ w _ rfl #[↑(f 0),↑(f 1),↑(f 2),↑(f 3),↑(f 4),↑(f 5),↑(f 6),↑(f 7)] 110).alloc (.cells (aI a) 22);have hY:=aJ (w.alloc (.cells #[↑(f 0),↑(f 1),↑(f 2),↑(f 3),↑(f 4),↑(f 5),↑(f 6),↑(f 7)] 110)) (w.heap.size+1) (by simp) (aI a) 22;have hG:=h.below hB h.lt;unfold kZ jK
 go_enter Tryz.func151,Tryz.ntmps151
 generalize hw0:(w.alloc (.cells #[↑(f 0),↑(f 1),↑(f 2),↑(f 3),↑(f 4),↑(f 5),↑(f 6),↑(f 7)] 110)).alloc (.cells (aI a) 22)=w0 at *;have c17:=PBa (hG.1.cell 17 (x:=↑s.kn) rfl) (show 1+17=18 from rfl);unfold G.pass
 cases hk:s.kn
 ·rw[hk]at c17
  have c8:=PBa (hG.1.cell 8 (x:=↑(s.n:Nat)) rfl) (show 1+8=9 from rfl);have hI:=af (tB w s.n 8 f w0 (λk hk=>hX.cell k (lZ f k (by omega))) hn);simp only[bA,dB];generalize fst f s.n=r at *;have i1:(0:Int)<=(s.n:Int):=by omega
  have i2:(s.n:Int)<=8:=by omega
  clear hX hY h hG;go_wp2_with fail;refine hI.o.mono ?_;rintro e w2 ⟨rfl,rfl⟩;go_wp2;go_ret;exact⟨rfl,hB⟩
 ·rw[hk]at c17
  have cx:=hX.cell s.slot (lZ f s.slot hs);have cy:=hY.cell s.slot (l7 a s.slot hs);have c9:=PBa (hG.1.cell 9 (x:=↑s.wi) rfl) (show 1+9=10 from rfl);have c16:=PBa (hG.1.cell 16 (x:=↑s.now) rfl) (show 1+16=17 from rfl);have c18:=PBa (hG.1.cell 18 (x:=↑(s.slot:Nat)) rfl) (show 1+18=19 from rfl);have i1:(0:Int)<=(s.slot:Int):=by omega
  have i2:(s.slot:Int)<8:=by omega
  have hN:=λW=>af ((BM (a s.slot) s.now s.wi W hat jz hwi).mono λe w'(h:e=.returned ↑(lM (a s.slot) s.now s.wi)/\W=w')=>(⟨h.1,h.2.symm⟩:e=.returned ↑(lM (a s.slot) s.now s.wi)/\w'=W));have HB:Hid (∀n,Below w w (w0.drewN n)):=af λn=>aC hB n;have H18:Hid (∀n,(w0.drewN n).cell? (g,19)=some ↑(s.slot:Nat)):=af λn=>(hG.1.drewN n).cell 18 rfl;generalize f s.slot=q at *;generalize a s.slot=x at *;generalize lM x s.now s.wi=q2 at *;clear hX hY h hG
  cases q
  ·clear hN
   simp only[dD,bA,dB,dG];go_wp2_with fail
   go_quiet (fail)
   all_goals
    go_wp2
    all_goals
     go_ret;exact⟨rfl,HB.o _⟩
  ·cases q2
   all_goals
    simp only[cK,bA,dB,dG];go_wp2_with fail
    go_quiet (first|(go_at_call 195;refine bI (hN _).o))
    have xQ:=H18.o nq;have hB':=HB.o nq;generalize w0.drewN nq=w3 at *;go_wp2;go_ret;exact⟨rfl,hB'⟩
end
end Go.Proofs.YteadkhigkmijiaaGreat
