/- Texts RaG in one. -/
import Derived.Deep.RegionHeld3
import Derived.Test.YteadkhigkmijiaaGreatPD1
import Derived.Test.YteadkhigkmijiaaGreatPD8
import Derived.Test.YteadkhigkmijiaaGreatPD13
import Derived.Test.YteadkhigkmijiaaGreatPD43
set_option linter.all false
namespace Go.Proofs.YteadkhigkmijiaaGreat
section
set_option maxRecDepth 100000
set_option maxHeartbeats 8000000
open Go.RowKit
open Fr (St F)
theorem DY{er fk f_r f_s f_m rd sl om:Int}{hb:Bool}(hh:hb=(decide (er=0)&&decide (fk≠3/\f_r=rd/\f_s=sl/\f_m=om))):
  (er≠0/\hb=false)\/(er=0/\fk=3/\hb=false)\/(er=0/\fk≠3/\f_r≠rd/\hb=false)\/(er=0/\fk≠3/\f_r=rd/\f_s≠sl/\hb=false)\/(er=0/\fk≠3/\f_r=rd/\f_s=sl/\f_m≠om/\hb=false)\/(er=0/\fk≠3/\f_r=rd/\f_s=sl/\f_m=om/\hb=true):=by
 by_cases e1:er=0
 case neg=>exact .inl ⟨e1,by rw[hh,aj e1,dD]⟩
 by_cases e2:fk=3
 case pos=>exact .inr (.inl ⟨e1,e2,by simp[hh,e2]⟩)
 by_cases e3:f_r=rd
 case neg=>exact .inr (.inr (.inl ⟨e1,e2,e3,by simp[hh,e3]⟩))
 by_cases e4:f_s=sl
 case neg=>exact .inr (.inr (.inr (.inl ⟨e1,e2,e3,e4,by simp[hh,e4]⟩)))
 by_cases e5:f_m=om
 case neg=>exact .inr (.inr (.inr (.inr (.inl ⟨e1,e2,e3,e4,e5,by simp[hh,e5]⟩))))
 exact .inr (.inr (.inr (.inr (.inr ⟨e1,e2,e3,e4,e5,by rw[hh,av e1,av (⟨e2,e3,e4,e5⟩:fk≠3/\f_r=rd/\f_s=sl/\f_m=om),Bool.and_true]⟩))))
theorem NR(b:Bool)(G:GS)(g:Nat)(m:NM)(xx:RX)(vx vy:Value)(x y:List Int)(w:World)(hx:iI w w vx x)(bx:iK x)(hy:iI w w vy y)(by_:iK y)(hm:RA b G w g m xx)(hsl:m.sl<8):
  Calls Tryz.prog 126 #[↑(g,0),vx,vy] w (Fst w m.own (λf:F=>decide (f.k≠3/\f.st=m.own)) (kR x y)):=by
 have HV:=λW(hW:Below w w W)=>af (show Calls Tryz.prog 43 #[↑(g,0)] W λe w'=>e=.returned (.agg #[↑m.rd,↑(m.sl:Nat),↑(m.ty.m:Nat)])/\Below W W w' from ug b G g m xx W (hm.below hW));have HX:=λW(hW:Below w w W)=>af (qI vx x m.own W ((hx.below hW).more hW.size) bx);have HY:=λW(hW:Below w w W)=>af (qI vy y m.own W ((hy.below hW).more hW.size) by_);have F0:=λe w'=>@wJ w w' m.own (λf:F=>decide (f.k≠3/\f.st=m.own)) (kR x y) e;have F1:=λe w'=>@wK w w' m.own (λf:F=>decide (f.k≠3/\f.st=m.own)) (kR x y) e;have FN:=λe w'=>@wL w w' m.own (λf:F=>decide (f.k≠3/\f.st=m.own)) (kR x y) e;have hT:∀f:F,(λf:F=>decide (f.k≠3/\f.st=m.own)) f=decide (f.k≠3/\f.st.r=m.rd/\f.st.s=(m.sl:Nat)/\f.st.m=(ins m.ty.m m.sl:Nat)):=λf=>by
  have e:f.st=m.own↔(f.st.r=m.rd/\f.st.s=(m.sl:Nat)/\f.st.m=(ins m.ty.m m.sl:Nat)):=by
   obtain⟨k,⟨r,s,mm⟩,d⟩:=f;show(⟨r,s,mm⟩:St)=⟨m.rd,(m.sl:Nat),(ins m.ty.m m.sl:Nat)⟩↔_;simp
  show decide (f.k≠3/\f.st=m.own)=_;rw[bY,gB,gB,e]
 have hown:m.own=⟨m.rd,(m.sl:Nat),(ins m.ty.m m.sl:Nat)⟩:=rfl;have c8:=hm.c8;have hgl:=hm.lt;have HG:=λW(hW:Below w w W)=>af ((hW.cell (p:=(g,8)) hgl).trans c8);have hU:IntKind.u64.wrap ((m.sl:Nat):Int)=((m.sl:Nat):Int):=by rw[IntKind.wrap_u64];omega
 have hor:bits BinOp.or IntKind.i64 (m.ty.m:Nat) (wrap64 ((2:Int)^m.sl))=(ins m.ty.m m.sl:Nat):=by
  rw[uh hsl,<-nQ];exact xA hm.ty.2 hsl
 unfold Dec at HX HY;generalize hTT:(λf:F=>decide (f.k≠3/\f.st=m.own))=T at *;clear hTT;rw[hown]at HX HY F0 F1 FN ⊢;clear hown hm c8;generalize m.rd=rd at *;generalize ins m.ty.m m.sl=om at *;generalize m.ty.m=mm at *;generalize m.sl=sl at *;generalize hD:Fst w ⟨rd,(sl:Nat),(om:Nat)⟩ T (kR x y)=D at *;clear hD;obtain⟨Ax,cx,rfl,-⟩:=hx.at_;obtain⟨Ay,cy,rfl,-⟩:=hy.at_;unfold stV at HX HY;unfold kR at F0 F1 FN;simp only at HX HY F0 F1 FN ⊢;clear hx hy bx by_;have b0:=(ah w w).alloc lr (.cells zF 182);have hR0:=aJ w w rfl zF 182
 go_enter Tryz.func126,Tryz.ntmps126
 go_wp2_with fail;refine(HV _ b0).o.mono ?_;rintro _ w2 ⟨rfl,b2⟩;have hR2:=hR0.below b2 hR0.lt;have b2:=b0.trans (b2.mono b0.size);have hR3:=hR2.alloc (.cells #[↑rd,↑(sl:Nat),↑(om:Nat)] 96);have b3:=b2.alloc b2.size (.cells #[↑rd,↑(sl:Nat),↑(om:Nat)] 96);have hO3:=aJ w2 w2 rfl #[↑rd,↑(sl:Nat),↑(om:Nat)] 96;have g8:=(HG _ (b2.alloc b2.size (.cells #[↑rd,↑(sl:Nat),↑(mm:Nat)] 96))).o;have hz2:w.heap.size<w2.heap.size:=hR2.lt;clear HV b0 hR0 hR2;go_wp2_with fail
 go_region
 all_goals
  have hR3:=hR3.drew;have b3:=b3.drew;have hO3:=hO3.drew;have hsb:w2.heap.size<(w2.alloc (.cells #[↑rd,↑(sl:Nat),↑(om:Nat)] 96)).drew.heap.size:=by simp
  clear g8 hor hU;generalize(w2.alloc (.cells #[↑rd,↑(sl:Nat),↑(om:Nat)] 96)).drew=w3 at *;generalize w2.heap.size=sb at *;go_wp2_with fail
  go_loopw [10] (λi wr=>∃k:Nat,k<=2/\i=↑k/\(0<k->jf ⟨rd,(sl:Nat),(om:Nat)⟩ T 2 x=false)/\(1<k->jf ⟨rd,(sl:Nat),(om:Nat)⟩ T 2 y=false)/\Below w w wr/\Blk wr w zF 182/\Blk wr sb #[↑rd,↑(sl:Nat),↑(om:Nat)] 96/\Blk wr w3 #[.slice Ax x.length cx,.slice Ay y.length cy] 41) (λi _=>2-(intOf i).toNat)
  case atStart=>exact⟨0,by omega,rfl,λh=>absurd h (by omega),λh=>absurd h (by omega),b3.alloc b3.size _,hR3.alloc _,hO3.alloc _,aJ _ _ rfl _ _⟩
  case round=>
   clear hR3 hO3 b3 b2;obtain⟨k,hk,rfl,n0,n1,b0,hR,hO,hS⟩:=hrel;rcases(by omega:k=0\/k=1\/k=2)with rfl|rfl|rfl
   ·skip
    have hh:jf ⟨rd,(sl:Nat),(om:Nat)⟩ T 2 x=(decide (Fr.err x ⟨rd,(sl:Nat),(om:Nat)⟩=0)&&T (Fr.res x ⟨rd,(sl:Nat),(om:Nat)⟩)):=by unfold jf;rw[av rfl,cK]
    generalize jf ⟨rd,(sl:Nat),(om:Nat)⟩ T 2 x=hb at *;have HS:∀W,Below wr wr W->(W.cell? (w3,0)=some (.slice Ax x.length cx)/\W.cell? (sb,0)=some ↑rd/\W.cell? (sb,1)=some ↑(sl:Nat)/\W.cell? (sb,2)=some ↑(om:Nat)):=λW hW=>by
     have hS':=hS.below hW hS.lt;have hO':=hO.below hW hO.lt;exact⟨hS'.cell 0 rfl,hO'.cell 0 rfl,hO'.cell 1 rfl,hO'.cell 2 rfl⟩
    have br:=(ah wr wr).drew;have S0:=af (HS _ br);have HH:=af HS;have hlr:=hR.lt;clear HS;go_wp2_with fail;refine cW (S:=λW=>W.cell? (w3,0)=some (.slice Ax x.length cx)/\W.cell? (sb,0)=some ↑rd/\W.cell? (sb,1)=some ↑(sl:Nat)/\W.cell? (sb,2)=some ↑(om:Nat)) (by kernel_rfl) S0.o (λhHeld=>?_);refine wT 0 33 ?_;refine wT 1 34 ?_;refine wT 2 35 ?_;refine wT 3 36 ?_;refine wT 4 37 ?_;refine aM (rs:=[5,9]) (by kernel_rfl) (by simp) ?_;refine(aA rfl (λK hK=>?_) (aA rfl (λK hK=>?_) aG));go_simp;refine(HX _ (b0.trans (br.mono b0.size))).o.mono ?_;rintro _ w11 ⟨v,rfl,hv,d11⟩;clear FN F1;generalize Fr.err x ⟨rd,(sl:Nat),(om:Nat)⟩=er at *;generalize Fr.res x ⟨rd,(sl:Nat),(om:Nat)⟩=fr at *;rw[hT fr]at hh;obtain⟨fk,⟨f_r,f_s,f_m⟩,fd⟩:=fr;obtain⟨A2,c2,rfl,-⟩:=hv.sees.at_;simp only at hv F0 hh;unfold frV;simp only;have b11:=br.trans (d11.mono br.size);refine hK.o _ _ (HH.o _ b11) (λhHeld=>?_);clear hK K
    try simp only[qq]
    refine wT 6 32 ?_;refine wT 7 39 ?_;refine wT 8 40 ?_;refine aM (rs:=[9]) (by kernel_rfl) (by simp) ?_;refine(aA rfl (λK hK=>?_) aG);go_simp;have b12:=b11.alloc b11.size (.cells zF 182);have X12:=aJ w11 (w11).heap.size rfl zF 182;refine hK.o _ _ (HH.o _ b12) (λhHeld=>?_);clear hK K
    try simp only[qq]
    refine aM (rs:=[10]) (by kernel_rfl) (by simp) ?_;refine(aA rfl (λK hK=>?_) aG);have y0:=X12.cell 0 (x:=↑(0:Int)) rfl;have z0:=X12.frozen 0;have y1:=X12.cell 1 (x:=↑(0:Int)) rfl;have z1:=X12.frozen 1;have y2:=X12.cell 2 (x:=↑(0:Int)) rfl;have z2:=X12.frozen 2;have y3:=X12.cell 3 (x:=↑(0:Int)) rfl;have z3:=X12.frozen 3;have y4:=X12.cell 4 (x:=.slice none 0 0) rfl;have z4:=X12.frozen 4;go_simp;have XF:=aJ w11 (w11).heap.size rfl (aF fk f_r f_s f_m A2 (fd.length) c2) 182;have bF:=b11.alloc b11.size (.cells (aF fk f_r f_s f_m A2 (fd.length) c2) 182);have le:wr.heap.size<=(w11).heap.size:=b11.size;refine hK.o _ _ (HH.o _ bF) (λhHeld=>?_);clear y0 z0 y1 z1 y2 z2 y3 z3 y4 z4;clear hK K
    try simp only[qq]
    refine wT 11 12 ?_;refine bP (by kernel_rfl) ?_ _;have hv5:=hv.alloc (.cells (aF fk f_r f_s f_m A2 (fd.length) c2) 182);have hR5:=hR.below bF hR.lt;have hO5:=hO.below bF hO.lt;have hS5:=hS.below bF hS.lt;have b5:=b0.trans (bF.mono b0.size);have hbase:w.heap.size<=(wr.drew).heap.size/\w.heap.size<(wr.drew).heap.size:=by have:=b0.size;simp;omega
    clear hv bF hR hO hS HH S0;generalize World.alloc w11 (.cells (aF fk f_r f_s f_m A2 (fd.length) c2) 182)=w5 at *;generalize(w11).heap.size=fa at *;generalize(wr.drew).heap.size=fb at *;obtain⟨hbase,jY⟩:=hbase;rotate_left 1;go_simp;have b14:=br.alloc br.size (.cells zF 182);have X14:=aJ wr.drew wr rfl zF 182;refine hK.o _ _ (HH.o _ b14) (λhHeld=>?_);clear hK K
    try simp only[qq]
    refine aM (rs:=[5]) (by kernel_rfl) (by simp) ?_;refine(aA rfl (λK hK=>?_) aG);go_simp;refine(HX _ (b0.trans (b14.mono b0.size))).o.mono ?_;rintro _ w15 ⟨v,rfl,hv,d15⟩;clear FN F1;generalize Fr.err x ⟨rd,(sl:Nat),(om:Nat)⟩=er at *;generalize Fr.res x ⟨rd,(sl:Nat),(om:Nat)⟩=fr at *;rw[hT fr]at hh;obtain⟨fk,⟨f_r,f_s,f_m⟩,fd⟩:=fr;obtain⟨A2,c2,rfl,-⟩:=hv.sees.at_;simp only at hv F0 hh;unfold frV;simp only;have b15:=b14.trans (d15.mono b14.size);have j6:=X14.below d15 X14.lt;refine hK.o _ _ (HH.o _ b15) (λhHeld=>?_);clear hK K
    try simp only[qq]
    refine wT 6 32 ?_;refine wT 7 39 ?_;refine wT 8 40 ?_;refine aM (rs:=[10]) (by kernel_rfl) (by simp) ?_;refine(aA rfl (λK hK=>?_) aG);have y0:=j6.cell 0 (x:=↑(0:Int)) rfl;have z0:=j6.frozen 0;have y1:=j6.cell 1 (x:=↑(0:Int)) rfl;have z1:=j6.frozen 1;have y2:=j6.cell 2 (x:=↑(0:Int)) rfl;have z2:=j6.frozen 2;have y3:=j6.cell 3 (x:=↑(0:Int)) rfl;have z3:=j6.frozen 3;have y4:=j6.cell 4 (x:=.slice none 0 0) rfl;have z4:=j6.frozen 4;go_simp;have le:wr.heap.size<=wr.heap.size:=br.size;have XF:Blk _ wr (aF fk f_r f_s f_m A2 (fd.length) c2) 182:=(((((j6.set 0 ↑fk).set 1 ↑f_r).set 2 ↑f_s).set 3 ↑f_m).set 4 (.slice A2 fd.length c2)).eq (by simp);have bF:=(((((b15.setCell (p:=(wr.heap.size,0)) le ↑fk).setCell (p:=(wr.heap.size,1)) le ↑f_r).setCell (p:=(wr.heap.size,2)) le ↑f_s).setCell (p:=(wr.heap.size,3)) le ↑f_m).setCell (p:=(wr.heap.size,4)) le (.slice A2 fd.length c2));refine hK.o _ _ (HH.o _ bF) (λhHeld=>?_);clear y0 z0 y1 z1 y2 z2 y3 z3 y4 z4;clear hK K
    try simp only[qq]
    refine wT 11 12 ?_;refine bP (by kernel_rfl) ?_ _;have hv5:=(((((hv.iN (wr,0) ↑fk (by simp)).iN (wr,1) ↑f_r (by simp)).iN (wr,2) ↑f_s (by simp)).iN (wr,3) ↑f_m (by simp)).iN (wr,4) (.slice A2 fd.length c2) (by simp));have hR5:=hR.below bF hR.lt;have hO5:=hO.below bF hO.lt;have hS5:=hS.below bF hS.lt;have b5:=b0.trans (bF.mono b0.size);have hbase:w.heap.size<=((wr.drew.alloc (.cells zF 182))).heap.size/\w.heap.size<((wr.drew.alloc (.cells zF 182))).heap.size:=by have:=b0.size;simp;omega
    clear hv bF hR hO hS HH S0;generalize World.setCell _ (wr,4) _=w5 at *;generalize wr.heap.size=fa at *;generalize((wr.drew.alloc (.cells zF 182))).heap.size=fb at *;obtain⟨hbase,jY⟩:=hbase
    all_goals
     have hcase:(er≠0/\hb=false)\/(er=0/\fk=3/\hb=false)\/(er=0/\fk≠3/\f_r≠rd/\hb=false)\/(er=0/\fk≠3/\f_r=rd/\f_s≠(sl:Nat)/\hb=false)\/(er=0/\fk≠3/\f_r=rd/\f_s=(sl:Nat)/\f_m≠(om:Nat)/\hb=false)\/(er=0/\fk≠3/\f_r=rd/\f_s=(sl:Nat)/\f_m=(om:Nat)/\hb=true):=DY hh;clear hh hT;rcases hcase with⟨e1,hn⟩|⟨rfl,e2,hn⟩|⟨rfl,e2,e3,hn⟩|⟨rfl,e2,e3,e4,hn⟩|⟨rfl,e2,e3,e4,e5,hn⟩|⟨rfl,e2,e3,e4,e5,hn⟩
     ·skip
      have q0:(er==0)=false:=by rw[aB];exact e1
      clear e1;have y0:=XF.cell 0 (x:=↑fk) rfl;have y1:=XF.cell 1 (x:=↑f_r) rfl;have y2:=XF.cell 2 (x:=↑f_s) rfl;have y3:=XF.cell 3 (x:=↑f_m) rfl;have y4:=XF.cell 4 (x:=.slice A2 fd.length c2) rfl;have o0:=hO5.cell 0 (x:=↑rd) rfl;have o1:=hO5.cell 1 (x:=↑(sl:Nat)) rfl;have o2:=hO5.cell 2 (x:=↑(om:Nat)) rfl;have HN:=af hn;have HH:=af (aL b5 (aL hR5 (aL hO5 hS5)));clear F0 hn XF hR5 hS5 hO5 b5 hv5 HX HY;go_wp2;go_roundw
      case rel=>exact⟨1,by omega,by go_num,λ_=>HN.o,λh=>absurd h (by omega),HH.o.1,HH.o.2.1,HH.o.2.2.1,HH.o.2.2.2⟩
      case measure=>simp[intOf]
     ·skip
      have q1:(fk != 3)=false:=by rw[e2];rfl
      clear e2;have y0:=XF.cell 0 (x:=↑fk) rfl;have y1:=XF.cell 1 (x:=↑f_r) rfl;have y2:=XF.cell 2 (x:=↑f_s) rfl;have y3:=XF.cell 3 (x:=↑f_m) rfl;have y4:=XF.cell 4 (x:=.slice A2 fd.length c2) rfl;have o0:=hO5.cell 0 (x:=↑rd) rfl;have o1:=hO5.cell 1 (x:=↑(sl:Nat)) rfl;have o2:=hO5.cell 2 (x:=↑(om:Nat)) rfl;have HN:=af hn;have HH:=af (aL b5 (aL hR5 (aL hO5 hS5)));clear F0 hn XF hR5 hS5 hO5 b5 hv5 HX HY;go_wp2;go_roundw
      case rel=>exact⟨1,by omega,by go_num,λ_=>HN.o,λh=>absurd h (by omega),HH.o.1,HH.o.2.1,HH.o.2.2.1,HH.o.2.2.2⟩
      case measure=>simp[intOf]
     ·skip
      have q1:(fk != 3)=true:=by rw[bV];exact e2
      have q2:(f_r==rd)=false:=by rw[aB];exact e3
      clear e2 e3;have y0:=XF.cell 0 (x:=↑fk) rfl;have y1:=XF.cell 1 (x:=↑f_r) rfl;have y2:=XF.cell 2 (x:=↑f_s) rfl;have y3:=XF.cell 3 (x:=↑f_m) rfl;have y4:=XF.cell 4 (x:=.slice A2 fd.length c2) rfl;have o0:=hO5.cell 0 (x:=↑rd) rfl;have o1:=hO5.cell 1 (x:=↑(sl:Nat)) rfl;have o2:=hO5.cell 2 (x:=↑(om:Nat)) rfl;have HN:=af hn;have HH:=af (aL b5 (aL hR5 (aL hO5 hS5)));clear F0 hn XF hR5 hS5 hO5 b5 hv5 HX HY;go_wp2;go_roundw
      case rel=>exact⟨1,by omega,by go_num,λ_=>HN.o,λh=>absurd h (by omega),HH.o.1,HH.o.2.1,HH.o.2.2.1,HH.o.2.2.2⟩
      case measure=>simp[intOf]
     ·skip
      have q1:(fk != 3)=true:=by rw[bV];exact e2
      have q2:(f_r==rd)=true:=by rw[e3];simp
      have q3:(f_s==((sl:Nat):Int))=false:=by rw[aB];exact e4
      clear e2 e3 e4;have y0:=XF.cell 0 (x:=↑fk) rfl;have y1:=XF.cell 1 (x:=↑f_r) rfl;have y2:=XF.cell 2 (x:=↑f_s) rfl;have y3:=XF.cell 3 (x:=↑f_m) rfl;have y4:=XF.cell 4 (x:=.slice A2 fd.length c2) rfl;have o0:=hO5.cell 0 (x:=↑rd) rfl;have o1:=hO5.cell 1 (x:=↑(sl:Nat)) rfl;have o2:=hO5.cell 2 (x:=↑(om:Nat)) rfl;have HN:=af hn;have HH:=af (aL b5 (aL hR5 (aL hO5 hS5)));clear F0 hn XF hR5 hS5 hO5 b5 hv5 HX HY;go_wp2;go_roundw
      case rel=>exact⟨1,by omega,by go_num,λ_=>HN.o,λh=>absurd h (by omega),HH.o.1,HH.o.2.1,HH.o.2.2.1,HH.o.2.2.2⟩
      case measure=>simp[intOf]
     ·skip
      have q1:(fk != 3)=true:=by rw[bV];exact e2
      have q2:(f_r==rd)=true:=by rw[e3];simp
      have q3:(f_s==((sl:Nat):Int))=true:=by rw[e4];simp
      have q4:(f_m==((om:Nat):Int))=false:=by rw[aB];exact e5
      clear e2 e3 e4 e5;have y0:=XF.cell 0 (x:=↑fk) rfl;have y1:=XF.cell 1 (x:=↑f_r) rfl;have y2:=XF.cell 2 (x:=↑f_s) rfl;have y3:=XF.cell 3 (x:=↑f_m) rfl;have y4:=XF.cell 4 (x:=.slice A2 fd.length c2) rfl;have o0:=hO5.cell 0 (x:=↑rd) rfl;have o1:=hO5.cell 1 (x:=↑(sl:Nat)) rfl;have o2:=hO5.cell 2 (x:=↑(om:Nat)) rfl;have HN:=af hn;have HH:=af (aL b5 (aL hR5 (aL hO5 hS5)));clear F0 hn XF hR5 hS5 hO5 b5 hv5 HX HY;go_wp2;go_roundw
      case rel=>exact⟨1,by omega,by go_num,λ_=>HN.o,λh=>absurd h (by omega),HH.o.1,HH.o.2.1,HH.o.2.2.1,HH.o.2.2.2⟩
      case measure=>simp[intOf]
     ·skip
      have q1:(fk != 3)=true:=by rw[bV];exact e2
      have q2:(f_r==rd)=true:=by rw[e3];simp
      have q3:(f_s==((sl:Nat):Int))=true:=by rw[e4];simp
      have q4:(f_m==((om:Nat):Int))=true:=by rw[e5];simp
      clear e2 e3 e4 e5;have y0:=XF.cell 0 (x:=↑fk) rfl;have y1:=XF.cell 1 (x:=↑f_r) rfl;have y2:=XF.cell 2 (x:=↑f_s) rfl;have y3:=XF.cell 3 (x:=↑f_m) rfl;have y4:=XF.cell 4 (x:=.slice A2 fd.length c2) rfl;have o0:=hO5.cell 0 (x:=↑rd) rfl;have o1:=hO5.cell 1 (x:=↑(sl:Nat)) rfl;have o2:=hO5.cell 2 (x:=↑(om:Nat)) rfl;have r0:=hR5.cell 0 (x:=↑(0:Int)) rfl;have f0:=hR5.frozen 0;have r1:=hR5.cell 1 (x:=↑(0:Int)) rfl;have f1:=hR5.frozen 1;have r2:=hR5.cell 2 (x:=↑(0:Int)) rfl;have f2:=hR5.frozen 2;have r3:=hR5.cell 3 (x:=↑(0:Int)) rfl;have f3:=hR5.frozen 3;have r4:=hR5.cell 4 (x:=.slice none 0 0) rfl;have f4:=hR5.frozen 4;have hvf:=af (((((hv5.iN (w,0) ↑fk jY).iN (w,1) ↑f_r jY).iN (w,2) ↑f_s jY).iN (w,3) ↑f_m jY).iN (w,4) (.slice A2 fd.length c2) jY);have hbf:=af (((((b5.setCell (p:=(w.heap.size,0)) lr ↑fk).setCell (p:=(w.heap.size,1)) lr ↑f_r).setCell (p:=(w.heap.size,2)) lr ↑f_s).setCell (p:=(w.heap.size,3)) lr ↑f_m).setCell (p:=(w.heap.size,4)) lr (.slice A2 fd.length c2));have HF:=af (λe w' h=>F0 e w' hn h);clear F0 hn XF hR5 hS5 hO5 b5 hv5 HX HY;go_wp2;refine aK (v:=.tuple #[.agg (aF fk f_r f_s f_m A2 (fd.length) c2),↑true]) ?_ rfl (HF.o _ _ ⟨_,rfl,hvf.o.base hbase,hbf.o⟩);rw[aV rfl];go_simp
   ·have n0:=n0 (by omega)
    have F1:=λe w' h=>F1 e w' n0 h;have hh:jf ⟨rd,(sl:Nat),(om:Nat)⟩ T 2 y=(decide (Fr.err y ⟨rd,(sl:Nat),(om:Nat)⟩=0)&&T (Fr.res y ⟨rd,(sl:Nat),(om:Nat)⟩)):=by unfold jf;rw[av rfl,cK]
    generalize jf ⟨rd,(sl:Nat),(om:Nat)⟩ T 2 y=hb at *;have HS:∀W,Below wr wr W->(W.cell? (w3,1)=some (.slice Ay y.length cy)/\W.cell? (sb,0)=some ↑rd/\W.cell? (sb,1)=some ↑(sl:Nat)/\W.cell? (sb,2)=some ↑(om:Nat)):=λW hW=>by
     have hS':=hS.below hW hS.lt;have hO':=hO.below hW hO.lt;exact⟨hS'.cell 1 rfl,hO'.cell 0 rfl,hO'.cell 1 rfl,hO'.cell 2 rfl⟩
    have br:=(ah wr wr).drew;have S0:=af (HS _ br);have HH:=af HS;have hlr:=hR.lt;clear HS;go_wp2_with fail;refine cW (S:=λW=>W.cell? (w3,1)=some (.slice Ay y.length cy)/\W.cell? (sb,0)=some ↑rd/\W.cell? (sb,1)=some ↑(sl:Nat)/\W.cell? (sb,2)=some ↑(om:Nat)) (by kernel_rfl) S0.o (λhHeld=>?_);refine wT 0 33 ?_;refine wT 1 34 ?_;refine wT 2 35 ?_;refine wT 3 36 ?_;refine wT 4 37 ?_;refine aM (rs:=[5,9]) (by kernel_rfl) (by simp) ?_;refine(aA rfl (λK hK=>?_) (aA rfl (λK hK=>?_) aG));go_simp;refine(HY _ (b0.trans (br.mono b0.size))).o.mono ?_;rintro _ w11 ⟨v,rfl,hv,d11⟩;clear FN F0;generalize Fr.err y ⟨rd,(sl:Nat),(om:Nat)⟩=er at *;generalize Fr.res y ⟨rd,(sl:Nat),(om:Nat)⟩=fr at *;rw[hT fr]at hh;obtain⟨fk,⟨f_r,f_s,f_m⟩,fd⟩:=fr;obtain⟨A2,c2,rfl,-⟩:=hv.sees.at_;simp only at hv F1 hh;unfold frV;simp only;have b11:=br.trans (d11.mono br.size);refine hK.o _ _ (HH.o _ b11) (λhHeld=>?_);clear hK K
    try simp only[qq]
    refine wT 6 32 ?_;refine wT 7 39 ?_;refine wT 8 40 ?_;refine aM (rs:=[9]) (by kernel_rfl) (by simp) ?_;refine(aA rfl (λK hK=>?_) aG);go_simp;have b12:=b11.alloc b11.size (.cells zF 182);have X12:=aJ w11 (w11).heap.size rfl zF 182;refine hK.o _ _ (HH.o _ b12) (λhHeld=>?_);clear hK K
    try simp only[qq]
    refine aM (rs:=[10]) (by kernel_rfl) (by simp) ?_;refine(aA rfl (λK hK=>?_) aG);have y0:=X12.cell 0 (x:=↑(0:Int)) rfl;have z0:=X12.frozen 0;have y1:=X12.cell 1 (x:=↑(0:Int)) rfl;have z1:=X12.frozen 1;have y2:=X12.cell 2 (x:=↑(0:Int)) rfl;have z2:=X12.frozen 2;have y3:=X12.cell 3 (x:=↑(0:Int)) rfl;have z3:=X12.frozen 3;have y4:=X12.cell 4 (x:=.slice none 0 0) rfl;have z4:=X12.frozen 4;go_simp;have XF:=aJ w11 (w11).heap.size rfl (aF fk f_r f_s f_m A2 (fd.length) c2) 182;have bF:=b11.alloc b11.size (.cells (aF fk f_r f_s f_m A2 (fd.length) c2) 182);have le:wr.heap.size<=(w11).heap.size:=b11.size;refine hK.o _ _ (HH.o _ bF) (λhHeld=>?_);clear y0 z0 y1 z1 y2 z2 y3 z3 y4 z4;clear hK K
    try simp only[qq]
    refine wT 11 12 ?_;refine bP (by kernel_rfl) ?_ _;have hv5:=hv.alloc (.cells (aF fk f_r f_s f_m A2 (fd.length) c2) 182);have hR5:=hR.below bF hR.lt;have hO5:=hO.below bF hO.lt;have hS5:=hS.below bF hS.lt;have b5:=b0.trans (bF.mono b0.size);have hbase:w.heap.size<=(wr.drew).heap.size/\w.heap.size<(wr.drew).heap.size:=by have:=b0.size;simp;omega
    clear hv bF hR hO hS HH S0;generalize World.alloc w11 (.cells (aF fk f_r f_s f_m A2 (fd.length) c2) 182)=w5 at *;generalize(w11).heap.size=fa at *;generalize(wr.drew).heap.size=fb at *;obtain⟨hbase,jY⟩:=hbase;rotate_left 1;go_simp;have b14:=br.alloc br.size (.cells zF 182);have X14:=aJ wr.drew wr rfl zF 182;refine hK.o _ _ (HH.o _ b14) (λhHeld=>?_);clear hK K
    try simp only[qq]
    refine aM (rs:=[5]) (by kernel_rfl) (by simp) ?_;refine(aA rfl (λK hK=>?_) aG);go_simp;refine(HY _ (b0.trans (b14.mono b0.size))).o.mono ?_;rintro _ w15 ⟨v,rfl,hv,d15⟩;clear FN F0;generalize Fr.err y ⟨rd,(sl:Nat),(om:Nat)⟩=er at *;generalize Fr.res y ⟨rd,(sl:Nat),(om:Nat)⟩=fr at *;rw[hT fr]at hh;obtain⟨fk,⟨f_r,f_s,f_m⟩,fd⟩:=fr;obtain⟨A2,c2,rfl,-⟩:=hv.sees.at_;simp only at hv F1 hh;unfold frV;simp only;have b15:=b14.trans (d15.mono b14.size);have j6:=X14.below d15 X14.lt;refine hK.o _ _ (HH.o _ b15) (λhHeld=>?_);clear hK K
    try simp only[qq]
    refine wT 6 32 ?_;refine wT 7 39 ?_;refine wT 8 40 ?_;refine aM (rs:=[10]) (by kernel_rfl) (by simp) ?_;refine(aA rfl (λK hK=>?_) aG);have y0:=j6.cell 0 (x:=↑(0:Int)) rfl;have z0:=j6.frozen 0;have y1:=j6.cell 1 (x:=↑(0:Int)) rfl;have z1:=j6.frozen 1;have y2:=j6.cell 2 (x:=↑(0:Int)) rfl;have z2:=j6.frozen 2;have y3:=j6.cell 3 (x:=↑(0:Int)) rfl;have z3:=j6.frozen 3;have y4:=j6.cell 4 (x:=.slice none 0 0) rfl;have z4:=j6.frozen 4;go_simp;have le:wr.heap.size<=wr.heap.size:=br.size;have XF:Blk _ wr (aF fk f_r f_s f_m A2 (fd.length) c2) 182:=(((((j6.set 0 ↑fk).set 1 ↑f_r).set 2 ↑f_s).set 3 ↑f_m).set 4 (.slice A2 fd.length c2)).eq (by simp);have bF:=(((((b15.setCell (p:=(wr.heap.size,0)) le ↑fk).setCell (p:=(wr.heap.size,1)) le ↑f_r).setCell (p:=(wr.heap.size,2)) le ↑f_s).setCell (p:=(wr.heap.size,3)) le ↑f_m).setCell (p:=(wr.heap.size,4)) le (.slice A2 fd.length c2));refine hK.o _ _ (HH.o _ bF) (λhHeld=>?_);clear y0 z0 y1 z1 y2 z2 y3 z3 y4 z4;clear hK K
    try simp only[qq]
    refine wT 11 12 ?_;refine bP (by kernel_rfl) ?_ _;have hv5:=(((((hv.iN (wr,0) ↑fk (by simp)).iN (wr,1) ↑f_r (by simp)).iN (wr,2) ↑f_s (by simp)).iN (wr,3) ↑f_m (by simp)).iN (wr,4) (.slice A2 fd.length c2) (by simp));have hR5:=hR.below bF hR.lt;have hO5:=hO.below bF hO.lt;have hS5:=hS.below bF hS.lt;have b5:=b0.trans (bF.mono b0.size);have hbase:w.heap.size<=((wr.drew.alloc (.cells zF 182))).heap.size/\w.heap.size<((wr.drew.alloc (.cells zF 182))).heap.size:=by have:=b0.size;simp;omega
    clear hv bF hR hO hS HH S0;generalize World.setCell _ (wr,4) _=w5 at *;generalize wr.heap.size=fa at *;generalize((wr.drew.alloc (.cells zF 182))).heap.size=fb at *;obtain⟨hbase,jY⟩:=hbase
    all_goals
     have hcase:(er≠0/\hb=false)\/(er=0/\fk=3/\hb=false)\/(er=0/\fk≠3/\f_r≠rd/\hb=false)\/(er=0/\fk≠3/\f_r=rd/\f_s≠(sl:Nat)/\hb=false)\/(er=0/\fk≠3/\f_r=rd/\f_s=(sl:Nat)/\f_m≠(om:Nat)/\hb=false)\/(er=0/\fk≠3/\f_r=rd/\f_s=(sl:Nat)/\f_m=(om:Nat)/\hb=true):=DY hh;clear hh hT;rcases hcase with⟨e1,hn⟩|⟨rfl,e2,hn⟩|⟨rfl,e2,e3,hn⟩|⟨rfl,e2,e3,e4,hn⟩|⟨rfl,e2,e3,e4,e5,hn⟩|⟨rfl,e2,e3,e4,e5,hn⟩
     ·skip
      have q0:(er==0)=false:=by rw[aB];exact e1
      clear e1;have y0:=XF.cell 0 (x:=↑fk) rfl;have y1:=XF.cell 1 (x:=↑f_r) rfl;have y2:=XF.cell 2 (x:=↑f_s) rfl;have y3:=XF.cell 3 (x:=↑f_m) rfl;have y4:=XF.cell 4 (x:=.slice A2 fd.length c2) rfl;have o0:=hO5.cell 0 (x:=↑rd) rfl;have o1:=hO5.cell 1 (x:=↑(sl:Nat)) rfl;have o2:=hO5.cell 2 (x:=↑(om:Nat)) rfl;have HN:=af hn;have HH:=af (aL b5 (aL hR5 (aL hO5 hS5)));clear F1 hn XF hR5 hS5 hO5 b5 hv5 HX HY;go_wp2;go_roundw
      case rel=>exact⟨2,by omega,by go_num,λ_=>n0,λ_=>HN.o,HH.o.1,HH.o.2.1,HH.o.2.2.1,HH.o.2.2.2⟩
      case measure=>simp[intOf]
     ·skip
      have q1:(fk != 3)=false:=by rw[e2];rfl
      clear e2;have y0:=XF.cell 0 (x:=↑fk) rfl;have y1:=XF.cell 1 (x:=↑f_r) rfl;have y2:=XF.cell 2 (x:=↑f_s) rfl;have y3:=XF.cell 3 (x:=↑f_m) rfl;have y4:=XF.cell 4 (x:=.slice A2 fd.length c2) rfl;have o0:=hO5.cell 0 (x:=↑rd) rfl;have o1:=hO5.cell 1 (x:=↑(sl:Nat)) rfl;have o2:=hO5.cell 2 (x:=↑(om:Nat)) rfl;have HN:=af hn;have HH:=af (aL b5 (aL hR5 (aL hO5 hS5)));clear F1 hn XF hR5 hS5 hO5 b5 hv5 HX HY;go_wp2;go_roundw
      case rel=>exact⟨2,by omega,by go_num,λ_=>n0,λ_=>HN.o,HH.o.1,HH.o.2.1,HH.o.2.2.1,HH.o.2.2.2⟩
      case measure=>simp[intOf]
     ·skip
      have q1:(fk != 3)=true:=by rw[bV];exact e2
      have q2:(f_r==rd)=false:=by rw[aB];exact e3
      clear e2 e3;have y0:=XF.cell 0 (x:=↑fk) rfl;have y1:=XF.cell 1 (x:=↑f_r) rfl;have y2:=XF.cell 2 (x:=↑f_s) rfl;have y3:=XF.cell 3 (x:=↑f_m) rfl;have y4:=XF.cell 4 (x:=.slice A2 fd.length c2) rfl;have o0:=hO5.cell 0 (x:=↑rd) rfl;have o1:=hO5.cell 1 (x:=↑(sl:Nat)) rfl;have o2:=hO5.cell 2 (x:=↑(om:Nat)) rfl;have HN:=af hn;have HH:=af (aL b5 (aL hR5 (aL hO5 hS5)));clear F1 hn XF hR5 hS5 hO5 b5 hv5 HX HY;go_wp2;go_roundw
      case rel=>exact⟨2,by omega,by go_num,λ_=>n0,λ_=>HN.o,HH.o.1,HH.o.2.1,HH.o.2.2.1,HH.o.2.2.2⟩
      case measure=>simp[intOf]
     ·skip
      have q1:(fk != 3)=true:=by rw[bV];exact e2
      have q2:(f_r==rd)=true:=by rw[e3];simp
      have q3:(f_s==((sl:Nat):Int))=false:=by rw[aB];exact e4
      clear e2 e3 e4;have y0:=XF.cell 0 (x:=↑fk) rfl;have y1:=XF.cell 1 (x:=↑f_r) rfl;have y2:=XF.cell 2 (x:=↑f_s) rfl;have y3:=XF.cell 3 (x:=↑f_m) rfl;have y4:=XF.cell 4 (x:=.slice A2 fd.length c2) rfl;have o0:=hO5.cell 0 (x:=↑rd) rfl;have o1:=hO5.cell 1 (x:=↑(sl:Nat)) rfl;have o2:=hO5.cell 2 (x:=↑(om:Nat)) rfl;have HN:=af hn;have HH:=af (aL b5 (aL hR5 (aL hO5 hS5)));clear F1 hn XF hR5 hS5 hO5 b5 hv5 HX HY;go_wp2;go_roundw
      case rel=>exact⟨2,by omega,by go_num,λ_=>n0,λ_=>HN.o,HH.o.1,HH.o.2.1,HH.o.2.2.1,HH.o.2.2.2⟩
      case measure=>simp[intOf]
     ·skip
      have q1:(fk != 3)=true:=by rw[bV];exact e2
      have q2:(f_r==rd)=true:=by rw[e3];simp
      have q3:(f_s==((sl:Nat):Int))=true:=by rw[e4];simp
      have q4:(f_m==((om:Nat):Int))=false:=by rw[aB];exact e5
      clear e2 e3 e4 e5;have y0:=XF.cell 0 (x:=↑fk) rfl;have y1:=XF.cell 1 (x:=↑f_r) rfl;have y2:=XF.cell 2 (x:=↑f_s) rfl;have y3:=XF.cell 3 (x:=↑f_m) rfl;have y4:=XF.cell 4 (x:=.slice A2 fd.length c2) rfl;have o0:=hO5.cell 0 (x:=↑rd) rfl;have o1:=hO5.cell 1 (x:=↑(sl:Nat)) rfl;have o2:=hO5.cell 2 (x:=↑(om:Nat)) rfl;have HN:=af hn;have HH:=af (aL b5 (aL hR5 (aL hO5 hS5)));clear F1 hn XF hR5 hS5 hO5 b5 hv5 HX HY;go_wp2;go_roundw
      case rel=>exact⟨2,by omega,by go_num,λ_=>n0,λ_=>HN.o,HH.o.1,HH.o.2.1,HH.o.2.2.1,HH.o.2.2.2⟩
      case measure=>simp[intOf]
     ·skip
      have q1:(fk != 3)=true:=by rw[bV];exact e2
      have q2:(f_r==rd)=true:=by rw[e3];simp
      have q3:(f_s==((sl:Nat):Int))=true:=by rw[e4];simp
      have q4:(f_m==((om:Nat):Int))=true:=by rw[e5];simp
      clear e2 e3 e4 e5;have y0:=XF.cell 0 (x:=↑fk) rfl;have y1:=XF.cell 1 (x:=↑f_r) rfl;have y2:=XF.cell 2 (x:=↑f_s) rfl;have y3:=XF.cell 3 (x:=↑f_m) rfl;have y4:=XF.cell 4 (x:=.slice A2 fd.length c2) rfl;have o0:=hO5.cell 0 (x:=↑rd) rfl;have o1:=hO5.cell 1 (x:=↑(sl:Nat)) rfl;have o2:=hO5.cell 2 (x:=↑(om:Nat)) rfl;have r0:=hR5.cell 0 (x:=↑(0:Int)) rfl;have f0:=hR5.frozen 0;have r1:=hR5.cell 1 (x:=↑(0:Int)) rfl;have f1:=hR5.frozen 1;have r2:=hR5.cell 2 (x:=↑(0:Int)) rfl;have f2:=hR5.frozen 2;have r3:=hR5.cell 3 (x:=↑(0:Int)) rfl;have f3:=hR5.frozen 3;have r4:=hR5.cell 4 (x:=.slice none 0 0) rfl;have f4:=hR5.frozen 4;have hvf:=af (((((hv5.iN (w,0) ↑fk jY).iN (w,1) ↑f_r jY).iN (w,2) ↑f_s jY).iN (w,3) ↑f_m jY).iN (w,4) (.slice A2 fd.length c2) jY);have hbf:=af (((((b5.setCell (p:=(w.heap.size,0)) lr ↑fk).setCell (p:=(w.heap.size,1)) lr ↑f_r).setCell (p:=(w.heap.size,2)) lr ↑f_s).setCell (p:=(w.heap.size,3)) lr ↑f_m).setCell (p:=(w.heap.size,4)) lr (.slice A2 fd.length c2));have HF:=af (λe w' h=>F1 e w' hn h);clear F1 hn XF hR5 hS5 hO5 b5 hv5 HX HY;go_wp2;refine aK (v:=.tuple #[.agg (aF fk f_r f_s f_m A2 (fd.length) c2),↑true]) ?_ rfl (HF.o _ _ ⟨_,rfl,hvf.o.base hbase,hbf.o⟩);rw[aV rfl];go_simp
   ·have n0:=n0 (by omega)
    have n1:=n1 (by omega);have FN:=λe w'=>FN e w' n0 n1;clear HX HY F0 F1 hS hT;have r0:=hR.cell 0 (x:=↑(0:Int)) rfl;have r1:=hR.cell 1 (x:=↑(0:Int)) rfl;have r2:=hR.cell 2 (x:=↑(0:Int)) rfl;have r3:=hR.cell 3 (x:=↑(0:Int)) rfl;have r4:=hR.cell 4 (x:=.slice none 0 0) rfl;have f0:=hR.frozen 0;have f1:=hR.frozen 1;have f2:=hR.frozen 2;have f3:=hR.frozen 3;have f4:=hR.frozen 4;go_wp2;refine aK (v:=.tuple #[.agg zF,↑false]) ?_ rfl (FN _ _ ⟨rfl,?_⟩)
    ·rw[aV rfl]
     go_simp
    ·(repeat' (first|exact b0|exact aR _|(with_reducible refine aU ?_ ?_ _)|omega|(simp;omega)))
end
end Go.Proofs.YteadkhigkmijiaaGreat
