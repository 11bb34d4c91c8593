/- Texts SqI in one. -/
import Derived.Deep.MidRow
import Derived.Test.YteadkhigkmijiaaGreatPD1
import Derived.Test.YteadkhigkmijiaaGreatPD8
import Derived.Test.YteadkhigkmijiaaGreatPD28
set_option linter.all false
namespace Go.Proofs.YteadkhigkmijiaaGreat
section
set_option maxRecDepth 100000
set_option maxHeartbeats 8000000
open Go.RowKit
theorem Qb(x b:Nat)(l:List (Value×Sd))(c d:Ch)(p0 p1 p:Int)(P:List Nat)(v:Value)(n:Nat)(qa qb:Nat->Int)(a:Nat->Int)(w:World)(h:XAt w P x b l c d)(hl:l.length<=8)(hr:Row w P v n qa qb)(hc:c.fr=p0)(hd:d.fr=p1)(hp:p=if p0=-1 then p1 else p0)
  (hpl:p=-1\/∃j:Nat,p=j/\j<l.length) (ha:∀i,wide (a i)) (hw:wide (jG (l.map Prod.snd) p)):
  Calls Tryz.prog 106 #[↑(x,0),v,jK a] w λe w'=>∃f,e=.returned (.agg (hdC f))/\(∀i,i<8->jH w' w (l.map Prod.snd) n qa qb p a i (f i))/\Below w w w':=by
 obtain⟨bc,kc,vc,pc⟩:=c;obtain⟨bd,kd,vd,pd⟩:=d;simp only at hc hd;subst hc hd;have X0:=(aJ w w rfl (i8 a) 22).alloc (.cells (hdC λ_=>hdz) 154);have X1:=aJ (w.alloc (.cells (i8 a) 22)) (w.heap.size+1) (by simp) (hdC λ_=>hdz) 154;have hb:=((ah w w).alloc lr (.cells (i8 a) 22)).alloc (by simp) (.cells (hdC λ_=>hdz) 154);have H:=h.below hb;have y0:=H.blk.cell 0 (x:=.slice (some (b,0)) l.length l.length) rfl;have y4:=H.blk.cell 4 (x:=↑pc) rfl;have y8:=H.blk.cell 8 (x:=↑pd) rfl;have hxl:=h.blk.lt;have hbl:=h.sd.lt;have HX:Hid (∀W,Below w w W->XAt W P x b l ⟨bc,kc,vc,pc⟩ ⟨bd,kd,vd,pd⟩/\Row W P v n qa qb):=af λW hW=>⟨h.below hW,hr.kp (fG P hW)⟩;have hRd:=λW(hW:Below w w W)=>af (EX v n qa qb P W (HX.o W hW).2);have hWn:=λW(hW:Below w w W)=>af (xR x b l _ _ P p W (HX.o W hW).1 hpl);have hz:((w.alloc (.cells (i8 a) 22)).alloc (.cells (hdC λ_=>hdz) 154)).heap.size=w.heap.size+1+1:=by simp
 obtain⟨Av,cv,rfl,-⟩:=hr.sees;clear H h hr;unfold i8 hdC hdz at X0 X1 hb y0 y4 y8 hz;unfold jK;simp only at *;have HT:=af (show ∀k,IntKind.i64.wrap (jG (l.map Prod.snd) p-a k)=jG (l.map Prod.snd) p-a k from λk=>aO _ (by have:=ha k;unfold wide at this hw;omega));have HC:=λf k hk=>af (xk f k hk);have HS4:=λf k hk A B X Y=>af (DL f k hk A B X Y);have HSO:=λf k hk o=>af (DR f k hk o);clear ha hw;rcases hpl with rfl|⟨j,rfl,hj⟩
 ·obtain⟨rfl,rfl⟩:pc=-1/\pd=-1:=by
   by_cases h:pc=-1
   ·rw[au h]at hp;exact⟨h,hp.symm⟩
   ·rw[ai h]at hp;exact absurd hp.symm h
  clear hp
  go_enter Tryz.func106,Tryz.ntmps106
  go_wp2_with fail;generalize((w.alloc (.cells (aI a) 22)).alloc (.cells zH 154))=w2 at *
  go_loopw [30] (λi wr=>∃k:Nat,∃f:Nat->Hd,k<=l.length/\i=↑k/\Blk wr (w.heap.size+1) (hdC f) 154/\Hid (∀i,i<k->jH wr (w.heap.size+1+1) (l.map Prod.snd) n qa qb (-1) a i (f i))/\Hid (∀i,k<=i->f i=hdz)/\Blk wr w (i8 a) 22/\Below w w wr/\w.heap.size+1+1<=wr.heap.size) (λi _=>l.length-(intOf i).toNat)
  case atStart=>exact⟨0,λ_=>hdz,by omega,rfl,by simpa[hdC,hdz]using X1,af (λi hi=>by omega),af (λi hi=>rfl),by simpa[i8]using X0,hb,by omega⟩
  case round=>
   obtain⟨k,f,hk,rfl,hR,hH,hZ,hA,hB,hS⟩:=hrel;clear X0 X1;by_cases hlt:k<l.length
   ·have r1:decide ((k:Int)<(l.length:Nat))=true:=by simp;omega
    have i8':(k:Int)<8:=by omega
    obtain⟨⟨v0,s0⟩,hk0⟩:∃y,l[k]?=some y:=⟨_,aP hlt⟩;have hXr:=(HX.o wr hB).1;obtain⟨e0,e1,e2⟩:=hXr.sd.cells hk0;obtain⟨A0,c0,rfl,-⟩:=(show Row wr P v0 s0.n s0.q s0.q from hXr.sd.row _ (bO hk0)).sees;have hm:((l.map Prod.snd)[k]?.map Sd.df)=some s0.df:=by simp[hk0]
    have hml:k<(l.map Prod.snd).length:=by simpa using hlt
    have hbx:Below wr wr (wr.alloc (.cells #[.slice A0 s0.n c0,↑s0.at_,↑s0.df] 224)):=(ah _ _).alloc lr _;have hzx:(wr.alloc (.cells #[.slice A0 s0.n c0,↑s0.at_,↑s0.df] 224)).heap.size=wr.heap.size+1:=by simp
    have hN:=aJ wr wr rfl #[.slice A0 s0.n c0,↑s0.at_,↑s0.df] 224;have n2:=hN.cell 2 (x:=↑s0.df) rfl;have hRx:=hR.alloc (.cells #[.slice A0 s0.n c0,↑s0.at_,↑s0.df] 224);have hAx:=hA.alloc (.cells #[.slice A0 s0.n c0,↑s0.at_,↑s0.df] 224);have hHx:Hid (∀i,i<k->jH (wr.alloc (.cells #[.slice A0 s0.n c0,↑s0.at_,↑s0.df] 224)) (w.heap.size+1+1) (l.map Prod.snd) n qa qb (-1) a i (f i)):=af λi hi=>(hH.o i hi).below hbx lr;have hBx:=hB.trans (hbx.mono hB.size);have hZk:=af (hZ.o k lr);have hZ':Hid (∀i,k+1<=i->f i=hdz):=af λi hi=>hZ.o i (by omega);clear hXr hR hA hH hN hB hbx hZ
    cases hdf:s0.df
    ·rw[hdf]at n2 hm
     simp only[hdf]at *;have rJ:=hRd _ hBx;go_wp2_with fail;generalize wr.alloc (.cells #[.slice A0 s0.n c0,↑s0.at_,↑false] 224)=wx at *;refine rJ.o.mono ?_;rintro e w3 ⟨X,Y,rfl,oX,oY,hb3⟩;have hR3:=hRx.below hb3 hRx.lt;have hA3:=hAx.below hb3 hAx.lt;have hB3:=hBx.trans (hb3.mono (by omega));have oX:=oX.base (B:=w.heap.size+1+1) (by omega);have oY:=oY.base (B:=w.heap.size+1+1) (by omega);have hH3:Hid (∀i,i<k->jH w3 (w.heap.size+1+1) (l.map Prod.snd) n qa qb (-1) a i (f i)):=af λi hi=>(hHx.o i hi).below hb3 lr;have hS3:w.heap.size+1+1<=w3.heap.size:=by have:=hb3.size;omega
     obtain⟨AX,cX,rfl,-⟩:=oX.sees.at_;obtain⟨AY,cY,rfl,-⟩:=oY.sees.at_;obtain⟨g0,g1,g2,g3,g4⟩:=(HC f k (by omega)).o;have z0:=hR3.cell (k*5) g0;have z1:=hR3.cell (k*5+1) g1;have z2:=hR3.cell (k*5+2) g2;have z3:=hR3.cell (k*5+3) g3;have f0:=hR3.frozen (k*5);have f1:=hR3.frozen (k*5+1);have f2:=hR3.frozen (k*5+2);have f3:=hR3.frozen (k*5+3);have R4:=af (((((hR3.set (k*5) ↑(tk n qa)).set (k*5+2) (.slice AX (tl n qa).length cX)).set (k*5+1) ↑(tk n qb)).set (k*5+3) (.slice AY (tl n qb).length cY)).eq (HS4 f k (by omega) (tk n qa) (tk n qb) (.slice AX (tl n qa).length cX) (.slice AY (tl n qb).length cY)).o);have O4:=af (((((aE (w.heap.size+1) w3).set (k*5) ↑(tk n qa)).set (k*5+2) (.slice AX (tl n qa).length cX)).set (k*5+1) ↑(tk n qb)).set (k*5+3) (.slice AY (tl n qb).length cY));have oX:=af oX;have oY:=af oY;clear g0 g1 g2 g3 g4 rJ hRx hAx hHx hBx hb3 hRd;go_wp2_with fail;generalize(((w3.setCell (w.heap.size+1,k*5) ↑(tk n qa)).setCell (w.heap.size+1,k*5+2) (.slice AX (tl n qa).length cX)).setCell (w.heap.size+1,k*5+1) ↑(tk n qb)).setCell (w.heap.size+1,k*5+3) (.slice AY (tl n qb).length cY)=w4 at *;have oX4:=af (oX.o.only O4.o (by omega));have oY4:=af (oY.o.only O4.o (by omega));have hA4:=hA3.only O4.o (by omega);have hB4:=hB3.trans (O4.o.below (by omega) (by omega));have hH4:Hid (∀i,i<k->jH w4 (w.heap.size+1+1) (l.map Prod.snd) n qa qb (-1) a i (f i)):=af λi hi=>(hH3.o i hi).only O4.o (by omega);have hS4:w.heap.size+1+1<=w4.heap.size:=by have:=O4.o.size;omega
     clear z0 z1 z2 z3 f0 f1 f2 f3 hR3 hA3 hB3 hH3 hS3 oX oY O4;have HF:Hid (∀i,i<k+1->jH w4 (w.heap.size+1+1) (l.map Prod.snd) n qa qb (-1) a i ((upH f k {f k with A:=tk n qa,B:=tk n qb,X:=.slice AX (tl n qa).length cX,Y:=.slice AY (tl n qb).length cY}) i)):=af λi hi=>by
      by_cases e:i=k
      ·rw[e]
       have h1:k<(l.map Prod.snd).length/\((l.map Prod.snd)[k]?.map Sd.df)≠some true:=⟨hml,by rw[hm];simp⟩;simp only[upH,dG];exact⟨by rw[au h1],by rw[au h1],by rw[au h1];exact oX4.o,by rw[au h1];exact oY4.o,by simp only;rw[hZk.o];simp[hdz]⟩
      ·simp only[upH,ai e]
       exact hH4.o i (by omega)
     have HZ2:Hid (∀i,k+1<=i->(upH f k {f k with A:=tk n qa,B:=tk n qb,X:=.slice AX (tl n qa).length cX,Y:=.slice AY (tl n qb).length cY}) i=hdz):=af λi hi=>by unfold upH;rw[ai (by omega)];exact hZ'.o i hi
     have HB4:=af hB4
     (try go_wp2_with fail)
     go_roundw
     case rel=>exact⟨k+1,_,by omega,by go_num,R4.o,HF,HZ2,hA4,HB4.o,hS4⟩
     case measure=>simp[intOf];omega
    ·rw[hdf]at n2 hm
     simp only[hdf]at *;go_wp2_with fail;generalize wr.alloc (.cells #[.slice A0 s0.n c0,↑s0.at_,↑true] 224)=w4 at *;have hA4:=hAx;have hB4:=hBx;have hS4:w.heap.size+1+1<=w4.heap.size:=by omega
     have R4:=af hRx;clear hRx hAx hBx;have HF:Hid (∀i,i<k+1->jH w4 (w.heap.size+1+1) (l.map Prod.snd) n qa qb (-1) a i (f i)):=af λi hi=>by
      by_cases e:i=k
      ·rw[e]
       have h1:¬(k<(l.map Prod.snd).length/\((l.map Prod.snd)[k]?.map Sd.df)≠some true):=λh=>h.2 hm;rw[hZk.o];exact⟨by rw[ai h1];rfl,by rw[ai h1];rfl,by rw[ai h1];exact bR,by rw[ai h1];exact bR,by simp[hdz]⟩
      ·exact hHx.o i (by omega)
     have HZ2:Hid (∀i,k+1<=i->f i=hdz):=hZ';have HB4:=af hB4
     (try go_wp2_with fail)
     go_roundw
     case rel=>exact⟨k+1,_,by omega,by go_num,R4.o,HF,HZ2,hA4,HB4.o,hS4⟩
     case measure=>simp[intOf];omega
   ·obtain rfl:k=l.length:=by omega
    have r1:decide ((l.length:Int)<(l.length:Nat))=false:=by simp
    have hF:Hid (∀i,i<8->jH wr (w.heap.size+1+1) (l.map Prod.snd) n qa qb (-1) a i (f i)):=af λi hi=>by
     by_cases h:i<l.length
     ·exact hH.o i h
     ·have h':¬i<(l.map Prod.snd).length:=by simpa using h
      rw[hZ.o i (by omega)];exact⟨by simp[hdz,h],by simp[hdz,h],by simp[hdz,h];exact bR,by simp[hdz,h];exact bR,by simp[hdz,h]⟩
    have HRb:=af hR;have hcs:wr.rangeAt (w.heap.size+1) 0 (hdC f).toList:=λq v hv=>by rw[bU];exact HRb.o.cell q (by simpa using hv)
    have hth:wr.there (w.heap.size+1) 0 (hdC f).size:=λq hq=>⟨by rw[bU,HRb.o.cell q (cm hq)];rfl,HRb.o.frozen _⟩;have hin:=rm;have hun:=Tryz.underlying154;have hone:=af (lH f (λi hi=>by obtain⟨A,c,h,-⟩:=(hF.o i hi).X.sees.at_;exact⟨A,_,c,h⟩) (λi hi=>by obtain⟨A,c,h,-⟩:=(hF.o i hi).Y.sees.at_;exact⟨A,_,c,h⟩));have HB:=af hB;have HSz:=af hS;clear hR hA hH hZ HX hWn hRd hB HC HS4 HSO hlt hk HT;go_wp2_with (first
     |(refine iF rfl _ _ rfl _ _ rfl _ _ hcs hun rfl hin ?_)
     |(refine gU rfl _ _ _ rfl _ _ (hdC f) rfl rfl hth hin hone.o ?_))
    refine aK (v:=.agg (hdC f)) ?_ rfl ⟨f,rfl,?_,?_⟩
    ·rw[j4 rfl]
     have hld:=ig (P:=Tryz.prog) (wr.setCells (w.heap.size+1) 0 (hdC f).toList) (w.heap.size+1) 0 154 (hdC f).toList _ (cO _ _ _ _ (by simpa using hth)) hun rfl hin;simp only[fT]at hld;show((asAddr (.pointer (some ⟨w.heap.size+1,0,none⟩))).run Tryz.prog _).andThen _=_;simp only[asAddr,iA,fR];exact hld
    ·intro i hi
     exact jH.base (jH.only (g:=w.heap.size+1) (hF.o i hi) (Only.setCells _ _ (aE _ _)) (by omega)) (by omega)
    ·exact HB.o.trans (Only.below (g:=w.heap.size+1) (Only.setCells _ _ (aE _ _)) (by omega) (by have:=HSz.o;omega))
 ·have hcs:pc=(j:Nat)\/(pc=-1/\pd=(j:Nat)):=by
   by_cases h:pc=-1
   ·rw[au h]at hp;exact .inr ⟨h,hp.symm⟩
   ·rw[ai h]at hp;exact .inl hp.symm
  clear hp;rcases hcs with rfl|⟨rfl,rfl⟩
  all_goals
   go_enter Tryz.func106,Tryz.ntmps106
   have q0:((j:Int)==-1)=false:=by rw[aB];omega
   have q1:((j:Int) != -1)=true:=by rw[bV];omega
   go_wp2_with fail;generalize((w.alloc (.cells (aI a) 22)).alloc (.cells zH 154))=w2 at *
   go_loopw [30] (λi wr=>∃k:Nat,∃f:Nat->Hd,k<=l.length/\i=↑k/\Blk wr (w.heap.size+1) (hdC f) 154/\Hid (∀i,i<k->jH wr (w.heap.size+1+1) (l.map Prod.snd) n qa qb j a i (f i))/\Hid (∀i,k<=i->f i=hdz)/\Blk wr w (i8 a) 22/\Below w w wr/\w.heap.size+1+1<=wr.heap.size) (λi _=>l.length-(intOf i).toNat)
   case atStart=>exact⟨0,λ_=>hdz,by omega,rfl,by simpa[hdC,hdz]using X1,af (λi hi=>by omega),af (λi hi=>rfl),by simpa[i8]using X0,hb,by omega⟩
   case round=>
    obtain⟨k,f,hk,rfl,hR,hH,hZ,hA,hB,hS⟩:=hrel;clear X0 X1;by_cases hlt:k<l.length
    ·have r1:decide ((k:Int)<(l.length:Nat))=true:=by simp;omega
     have i8':(k:Int)<8:=by omega
     obtain⟨⟨v0,s0⟩,hk0⟩:∃y,l[k]?=some y:=⟨_,aP hlt⟩;have hXr:=(HX.o wr hB).1;obtain⟨e0,e1,e2⟩:=hXr.sd.cells hk0;obtain⟨A0,c0,rfl,-⟩:=(show Row wr P v0 s0.n s0.q s0.q from hXr.sd.row _ (bO hk0)).sees;have hm:((l.map Prod.snd)[k]?.map Sd.df)=some s0.df:=by simp[hk0]
     have hml:k<(l.map Prod.snd).length:=by simpa using hlt
     have hbx:Below wr wr (wr.alloc (.cells #[.slice A0 s0.n c0,↑s0.at_,↑s0.df] 224)):=(ah _ _).alloc lr _;have hzx:(wr.alloc (.cells #[.slice A0 s0.n c0,↑s0.at_,↑s0.df] 224)).heap.size=wr.heap.size+1:=by simp
     have hN:=aJ wr wr rfl #[.slice A0 s0.n c0,↑s0.at_,↑s0.df] 224;have n2:=hN.cell 2 (x:=↑s0.df) rfl;have hRx:=hR.alloc (.cells #[.slice A0 s0.n c0,↑s0.at_,↑s0.df] 224);have hAx:=hA.alloc (.cells #[.slice A0 s0.n c0,↑s0.at_,↑s0.df] 224);have hHx:Hid (∀i,i<k->jH (wr.alloc (.cells #[.slice A0 s0.n c0,↑s0.at_,↑s0.df] 224)) (w.heap.size+1+1) (l.map Prod.snd) n qa qb j a i (f i)):=af λi hi=>(hH.o i hi).below hbx lr;have hBx:=hB.trans (hbx.mono hB.size);have hZk:=af (hZ.o k lr);have hZ':Hid (∀i,k+1<=i->f i=hdz):=af λi hi=>hZ.o i (by omega);clear hXr hR hA hH hN hB hbx hZ
     cases hdf:s0.df
     ·rw[hdf]at n2 hm
      simp only[hdf]at *;have rJ:=hRd _ hBx;go_wp2_with fail;generalize wr.alloc (.cells #[.slice A0 s0.n c0,↑s0.at_,↑false] 224)=wx at *;refine rJ.o.mono ?_;rintro e w3 ⟨X,Y,rfl,oX,oY,hb3⟩;have hR3:=hRx.below hb3 hRx.lt;have hA3:=hAx.below hb3 hAx.lt;have hB3:=hBx.trans (hb3.mono (by omega));have oX:=oX.base (B:=w.heap.size+1+1) (by omega);have oY:=oY.base (B:=w.heap.size+1+1) (by omega);have hH3:Hid (∀i,i<k->jH w3 (w.heap.size+1+1) (l.map Prod.snd) n qa qb j a i (f i)):=af λi hi=>(hHx.o i hi).below hb3 lr;have hS3:w.heap.size+1+1<=w3.heap.size:=by have:=hb3.size;omega
      obtain⟨AX,cX,rfl,-⟩:=oX.sees.at_;obtain⟨AY,cY,rfl,-⟩:=oY.sees.at_;obtain⟨g0,g1,g2,g3,g4⟩:=(HC f k (by omega)).o;have z0:=hR3.cell (k*5) g0;have z1:=hR3.cell (k*5+1) g1;have z2:=hR3.cell (k*5+2) g2;have z3:=hR3.cell (k*5+3) g3;have f0:=hR3.frozen (k*5);have f1:=hR3.frozen (k*5+1);have f2:=hR3.frozen (k*5+2);have f3:=hR3.frozen (k*5+3);have R4:=af (((((hR3.set (k*5) ↑(tk n qa)).set (k*5+2) (.slice AX (tl n qa).length cX)).set (k*5+1) ↑(tk n qb)).set (k*5+3) (.slice AY (tl n qb).length cY)).eq (HS4 f k (by omega) (tk n qa) (tk n qb) (.slice AX (tl n qa).length cX) (.slice AY (tl n qb).length cY)).o);have O4:=af (((((aE (w.heap.size+1) w3).set (k*5) ↑(tk n qa)).set (k*5+2) (.slice AX (tl n qa).length cX)).set (k*5+1) ↑(tk n qb)).set (k*5+3) (.slice AY (tl n qb).length cY));have oX:=af oX;have oY:=af oY;clear g0 g1 g2 g3 g4 rJ hRx hAx hHx hBx hb3 hRd;go_wp2_with fail;generalize(((w3.setCell (w.heap.size+1,k*5) ↑(tk n qa)).setCell (w.heap.size+1,k*5+2) (.slice AX (tl n qa).length cX)).setCell (w.heap.size+1,k*5+1) ↑(tk n qb)).setCell (w.heap.size+1,k*5+3) (.slice AY (tl n qb).length cY)=w4 at *;have oX4:=af (oX.o.only O4.o (by omega));have oY4:=af (oY.o.only O4.o (by omega));have hA4:=hA3.only O4.o (by omega);have hB4:=hB3.trans (O4.o.below (by omega) (by omega));have hH4:Hid (∀i,i<k->jH w4 (w.heap.size+1+1) (l.map Prod.snd) n qa qb j a i (f i)):=af λi hi=>(hH3.o i hi).only O4.o (by omega);have hS4:w.heap.size+1+1<=w4.heap.size:=by have:=O4.o.size;omega
      clear z0 z1 z2 z3 f0 f1 f2 f3 hR3 hA3 hB3 hH3 hS3 oX oY O4;obtain⟨-,-,-,-,g4⟩:=(HC (upH f k {f k with A:=tk n qa,B:=tk n qb,X:=.slice AX (tl n qa).length cX,Y:=.slice AY (tl n qb).length cY}) k (by omega)).o;have z4:=R4.o.cell (k*5+4) g4;have f4:=R4.o.frozen (k*5+4);have zA:=hA4.cell k (l7 a k (by omega));have tt:=HT.o k;have hWx:=hWn w4.drew hB4.drew;have R5:=af (((R4.o.drew).set (k*5+4) ↑(jG (l.map Prod.snd) j-a k:Int)).eq (HSO (upH f k {f k with A:=tk n qa,B:=tk n qb,X:=.slice AX (tl n qa).length cX,Y:=.slice AY (tl n qb).length cY}) k (by omega) (jG (l.map Prod.snd) j-a k)).o);have O5:=af ((aE (w.heap.size+1) w4).drew.set (k*5+4) ↑(jG (l.map Prod.snd) j-a k:Int));have H5:Hid (∀i,i<k->jH (w4.drew.setCell (w.heap.size+1,k*5+4) ↑(jG (l.map Prod.snd) j-a k:Int)) (w.heap.size+1+1) (l.map Prod.snd) n qa qb j a i (f i)):=af λi hi=>(hH4.o i hi).only O5.o (by omega);have oX5:=af (oX4.o.only O5.o (by omega));have oY5:=af (oY4.o.only O5.o (by omega));have hA5:=af (hA4.only O5.o (by omega));have hB5:=af (hB4.trans (O5.o.below (by omega) (by omega)));have hS5:=af (aW hS4 O5.o.size);have HF:Hid (∀i,i<k+1->jH (w4.drew.setCell (w.heap.size+1,k*5+4) ↑(jG (l.map Prod.snd) j-a k:Int)) (w.heap.size+1+1) (l.map Prod.snd) n qa qb j a i ((upH (upH f k {f k with A:=tk n qa,B:=tk n qb,X:=.slice AX (tl n qa).length cX,Y:=.slice AY (tl n qb).length cY}) k {(upH f k {f k with A:=tk n qa,B:=tk n qb,X:=.slice AX (tl n qa).length cX,Y:=.slice AY (tl n qb).length cY}) k with o:=jG (l.map Prod.snd) j-a k}) i)):=af λi hi=>by
       by_cases e:i=k
       ·rw[e]
        have h1:k<(l.map Prod.snd).length/\((l.map Prod.snd)[k]?.map Sd.df)≠some true:=⟨hml,by rw[hm];simp⟩;simp only[upH,dG];exact⟨by rw[au h1],by rw[au h1],by rw[au h1];exact oX5.o,by rw[au h1];exact oY5.o,by rw[au ⟨hml,by omega⟩]⟩
       ·simp only[upH,ai e]
        exact H5.o i (by omega)
      have HZ2:Hid (∀i,k+1<=i->(upH (upH f k {f k with A:=tk n qa,B:=tk n qb,X:=.slice AX (tl n qa).length cX,Y:=.slice AY (tl n qb).length cY}) k {(upH f k {f k with A:=tk n qa,B:=tk n qb,X:=.slice AX (tl n qa).length cX,Y:=.slice AY (tl n qb).length cY}) k with o:=jG (l.map Prod.snd) j-a k}) i=hdz):=af λi hi=>by unfold upH;(repeat rw[ai (by omega)]);exact hZ'.o i hi
      clear R4 hA4 hB4 g4 hS4 O5
      (try go_wp2_with fail)
      go_region_with (first
       |(go_at_call 157;refine hWx.o.mono ?_;rintro e w5 ⟨rfl,rfl⟩)
       |fail)
      all_goals
       go_wp2_with fail;go_roundw
       case rel=>exact⟨k+1,_,by omega,by go_num,R5.o,HF,HZ2,hA5.o,hB5.o,hS5.o⟩
       case measure=>simp[intOf];omega
     ·rw[hdf]at n2 hm
      simp only[hdf]at *;go_wp2_with fail;generalize wr.alloc (.cells #[.slice A0 s0.n c0,↑s0.at_,↑true] 224)=w4 at *;have hA4:=hAx;have hB4:=hBx;have hS4:w.heap.size+1+1<=w4.heap.size:=by omega
      have R4:=af hRx;clear hRx hAx hBx;obtain⟨-,-,-,-,g4⟩:=(HC f k (by omega)).o;have z4:=R4.o.cell (k*5+4) g4;have f4:=R4.o.frozen (k*5+4);have zA:=hA4.cell k (l7 a k (by omega));have tt:=HT.o k;have hWx:=hWn w4.drew hB4.drew;have R5:=af (((R4.o.drew).set (k*5+4) ↑(jG (l.map Prod.snd) j-a k:Int)).eq (HSO f k (by omega) (jG (l.map Prod.snd) j-a k)).o);have O5:=af ((aE (w.heap.size+1) w4).drew.set (k*5+4) ↑(jG (l.map Prod.snd) j-a k:Int));have H5:Hid (∀i,i<k->jH (w4.drew.setCell (w.heap.size+1,k*5+4) ↑(jG (l.map Prod.snd) j-a k:Int)) (w.heap.size+1+1) (l.map Prod.snd) n qa qb j a i (f i)):=af λi hi=>(hHx.o i hi).only O5.o (by omega);have hA5:=af (hA4.only O5.o (by omega));have hB5:=af (hB4.trans (O5.o.below (by omega) (by omega)));have hS5:=af (aW hS4 O5.o.size);have HF:Hid (∀i,i<k+1->jH (w4.drew.setCell (w.heap.size+1,k*5+4) ↑(jG (l.map Prod.snd) j-a k:Int)) (w.heap.size+1+1) (l.map Prod.snd) n qa qb j a i ((upH f k {f k with o:=jG (l.map Prod.snd) j-a k}) i)):=af λi hi=>by
       by_cases e:i=k
       ·rw[e]
        have h1:¬(k<(l.map Prod.snd).length/\((l.map Prod.snd)[k]?.map Sd.df)≠some true):=λh=>h.2 hm;simp only[upH,dG];rw[hZk.o];exact⟨by rw[ai h1];rfl,by rw[ai h1];rfl,by rw[ai h1];exact bR,by rw[ai h1];exact bR,by rw[au ⟨hml,by omega⟩]⟩
       ·simp only[upH,ai e]
        exact H5.o i (by omega)
      have HZ2:Hid (∀i,k+1<=i->(upH f k {f k with o:=jG (l.map Prod.snd) j-a k}) i=hdz):=af λi hi=>by unfold upH;(repeat rw[ai (by omega)]);exact hZ'.o i hi
      clear R4 hA4 hB4 g4 hS4 O5
      (try go_wp2_with fail)
      go_region_with (first
       |(go_at_call 157;refine hWx.o.mono ?_;rintro e w5 ⟨rfl,rfl⟩)
       |fail)
      all_goals
       go_wp2_with fail;go_roundw
       case rel=>exact⟨k+1,_,by omega,by go_num,R5.o,HF,HZ2,hA5.o,hB5.o,hS5.o⟩
       case measure=>simp[intOf];omega
    ·obtain rfl:k=l.length:=by omega
     have r1:decide ((l.length:Int)<(l.length:Nat))=false:=by simp
     have hF:Hid (∀i,i<8->jH wr (w.heap.size+1+1) (l.map Prod.snd) n qa qb j a i (f i)):=af λi hi=>by
      by_cases h:i<l.length
      ·exact hH.o i h
      ·have h':¬i<(l.map Prod.snd).length:=by simpa using h
       rw[hZ.o i (by omega)];exact⟨by simp[hdz,h],by simp[hdz,h],by simp[hdz,h];exact bR,by simp[hdz,h];exact bR,by simp[hdz,h]⟩
     have HRb:=af hR;have hcs:wr.rangeAt (w.heap.size+1) 0 (hdC f).toList:=λq v hv=>by rw[bU];exact HRb.o.cell q (by simpa using hv)
     have hth:wr.there (w.heap.size+1) 0 (hdC f).size:=λq hq=>⟨by rw[bU,HRb.o.cell q (cm hq)];rfl,HRb.o.frozen _⟩;have hin:=rm;have hun:=Tryz.underlying154;have hone:=af (lH f (λi hi=>by obtain⟨A,c,h,-⟩:=(hF.o i hi).X.sees.at_;exact⟨A,_,c,h⟩) (λi hi=>by obtain⟨A,c,h,-⟩:=(hF.o i hi).Y.sees.at_;exact⟨A,_,c,h⟩));have HB:=af hB;have HSz:=af hS;clear hR hA hH hZ HX hWn hRd hB HC HS4 HSO hlt hk HT;go_wp2_with (first
      |(refine iF rfl _ _ rfl _ _ rfl _ _ hcs hun rfl hin ?_)
      |(refine gU rfl _ _ _ rfl _ _ (hdC f) rfl rfl hth hin hone.o ?_))
     refine aK (v:=.agg (hdC f)) ?_ rfl ⟨f,rfl,?_,?_⟩
     ·rw[j4 rfl]
      have hld:=ig (P:=Tryz.prog) (wr.setCells (w.heap.size+1) 0 (hdC f).toList) (w.heap.size+1) 0 154 (hdC f).toList _ (cO _ _ _ _ (by simpa using hth)) hun rfl hin;simp only[fT]at hld;show((asAddr (.pointer (some ⟨w.heap.size+1,0,none⟩))).run Tryz.prog _).andThen _=_;simp only[asAddr,iA,fR];exact hld
     ·intro i hi
      exact jH.base (jH.only (g:=w.heap.size+1) (hF.o i hi) (Only.setCells _ _ (aE _ _)) (by omega)) (by omega)
     ·exact HB.o.trans (Only.below (g:=w.heap.size+1) (Only.setCells _ _ (aE _ _)) (by omega) (by have:=HSz.o;omega))
end
end Go.Proofs.YteadkhigkmijiaaGreat
