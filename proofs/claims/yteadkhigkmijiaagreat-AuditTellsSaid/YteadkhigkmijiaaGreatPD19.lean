/- Texts AuF, AuL, AvK, RfN, RfW, AuS in one. -/
import Derived.Deep.RegionHeld3
import Derived.RegionTactic
import Derived.Laws.MakeOwn
import Derived.Test.YteadkhigkmijiaaGreatPD1
import Derived.Test.YteadkhigkmijiaaGreatPD2
import Derived.Test.YteadkhigkmijiaaGreatPD4
import Derived.Test.YteadkhigkmijiaaGreatPD6
import Derived.Test.YteadkhigkmijiaaGreatPD14
import Derived.Test.YteadkhigkmijiaaGreatPD15
import Derived.Test.YteadkhigkmijiaaGreatPD18
set_option linter.all false
namespace Go.Proofs.YteadkhigkmijiaaGreat
section
set_option maxRecDepth 100000
set_option maxHeartbeats 4000000
open Go.RowKit
open Tb (D T)
def bk(l:List D)(k:Nat):Int:=(l.take k).foldl (λm d=>min m d.li) 200
theorem cT(l:List D):bk l 0=200:=rfl
theorem cU(l:List D)(k:Nat)(hk:k<l.length):bk l (k+1)=if(l.getD k default).li<bk l k then(l.getD k default).li else bk l k:=by
 unfold bk;rw[gM,fO,ay,aP hk];show min _ _=_;simp only[fZ,Int.min_def]
 split<;>split<;>omega
theorem mC{t:T}(h:t.is=true):4<=t.ns.length/\t.ns.length<=8:=by
 simp only[T.is,Tb.are,bg,Tb.lC]at h;omega
theorem mT{t:T}(h:t.is=true)(k:Nat)(hk:k<t.ns.length):0<=(t.ns.getD k default).li/\(t.ns.getD k default).li<=200:=by
 simp only[T.is,Tb.are,bg,Tb.lC,Tb.C9]at h;have:=h.1.2.1 k hk;simp only[Tb.ok,bg,Tb.lC]at this;omega
theorem dg{t:T}(h:t.is=true):∀k,k<=t.ns.length->0<=bk t.ns k/\bk t.ns k<=200
 |0,_=>by rw[cT];omega
 |k+1,hk=>by
  have h1:=dg h k (by omega);have h2:=mT h k (by omega);rw[cU _ _ (by omega)]
  split<;>omega
def cP(t:T):Int:=if t.is then bk t.ns t.ns.length+t.ns.length else 0
theorem m5(t:T)(tv:Value)(w:World)(htv:jh w w tv t.ns):
  Calls Tryz.prog 54 #[jW t tv] w λe w'=>e=.returned ↑(cP t)/\Below w w w':=by
 obtain⟨TA,tc,rfl,htc,tD,kI,-⟩:=htv.at_;have hIs:=λW(h:jh W W (.slice TA t.ns.length tc) t.ns)=>af (vT t _ W _ lr h);have cL:=@mC t;have hbd:=@dg t;have her:cP t=if t.is then bk t.ns t.ns.length+t.ns.length else 0:=rfl;rw[her];clear her;obtain⟨ns,dr,wi,lm⟩:=t;simp only at htv hIs cL hbd kI htc;unfold jW at hIs ⊢;simp only at hIs ⊢;have hb0:=(ah w w).alloc lr (.cells #[.slice TA ns.length tc,↑dr,↑wi,↑lm] 31);have hT:=aJ w _ rfl #[.slice TA ns.length tc,↑dr,↑wi,↑lm] 31;have hI:=hIs _ ((htv.below hb0).more (by simp))
 cases his:T.is ⟨ns,dr,wi,lm⟩
 ·rw[his]at hI
  rw[ai (by simp)];clear hIs cL hbd kI
  go_enter Tryz.func54,Tryz.ntmps54
  go_wp2_with fail;refine hI.o.mono ?_;rintro e w1 ⟨rfl,hb⟩;go_wp2;go_ret;exact⟨rfl,hb0.trans (hb.mono hb0.size)⟩
 ·rw[his]at hI
  rw[au rfl];have hn:=cL his;have hbd:=hbd his;have hS:=λk h=>af (cU ns k h);have hZ:=af (cT ns);clear hIs cL his
  go_enter Tryz.func54,Tryz.ntmps54
  go_wp2_with fail;refine hI.o.mono ?_;rintro e w1 ⟨rfl,hb⟩;have hT1:=hT.below hb hT.lt;have hB1:=hb0.trans (hb.mono hb0.size);have t0:=hT1.cell 0 rfl;clear hT hb hb0 hI;go_wp2_with fail;clear t0
  go_loopw [3,12] (λm i wr=>∃k:Nat,k<=ns.length/\i=↑k/\m=↑(bk ns k)/\Blk wr w #[.slice TA ns.length tc,↑dr,↑wi,↑lm] 31/\Below w w wr) (λ_ i _=>ns.length-(intOf i).toNat)
  case atStart=>exact⟨0,by omega,rfl,by rw[hZ.o],hT1,hB1⟩
  case round=>
   clear hT1 hB1;obtain⟨k,hk,rfl,rfl,hT,hB⟩:=hrel;by_cases hlt:k<ns.length
   ·have q1:decide ((k:Int)<(ns.length:Nat))=true:=by simp;omega
    obtain⟨b,off,rfl,hbb,hd⟩:=kI.below hB (by omega);obtain⟨e0,e1,e2,e3⟩:=hd k hlt;have hS:=hS k hlt;generalize bk ns k=M at *;generalize ns.getD k default=d at *;have hBx:=af (hB.alloc hB.size (.cells #[↑d.sy,↑d.inf,↑d.li,↑d.sz] 67));have hTx:=af (hT.alloc (.cells #[↑d.sy,↑d.inf,↑d.li,↑d.sz] 67));clear hd kI hT hB hbd;by_cases hm:d.li<M
    ·rw[au hm]at hS
     have r1:decide (d.li<M)=true:=av hm;go_wp2;go_roundw
     case rel=>exact⟨k+1,by omega,by go_num,by rw[hS.o],hTx.o,hBx.o⟩
     case measure=>simp[intOf];omega
    ·rw[ai hm]at hS
     have r1:decide (d.li<M)=false:=aj hm;go_wp2;go_roundw
     case rel=>exact⟨k+1,by omega,by go_num,by rw[hS.o],hTx.o,hBx.o⟩
     case measure=>simp[intOf];omega
   ·obtain rfl:k=ns.length:=by omega
    have q1:decide ((ns.length:Int)<(ns.length:Nat))=false:=by simp
    have t0:=hT.cell 0 rfl;have hb':=hbd ns.length (by omega);have z1:IntKind.i64.wrap (bk ns ns.length+(ns.length:Int))=bk ns ns.length+(ns.length:Int):=aO _ (by omega);go_wp2;go_ret;exact⟨rfl,hB⟩
theorem eW(n:Nat)(dr:Int)(hn:n<=8)(hd:0<=dr/\dr<=1000)(w:World):
  Calls Tryz.prog 17 #[↑(n:Nat),↑dr] w λe w'=>∃v,e=.returned (jW (jA n dr) v)/\jm w' w v (jQ n)/\Below w w w':=by
 have hsu:=af J7;have hsl:=af lB;have z1:IntKind.i64.wrap (4*dr)=4*dr:=aO _ (by omega);have z2:IntKind.i64.wrap (4*dr+6)=4*dr+6:=aO _ (by omega);have z3:IntKind.i64.wrap (4*dr+9)=4*dr+9:=aO _ (by omega);unfold jA jW;simp only
 go_enter Tryz.func17,Tryz.ntmps17
 have hb0:=((ah w w).alloc lr (.cells #[.slice none 0 0,↑(0:Int),↑(0:Int),↑(0:Int)] 31)).alloc (by simp) (.cells #[.slice none 0 0,↑dr,↑(4*dr+6:Int),↑(4*dr+9:Int)] 31);have hR:=(aJ w _ rfl #[.slice none 0 0,↑(0:Int),↑(0:Int),↑(0:Int)] 31).alloc (.cells #[.slice none 0 0,↑dr,↑(4*dr+6:Int),↑(4*dr+9:Int)] 31);have hT:=aJ (w.alloc (.cells #[.slice none 0 0,↑(0:Int),↑(0:Int),↑(0:Int)] 31)) (w.heap.size+1) (by simp) #[.slice none 0 0,↑dr,↑(4*dr+6:Int),↑(4*dr+9:Int)] 31;go_wp2;generalize(w.alloc (.cells #[.slice none 0 0,↑(0:Int),↑(0:Int),↑(0:Int)] 31)).alloc (.cells #[.slice none 0 0,↑dr,↑(4*dr+6:Int),↑(4*dr+9:Int)] 31)=w0 at *;have hz0:w.heap.size+1<w0.heap.size:=hT.lt
 go_loopw [6] (λi wr=>∃k:Nat,∃v:Value,k<=n/\i=↑k/\jm wr w0 v (jQ k)/\Blk wr (w.heap.size+1) #[v,↑dr,↑(4*dr+6:Int),↑(4*dr+9:Int)] 31/\w0.heap.size<=wr.heap.size/\Below (w.heap.size+1) w0 wr) (λi _=>n-(intOf i).toNat)
 case atStart=>exact⟨0,_,by omega,rfl,jm.nil,hT,aR _,ah _ _⟩
 case round=>
  obtain⟨k,v,hk,rfl,hown,hblk,hz,hb⟩:=hrel;by_cases hlt:k<n
  ·have q1:decide ((k:Int)<(n:Nat))=true:=by simp;omega
   have q2:decide ((k:Int)<8)=true:=by simp;omega
   have t0:=hblk.cell 0 rfl;have tf:=hblk.frozen 0;have hlk:(jQ k).length<=100000:=by rw[lB];omega
   have hgv:v.ownBlock≠some (w.heap.size+1):=λe=>by have:=(hown.lt _ e).1;omega
   have key:∀b:Bool,qK k=⟨b,((k:Int)%3==0),20+3*((k:Int)*5%8),4⟩->∀(v2:Value)(w2:World),w2.ownsRow w0 67 4 v2 ((jQ k).length+1) ((jQ k).flatMap dc++dc ⟨b,((k:Int)%3==0),20+3*((k:Int)*5%8),4⟩)->
     Ext (wr.alloc (.cells #[↑b,↑((k:Int)%3==0),↑(20+3*((k:Int)*5%8):Int),↑(4:Int)] 67)) w2 v v2->∃g2 c2,v2=.slice (some ⟨g2,0,none⟩) (k+1) c2/\Blk w2 (w.heap.size+1) #[v,↑dr,↑(4*dr+6:Int),↑(4*dr+9:Int)] 31/\
     jm (w2.setCell (w.heap.size+1,0) (.slice (some (g2,0)) (k+1) c2)) w0 v2 (jQ (k+1))/\Blk (w2.setCell (w.heap.size+1,0) (.slice (some (g2,0)) (k+1) c2)) (w.heap.size+1) #[.slice (some (g2,0)) (k+1) c2,↑dr,↑(4*dr+6:Int),↑(4*dr+9:Int)] 31/\
     w0.heap.size<=(w2.setCell (w.heap.size+1,0) (.slice (some (g2,0)) (k+1) c2)).heap.size/\Below (w.heap.size+1) w0 (w2.setCell (w.heap.size+1,0) (.slice (some (g2,0)) (k+1) c2)):=λb hsd v2 w2 ho2 hx2=>by
    rw[<-hsd]at ho2;have ho3:jm w2 w0 v2 (jQ (k+1)):=by
     rw[hsu.o];exact jm.snoc ho2
    have hxx:=((Ext.refl wr v).alloc (.cells #[↑b,↑((k:Int)%3==0),↑(20+3*((k:Int)*5%8):Int),↑(4:Int)] 67)).trans hx2;have hb2:=hb.trans (hxx.toBelow (B:=w.heap.size+1) (by omega) (λj hj=>by have:=(hown.lt j hj).1;omega));have F4:=hblk.ext hxx hgv;have hl1:=hsl.o (k+1);obtain⟨g2,c2,rfl,hg2⟩:∃g2 c2,v2=.slice (some ⟨g2,0,none⟩) (k+1) c2/\w0.heap.size<=g2:=by
     rcases ho3.form with⟨-,h0⟩|⟨g2,c2,h,h1,-⟩
     ·omega
     ·exact⟨g2,c2,by rw[h,hl1],h1⟩
    refine⟨g2,c2,rfl,F4,ho3.setOther (w.heap.size+1,0) _ (by simp[Value.ownBlock];omega),by simpa using F4.set 0 (.slice (some (g2,0)) (k+1) c2),by have:=hxx.size;simp only[World.setCell,Array.size_modify];omega,aU (p:=(w.heap.size+1,0)) hb2 lr _⟩
   have key:=λb h=>af (key b h);have hSD:Hid (∀b,((b=true/\(k:Int)<4)\/(b=((k:Int)%2==0)/\¬(k:Int)<4))->qK k=⟨b,((k:Int)%3==0),20+3*((k:Int)*5%8),4⟩):=af λb hb=>by
    unfold qK;rcases hb with⟨rfl,h⟩|⟨rfl,h⟩<;>simp[h]
   by_cases q4:(k:Int)<4
   ·have K:=key true (hSD.o true (.inl ⟨rfl,q4⟩))
    have hAt:=FL wr ⟨true,((k:Int)%3==0),20+3*((k:Int)*5%8),4⟩ 67 wr.heap.size rfl;go_wp2_with (at_builtin;go_loud (refine og _ rfl (.tmp 25) (.tmp 42) 29 rfl w0 67 _ 4 24 wE rfl (by omega) Tryz.underlying29 v (jQ k).length _ (hown.alloc _) rfl _ 1 _ rfl (FK _ ⟨true,((k:Int)%3==0),20+3*((k:Int)*5%8),4⟩ _ _ _ rfl hAt) (by simp;omega) (uM hlk).1 (uM hlk).2 ?_));intro v2 w2 ho2 hx2;obtain⟨g2,c2,rfl,B1,O1,B2,Z1,W1⟩:=K.o v2 w2 ho2 hx2;have u0:=B1.cell 0 rfl;have uf:=B1.frozen 0;clear t0 tf ho2 hx2 hAt B1 K key;go_wp2;go_roundw
    case rel=>exact⟨k+1,_,by omega,by go_num,O1,B2,Z1,W1⟩
    case measure=>simp[intOf];omega
   ·have K:=key _ (hSD.o _ (.inr ⟨rfl,q4⟩))
    have hAt:=FL wr ⟨((k:Int)%2==0),((k:Int)%3==0),20+3*((k:Int)*5%8),4⟩ 67 wr.heap.size rfl;go_wp2_with (at_builtin;go_loud (refine og _ rfl (.tmp 25) (.tmp 42) 29 rfl w0 67 _ 4 24 wE rfl (by omega) Tryz.underlying29 v (jQ k).length _ (hown.alloc _) rfl _ 1 _ rfl (FK _ ⟨((k:Int)%2==0),((k:Int)%3==0),20+3*((k:Int)*5%8),4⟩ _ _ _ rfl hAt) (by simp;omega) (uM hlk).1 (uM hlk).2 ?_));intro v2 w2 ho2 hx2;obtain⟨g2,c2,rfl,B1,O1,B2,Z1,W1⟩:=K.o v2 w2 ho2 hx2;have u0:=B1.cell 0 rfl;have uf:=B1.frozen 0;clear t0 tf ho2 hx2 hAt B1 K key;go_wp2;go_roundw
    case rel=>exact⟨k+1,_,by omega,by go_num,O1,B2,Z1,W1⟩
    case measure=>simp[intOf];omega
  ·obtain rfl:k=n:=by omega
   have q1:decide ((k:Int)<(k:Nat))=false:=by simp
   obtain⟨A',c2,rfl,-⟩:=hown.sees.at_;have hR2:=hR.below hb (by omega);have t0:=hblk.cell 0 rfl;have t1:=hblk.cell 1 rfl;have t2:=hblk.cell 2 rfl;have t3:=hblk.cell 3 rfl;have r0:=hR2.cell 0 rfl;have r1:=hR2.cell 1 rfl;have r2:=hR2.cell 2 rfl;have r3:=hR2.cell 3 rfl;have f0:=hR2.frozen 0;have f1:=hR2.frozen 1;have f2:=hR2.frozen 2;have f3:=hR2.frozen 3;have hvR:(Value.slice A' (jQ k).length c2).ownBlock≠some w.heap.size:=λe=>by have:=(hown.lt _ e).1;omega
   have hbr:=hb0.trans (hb.mono (by omega));clear hR hT;go_wp2_with fail;refine aK (v:=.agg #[.slice A' (jQ k).length c2,↑dr,↑(4*dr+6:Int),↑(4*dr+9:Int)]) ?_ rfl ⟨_,rfl,?_,?_⟩
   ·rw[j4 rfl]
    go_simp
   ·refine jm.base (Bs:=w0.heap.size) ?_ (by omega)
    (repeat' (first|exact hown|exact hvR|(with_reducible refine jm.setOther ?_ _ _ ?_)))
   ·(repeat' (first|exact hbr|(with_reducible refine aU ?_ ?_ _)|exact aR _))
theorem sR(v:Value)(w:World)(htv:jh w w v (jQ 4))(u:Value)(r:Bool)(hu:(u=.slice none 0 0/\r=true)\/(∃b,u=.slice (some ⟨b,0,none⟩) 1 1/\r=false/\b<w.heap.size/\∀W,Below w w W->W.cell? ⟨b,0,none⟩=some ↑(1:Int)/\W.cell? ⟨b,1,none⟩=some ↑(0:Int)/\W.cell? ⟨b,2,none⟩=some ↑(0:Int)/\W.cell? ⟨b,3,none⟩=some (.slice none 0 0)/\W.cell? ⟨b,4,none⟩=some (.slice none 0 0))):
  Calls Tryz.prog 53 #[.agg #[v,↑(1:Int),↑(10:Int),↑(13:Int)],u] w λe w'=>e=.returned ↑r/\Below w w w':=by
 obtain⟨TA,tc,rfl,htc,-⟩:=htv.at_;have hIs:=λW(h:jh W W (.slice TA 4 tc) (jQ 4))=>af (vT (jA 4 1) _ W _ lr h);rw[show T.is (jA 4 1)=true by decide+kernel]at hIs;unfold jW jA at hIs;simp only at hIs;have e4:(jQ 4).length=4:=rfl;rw[e4]at *;have hb0:=(ah w w).alloc lr (.cells #[.slice TA 4 tc,↑(1:Int),↑(10:Int),↑(13:Int)] 31);have hT:=aJ w _ rfl #[.slice TA 4 tc,↑(1:Int),↑(10:Int),↑(13:Int)] 31;have hI:=hIs _ ((htv.below hb0).more (by simp));have hz0:=hT.lt;clear hIs htv htc;rcases hu with⟨rfl,rfl⟩|⟨b,rfl,rfl,hb,hd⟩
 ·go_enter Tryz.func53,Tryz.ntmps53
  go_wp2_with fail;refine hI.o.mono ?_;rintro e w1 ⟨rfl,hb⟩;have hB1:=af (hb0.trans (hb.mono hb0.size));have hT1:=hT.below hb hz0;have t0:=hT1.cell 0 rfl;clear hT hb hI hb0 hz0;go_wp2_with fail;clear t0
  go_loopw [6,19] (λq i wr=>q=↑(12:Int)/\i=↑(0:Int)/\Below w w wr) (λ_ i _=>0)
  case atStart=>exact⟨rfl,rfl,hB1.o⟩
  case round=>
   obtain⟨rfl,rfl,hB⟩:=hrel;go_wp2;go_ret;exact⟨rfl,hB⟩
 ·go_enter Tryz.func53,Tryz.ntmps53
  have hd:=af hd;go_wp2_with fail;refine hI.o.mono ?_;rintro e w1 ⟨rfl,hb⟩;have hB1:=af (hb0.trans (hb.mono hb0.size));have hT1:=hT.below hb hz0;have t0:=hT1.cell 0 rfl;clear hT hb hI hb0 hz0;go_wp2_with fail;clear t0
  go_loopw [6,19] (λq i wr=>q=↑(12:Int)/\i=↑(0:Int)/\Blk wr w #[.slice TA 4 tc,↑(1:Int),↑(10:Int),↑(13:Int)] 31/\Below w w wr) (λ_ i _=>0)
  case atStart=>exact⟨rfl,rfl,hT1,hB1.o⟩
  case round=>
   obtain⟨rfl,rfl,hT,hB⟩:=hrel;obtain⟨c0,c1,c2,c3,c4⟩:=hd.o _ hB;have hBx:=af (hB.alloc hB.size (.cells #[↑(1:Int),↑(0:Int),↑(0:Int),.slice none 0 0,.slice none 0 0] 44));clear hB;go_wp2;go_ret;exact⟨rfl,hBx.o⟩
theorem nr(w:World):Calls Tryz.prog 22 #[] w λe w'=>e=.returned ↑true/\Below w w w':=by
 have hs:=af (show Calls Tryz.prog 17 #[↑(4:Int),↑(1:Int)] w λe w'=>∃v,e=.returned (.agg #[v,↑(1:Int),↑(10:Int),↑(13:Int)])/\jm w' w v (jQ 4)/\Below w w w' from eW 4 1 (by omega) (by omega) w);have e3:cP (jA 4 1)=24:=by decide+kernel
 have hF:=λW v(h:jh W W v (jQ 4))u r hu=>af (sR v W h u r hu);have hL:=λW v(h:jh W W v (jQ 4))=>af (show Calls Tryz.prog 54 #[.agg #[v,↑(1:Int),↑(10:Int),↑(13:Int)]] W λe w'=>e=.returned ↑(24:Int)/\Below W W w' by
  have:=m5 (jA 4 1) v W h;rw[e3]at this;exact this)
 have hH:Hid (∀W:World,Calls Tryz.prog 52 #[.slice none 0 0] W λe w'=>e=.returned ↑(0:Int)/\Below W W w'):=af (by
  intro W;clear hs e3 hF hL
  go_enter Tryz.func52,Tryz.ntmps52
  go_wp2
  go_loopw [3,10] (λm i wr=>i=↑(0:Int)/\m=↑(0:Int)/\Below W W wr) (λ_ i _=>0)
  case atStart=>exact⟨rfl,rfl,ah _ _⟩
  case round=>
   obtain⟨rfl,rfl,hB⟩:=hrel;go_wp2;go_ret;exact⟨rfl,hB⟩)
 clear e3
 go_enter Tryz.func22,Tryz.ntmps22
 go_wp2_with fail;refine hs.o.mono ?_;rintro e w1 ⟨v,rfl,ho,hb1⟩;have hv1:=af ho.sees;obtain⟨VA,vc,rfl,-⟩:=ho.sees.at_;have hlen:(jQ 4).length=4:=rfl;rw[hlen]at *;clear ho hs;have hT:=aJ w1 w1 rfl #[.slice VA 4 vc,↑(1:Int),↑(10:Int),↑(13:Int)] 31;have hb2:=af (hb1.alloc hb1.size (.cells #[.slice VA 4 vc,↑(1:Int),↑(10:Int),↑(13:Int)] 31));have hv2:=af ((hv1.o.below ((ah _ w1).alloc lr (.cells #[.slice VA 4 vc,↑(1:Int),↑(10:Int),↑(13:Int)] 31))).more (by simp:_<=(w1.alloc (.cells #[.slice VA 4 vc,↑(1:Int),↑(10:Int),↑(13:Int)] 31)).heap.size));go_wp2_with fail;refine(hH.o _).mono ?_;generalize w1.alloc (.cells #[.slice VA 4 vc,↑(1:Int),↑(10:Int),↑(13:Int)] 31)=w2 at *;rintro e w3 ⟨rfl,b3⟩;have hT3:=hT.below b3 hT.lt;have hv3:=af ((hv2.o.below b3).more b3.size);have hB3:=af (hb2.o.trans (b3.mono hb2.o.size));have t0:=hT3.cell 0 rfl;have t1:=hT3.cell 1 rfl;have t2:=hT3.cell 2 rfl;have t3:=hT3.cell 3 rfl;clear hT b3 hv1 hv2 hb2 hb1 hH;go_wp2_with fail;refine(hF _ _ hv3.o _ true (.inl ⟨rfl,rfl⟩)).o.mono ?_;rintro e w4 ⟨rfl,b4⟩;have hT4:=hT3.below b4 hT3.lt;have hv4:=af ((hv3.o.below b4).more b4.size);have hB4:=af (hB3.o.trans (b4.mono hB3.o.size));clear t0 t1 t2 t3 hT3 hv3 hB3 b4;have t0:=hT4.cell 0 rfl;have t1:=hT4.cell 1 rfl;have t2:=hT4.cell 2 rfl;have t3:=hT4.cell 3 rfl;go_wp2_with fail;refine(hL _ _ hv4.o).o.mono ?_;rintro e w5 ⟨rfl,b5⟩;have hT5:=hT4.below b5 hT4.lt;have hv5:=af ((hv4.o.below b5).more b5.size);have hB5:=af (hB4.o.trans (b5.mono hB4.o.size));clear t0 t1 t2 t3 hT4 hv4 hB4 b5 hL;have t0:=hT5.cell 0 rfl;have t1:=hT5.cell 1 rfl;have t2:=hT5.cell 2 rfl;have t3:=hT5.cell 3 rfl;have hA:=aJ w5 w5 rfl #[↑(1:Int),↑(0:Int),↑(0:Int),.slice none 0 0,.slice none 0 0] 44;have hA:=af (λW(h:Below (w5.alloc (.cells #[↑(1:Int),↑(0:Int),↑(0:Int),.slice none 0 0,.slice none 0 0] 44)).heap.size _ W)=>have h:=hA.below h hA.lt;(⟨h.cell 0 rfl,h.cell 1 rfl,h.cell 2 rfl,h.cell 3 rfl,h.cell 4 rfl⟩:_/\_/\_/\_/\_));have hv6:=af ((hv5.o.below ((ah _ w5).alloc lr (.cells #[↑(1:Int),↑(0:Int),↑(0:Int),.slice none 0 0,.slice none 0 0] 44))).more (by simp:_<=(w5.alloc (.cells #[↑(1:Int),↑(0:Int),↑(0:Int),.slice none 0 0,.slice none 0 0] 44)).heap.size));have hB6:=af (hB5.o.alloc hB5.o.size (.cells #[↑(1:Int),↑(0:Int),↑(0:Int),.slice none 0 0,.slice none 0 0] 44));clear hT5 hv5 hB5;go_wp2_with fail;refine(hF _ _ hv6.o _ false (.inr ⟨_,rfl,rfl,by simp,hA.o⟩)).o.mono ?_;rintro e w7 ⟨rfl,b7⟩;have hB7:=af (hB6.o.trans (b7.mono hB6.o.size));clear hv6 hB6 b7 hF hA;go_wp2_with fail;go_ret;exact⟨rfl,hB7.o⟩
end
section
open Go.RowKit
open Tb (D T)
theorem Oe(n a b:Int)(w:World):Calls Tryz.prog 91 #[↑n,↑a,↑b] w λe w'=>e=.returned ↑(Tb.wi n a b)/\w=w':=by
 unfold Tb.wi;by_cases h:a<=n
 all_goals
  go_enter Tryz.func91,Tryz.ntmps91
  go_wp2;go_ret;exact⟨by simp[*]<;>omega,rfl⟩
def uj(q:R4):Bool:=Tb.wi q.n 0 7&&Tb.wi q.lo 0 255&&Tb.wi q.hi q.lo 255&&Tb.wi q.st 0 65535
theorem Od(q:R4):uj q=decide q.may:=by
 have h:uj q=true↔q.may:=by
  unfold uj R4.may;simp only[bg,Tb.lC,and_assoc]
 rw[bY,h];exact decide_eq_true_iff.symm
theorem Oc{P:Program}(t e:TypeId)(i:TypeInfo)(z:Value)(ht:P.underlying t=some (.slice e))(hi:P.info? e=some i)(hz:i.zero=some z)
  (kl kc:IntKind) (n c:Nat) (hnc:n<=c) (hbytes:i.bytes*c<=281474976710656) (h63:c<=9223372036854775807) (w:World):
  (Instr.makeSlice t (.int kl (n:Int)) (.int kc (c:Int))).run P w=.ok (.slice (some (w,0)) n c) (w.alloc (.cells (madeCells z.cells (c*i.size)) e)):=by
 have hb:(i.bytes:Int)*(c:Int)<=281474976710656:=by
  have h:((i.bytes*c:Nat):Int)<=281474976710656:=by omega
  rwa[ic]at h
 have hr:=run_make (P:=P) w t e i z ht hi hz kl kc n c (by omega) (by omega) hb (by omega);simp only[aQ]at hr;exact hr
end
section
open Go.RowKit
theorem Jk:(Tryz.prog.info? 77).map (λi=>(i.zero,i.size,i.bytes))=some (some (.pointer none),1,8):=by kernel_rfl
theorem Jj(w:World)(t:TypeId)(b g:Nat)(hb:b=w.heap.size):Src (w.alloc (.cells #[↑(g,0)] t)) (.slice (some (b,0)) 1 1) 1 1 [↑(g,0)]:=by
 refine .inr ⟨_,1,rfl,rfl,λj x hj=>?_,λx hx=>?_⟩
 ·match j,hj with
  |0,hj=>simp at hj;subst hj;show(w.alloc _).cell? (b,0)=_;rw[aZ _ _ _ _ hb];rfl
  |j+1,hj=>simp at hj
 ·rw[bD.1 hx];rfl
structure MW(S x k:Nat)(sp v:Value)(ps:List Value)(X:Array Value)(w0 W:World):Prop where
 blk:Blk W x #[v,sp,↑(0:Int)] 74
 lst:W.ownsRow (x+1) 77 1 v k ps
 tab:Blk W S X 31
 lo:S<x
 bw:Below S w0 W
theorem MW.below{S x k:Nat}{sp v:Value}{ps:List Value}{X:Array Value}{w0 W W':World}(h:MW S x k sp v ps X w0 W)(b:Below W W W'):MW S x k sp v ps X w0 W':=
 ⟨h.blk.below b h.blk.lt,cB (row:=none) h.lst ⟨b.os,b.tape,b.output,b.size,λk hk _=>b.block k hk⟩ (by cases v.ownBlock<;>simp),h.tab.below b h.tab.lt,h.lo,h.bw.trans (b.mono (by have:=h.tab.lt;omega))⟩
end
section
set_option maxRecDepth 100000
set_option maxHeartbeats 4000000
open Go.RowKit
theorem m6(v:Value)(l:List Ac)(w:World)(hs:j7 w w.heap.size v l):
  Calls Tryz.prog 16 #[v] w λe w'=>∃q:Bool,e=.returned (.bool q)/\(q=true->l.length<400)/\w'=w:=by
 obtain⟨A,c,rfl,hlen,hc,hcell⟩:=hs.at_;unfold maxLen at hc;clear hs
 go_enter Tryz.func16,Tryz.ntmps16
 go_wp2
 go_loopw [3] (λi wr=>∃k:Nat,k<=l.length/\i=.int .i64 k/\wr=w) (λi _=>l.length-(intOf i).toNat)
 case atStart=>exact⟨0,by omega,rfl,rfl⟩
 case round=>
  obtain⟨k,hk,rfl,rfl⟩:=hrel;by_cases hlt:k<l.length
  ·have q1:decide ((k:Int)<(l.length:Nat))=true:=by simp;omega
   by_cases m7:k<400
   ·have q2:decide ((k:Int)<400)=true:=by simp;omega
    have q2n:decide (k<400)=true:=by simp;omega
    obtain⟨b,off,rfl,hbb,hd⟩:=hcell (by omega);obtain⟨c0,c1,c2,⟨vd,c3,sd⟩,vf,c4,sf⟩:=hd k hlt;generalize l.getD k default=x at *;obtain⟨Ad,cd,rfl,-,hcd,-⟩:=sd.at_;obtain⟨Af,cf,rfl,hl0,hcf,hff⟩:=sf.at_;unfold maxLen at hcf hcd;clear c0 c1 c2 sd sf hd hcell;by_cases TT:100<x.d.length
    ·have q3:decide ((100:Int)<(x.d.length:Nat))=true:=av (by omega)
     go_wp2;go_ret;exact⟨false,rfl,(λh=>(by cases h)),rfl⟩
    ·have q3:decide ((100:Int)<(x.d.length:Nat))=false:=aj (by omega)
     by_cases h20:20<x.f.length
     ·have q4:decide ((20:Int)<(x.f.length:Nat))=true:=av (by omega)
      go_wp2;go_ret;exact⟨false,rfl,(λh=>(by cases h)),rfl⟩
     ·have q4:decide ((20:Int)<(x.f.length:Nat))=false:=aj (by omega)
      go_wp2
      rename World=>w1
      go_loopw [4] (λi wr=>∃j:Nat,j<=x.f.length/\i=.int .i64 j/\wr=w1) (λi _=>x.f.length-(intOf i).toNat)
      case atStart=>exact⟨0,by omega,rfl,rfl⟩
      case round=>
       obtain⟨j,hj,rfl,rfl⟩:=hrel;by_cases hlj:j<x.f.length
       ·have r1:decide ((j:Int)<(x.f.length:Nat))=true:=by simp;omega
        obtain⟨g,go,rfl,hgb,hg⟩:=hff (by omega);obtain⟨g0,g1,g2,u,g3,hu⟩:=hg j hlj;obtain⟨A',cc,rfl,-,hcc,-⟩:=hu.at_;unfold maxLen at hcc;clear g0 g1 g2 hg hff;generalize(x.f.getD j default).d.length=nd at *;by_cases h1:100<nd
        ·have r2:decide ((100:Int)<(nd:Nat))=true:=av (by omega)
         have r2n:decide (100<nd)=true:=av h1;go_wp2;go_ret;exact⟨false,rfl,(λh=>(by cases h)),rfl⟩
        ·have r2:decide ((100:Int)<(nd:Nat))=false:=aj (by omega)
         have r2n:decide (100<nd)=false:=aj h1;go_wp2;go_roundw
         case rel=>exact⟨j+1,by omega,by go_num,trivial⟩
         case measure=>simp[intOf];omega
       ·obtain rfl:j=x.f.length:=by omega
        have r1:decide ((x.f.length:Int)<(x.f.length:Nat))=false:=by simp
        go_wp2;go_roundw
        case rel=>exact⟨k+1,by omega,by go_num,trivial⟩
        case measure=>simp[intOf];omega
   ·have q2:decide ((k:Int)<400)=false:=by simp;omega
    have q2n:decide (k<400)=false:=by simp;omega
    have q3:decide ((l.length:Int)<400)=false:=by simp;omega
    have q3n:decide (l.length<400)=false:=by simp;omega
    go_wp2;go_ret;exact⟨false,rfl,(λh=>(by cases h)),rfl⟩
  ·obtain rfl:k=l.length:=by omega
   have q1:decide ((l.length:Int)<(l.length:Nat))=false:=by simp
   generalize hn:l.length=n at *;by_cases m7:n<400
   ·have q3:decide ((n:Int)<400)=true:=by simp;omega
    have q3n:decide (n<400)=true:=by simp;omega
    go_wp2;go_ret;exact⟨true,rfl,(λ_=>(by omega)),rfl⟩
   ·have q3:decide ((n:Int)<400)=false:=by simp;omega
    have q3n:decide (n<400)=false:=by simp;omega
    go_wp2;go_ret;exact⟨false,rfl,(λh=>(by cases h)),rfl⟩
end
end Go.Proofs.YteadkhigkmijiaaGreat
