/- Texts TbD, TbE, TbF, TbG, TbH, Blk, TbJ, TbK, TbL, TlMath, TlA, AlR in one. -/
import Derived.BigQuiet
import Derived.Laws.ResultCell
import Derived.BigRegion
import Derived.Test.YteadkhigkmijiaaGreatPD1
import Derived.Test.YteadkhigkmijiaaGreatPD2
import Derived.Test.YteadkhigkmijiaaGreatPD3
import Derived.Test.YteadkhigkmijiaaGreatPD4
set_option linter.all false
namespace Go.Proofs.YteadkhigkmijiaaGreat
section
set_option maxRecDepth 100000
set_option maxHeartbeats 2000000
open Go.RowKit
open Tb (D T)
structure Rf(w w0:World)(x0 x1 x2 x3:Value):Prop where
 size:w0.heap.size=w.heap.size+1
 below:Below w w w0
 cell:∀W,Below w0 w0 W->w.heap.size<W.heap.size/\W.cell? (w,0)=some x0/\W.cell? (w,1)=some x1/\W.cell? (w,2)=some x2/\W.cell? (w,3)=some x3
theorem Rh{W w1:World}{B:Nat}(hb:Below B W w1):∀b o,b<B->w1.cell? ⟨b,o,none⟩=W.cell? ⟨b,o,none⟩:=λb o h=>hb.cell (p:=⟨b,o,none⟩) h
theorem rL(w:World)(x0 x1 x2 x3:Value)(t:TypeId):Rf w (w.alloc (.cells #[x0,x1,x2,x3] t)) x0 x1 x2 x3:=by
 refine⟨by simp,(ah _ _).alloc lr _,λW hb=>?_⟩;have hz:=hb.size;have hc:=Rh hb;simp only[gy]at hz;refine⟨by omega,?_,?_,?_,?_⟩<;>(rw[hc _ _ (by simp),aZ _ _ _ _ rfl];rfl)
theorem Ri(A:Option Addr)(c:Nat)(l:List D)(w:World)(hs:lq w w A l)(hlen:l.length<=c)(hc:c<=maxLen):
  Calls Tryz.prog 84 #[.slice A l.length c] w λe w'=>e=.returned ↑(Tb.are l)/\Below w w w':=by
 have hin:=λn a b W=>af (FC n a b W);have hli:=λk(_:k<l.length)n W(hb:Below w w W)=>Rc A c (l.take k) n W;have hc':=hc;unfold maxLen at hc;unfold Tb.are
 cases hn:Tb.wi l.length 4 8
 ·have h1:=af hn
  clear hn
  go_enter Tryz.func84,Tryz.ntmps84
  go_wp2_with fail;refine(hin _ _ _ _).o.mono ?_;rintro e w1 ⟨rfl,rfl⟩;rw[h1.o];go_wp2;go_ret;exact⟨by simp,ah _ _⟩
 ·have h1:=af hn
  have hn8:l.length<=8:=by have:=(Tb.lC _ _ _).1 hn;omega
  have hn4:4<=l.length:=by have:=(Tb.lC _ _ _).1 hn;omega
  clear hn
  go_enter Tryz.func84,Tryz.ntmps84
  go_wp2_with fail;refine(hin _ _ _ _).o.mono ?_;rintro e w1 ⟨rfl,rfl⟩;rw[h1.o];go_wp2;have hS:=af (Tb.FH l);have hbad:=λk hk h=>af (Tb.FI (l:=l) (k:=k) hk h);have hsy:=af (Tb.x9 l)
  go_loopw [3,12] (λs i wr=>∃k:Nat,k<=l.length/\i=↑k/\s=↑(Tb.syn l k)/\Hid (Tb.oks l k=true)/\Below w w wr) (λ_ i _=>l.length-(intOf i).toNat)
  case atStart=>exact⟨0,by omega,rfl,rfl,rfl,ah _ _⟩
  case round=>
   obtain⟨k,hk,rfl,rfl,hok,hb⟩:=hrel;have hsk:=hsy.o k;by_cases hlt:k<l.length
   ·obtain⟨b,off,rfl,hbb,hd⟩:=hs.below hb (by omega)
    obtain⟨e0,e1,e2,e3⟩:=hd k hlt;have q1:decide ((k:Int)<(l.length:Nat))=true:=by simp;omega
    have hL:=hli k hlt (l.getD k default).li;have htl:(l.take k).length=k:=by rw[cQ];omega
    have hhas:=Tb.Rj l k (by omega) (l.getD k default).li;rw[htl]at hL hhas;have lW:Tb.ok l k=(Tb.wi (l.getD k default).li (2*l.length) 200&&Tb.wi (l.getD k default).sz 1 8&&!Tb.has l k (l.getD k default).li):=rfl;rw[hhas]at hL;have rM:Tb.syn l (k+1)=Tb.syn l k+(if(l.getD k default).sy then 1 else 0):=rfl;generalize rN:l.getD k default=d at *;have hdd:=af rN;have rO:=af rM;clear hhas rN rM;generalize Tb.has l k d.li=h at *;have iO:=af (rL wr ↑d.sy ↑d.inf ↑d.li ↑d.sz 67);have hb0:=hb.trans (iO.o.below.mono hb.size);have hm2:IntKind.i64.wrap (2*(l.length:Int))=2*l.length:=aO _ (by omega);have hq:∀n a b t,Tb.wi n a b=t->∀W,Hid (Calls Tryz.prog 85 #[.int .i64 n,.int .i64 a,.int .i64 b] W λe w'=>e=.returned (.bool t)/\w'=W):=by
     rintro n a b t rfl W;exact(hin n a b W).o.mono λe w' h=>⟨h.1,h.2.symm⟩
    cases ha:Tb.wi d.li (2*l.length) 200
    ·have hA:=hq _ _ _ _ ha
     have hfin:=hbad k hlt (by rw[lW,ha];rfl);go_wp2_with fail;generalize wr.alloc (.cells #[↑d.sy,↑d.inf,↑d.li,↑d.sz] 67)=w0 at *;obtain⟨hz,c0,c1,c2,c3⟩:=iO.o.cell w0 (ah _ _);clear hs hd hL hli hbad hS hsy iO e0 e1 e2 e3 ha hq hin
     go_quiet (first|(go_at_call 85;refine bI (hA _).o))
     go_wp2;go_ret;exact⟨by rw[hfin.o];simp,aC hb0 _⟩
    ·cases hz:Tb.wi d.sz 1 8
     ·have hA:=hq _ _ _ _ ha
      have hZ:=hq _ _ _ _ hz;have hfin:=hbad k hlt (by rw[lW,ha,hz];rfl);go_wp2_with fail;generalize wr.alloc (.cells #[↑d.sy,↑d.inf,↑d.li,↑d.sz] 67)=w0 at *;obtain⟨hz,c0,c1,c2,c3⟩:=iO.o.cell w0 (ah _ _);clear hs hd hL hli hbad hS hsy iO e0 e1 e2 e3 ha hq hin
      go_quiet (first|(go_at_call 85;first|with_reducible refine bI (hA _).o|refine bI (hZ _).o))
      go_wp2;go_ret;exact⟨by rw[hfin.o];simp,aC hb0 _⟩
     ·have hA:=af ha
      have hZ:=af hz;have rP:=af (show Tb.ok l k=!h by rw[lW,ha,hz];simp);clear ha hz lW hq;go_wp2_with fail;clear e0 e1 e2 e3;generalize wr.alloc (.cells #[↑d.sy,↑d.inf,↑d.li,↑d.sz] 67)=w0 at *;have K:=af (show ∀W,Below w0 w0 W->W.cell? (wr,2)=some ↑d.li/\W.cell? (wr,3)=some ↑d.sz from λW h=>(iO.o.cell W h).2.2.2);have yc:=ah w0 w0;have hL2:∀W,Below w w W->Hid (Calls Tryz.prog 139 #[.slice (some (b,off)) k c,↑d.li] W λe w'=>e=.returned ↑h/\Below W W w'):=λW hbw=>hL W hbw (lq.more (λh0=>by
       obtain⟨b',off',hA',hb',hc'⟩:=(hs.below hbw) (by omega);refine⟨b',off',hA',hb',λj hj=>?_⟩;have:=hc' j (by rw[htl]at hj;omega);rw[htl]at hj;have e:(l.take k).getD j default=l.getD j default:=by simp[ay,hj]
       rw[e];exact this) hbw.size) (by omega) hc'
      clear hL hli hs hd;have q2:(0:Int)<=(k:Nat):=by omega
      have q3:((k:Nat):Int)<=(c:Nat):=by omega
      have q4:IntKind.i64.wrap (k:Nat)=k:=aO _ (by omega)
      cases h
      all_goals
       go_region_held3 (λW=>W.cell? (wr,2)=some ↑d.li/\W.cell? (wr,3)=some ↑d.sz)
        ((refine K.o _ ?_;repeat' (first|exact hb3|exact yc|(with_reducible refine bL ?_))))
        (first
         |((go_at_call 85;refine(hin _ _ _ _).o.mono ?_;rintro e w3 ⟨rfl,rfl⟩;(first|rw[hA.o]|rw[hZ.o])))
         |((go_at_call 139;refine(hL2 _ ?_).o.mono ?_);(repeat' (first|exact hb0|(with_reducible refine bL ?_)));rintro e w3 ⟨rfl,hb⟩;have hb3:=yc.drew.trans (hb.mono yc.size))
         |fail)
      ·have nD:=hS.o k
       rw[hok.o,rP.o]at nD;have nD:=af nD;have c0:=(iO.o.cell _ hb3).2.1;go_wp2_with fail
       all_goals
        refine⟨⟨k+1,by omega,by go_num,?_,af (by rw[nD.o];rfl),hb0.trans (hb3.mono hb0.size)⟩,by simp[intOf];omega⟩;rw[rO.o];simp[*]
      ·have hfin:=hbad k hlt (by rw[rP.o];rfl)
       go_wp2;go_ret;exact⟨by rw[hfin.o];simp,hb0.trans (hb3.mono hb0.size)⟩
   ·obtain rfl:k=l.length:=by omega
    have q1:decide ((l.length:Int)<(l.length:Nat))=false:=by simp
    have hle:=hsy.o l.length;go_wp2;go_ret;exact⟨by rw[hok.o];simp;omega,hb⟩
end
section
set_option maxHeartbeats 2000000
open Go.RowKit
open Tb (D T)
def i64(x:Int):Prop:=-9223372036854775808<=x/\x<=9223372036854775807
theorem vT(t:T)(v:Value)(w:World)(B:Nat)(hB:B<=w.heap.size)(hv:jh w B v t.ns):
  Calls Tryz.prog 55 #[jW t v] w λe w'=>e=.returned ↑t.is/\Below w w w':=by
 obtain⟨A,c,rfl,h1,h2,h3,-⟩:=hv.at_;obtain⟨ns,dr,wi,lm⟩:=t;simp only at h1 h3;have hn:=λW(hb:Below w w W)=>Ri A c ns W (((h3.more hB).below hb).more hb.size) h1 h2;have hin:=λn a b W=>af (FC n a b W);have hres:T.is ⟨ns,dr,wi,lm⟩=(Tb.are ns&&(Tb.wi dr 0 1000&&(Tb.wi wi (4*dr+2) 1000&&Tb.wi lm wi 1000))):=rfl;rw[hres];clear hres hv h3;unfold maxLen at h2;unfold jW;simp only;generalize Tb.are ns=q at *;have hn:=λW hb=>af (hn W hb);generalize ns.length=n at *;have hq:∀n a b t,Tb.wi n a b=t->∀W,Hid (Calls Tryz.prog 85 #[.int .i64 n,.int .i64 a,.int .i64 b] W λe w'=>e=.returned (.bool t)/\W=w'):=by
  rintro n a b t rfl W;exact hin n a b W
 have iO:=af (rL w (.slice A n c) ↑dr ↑wi ↑lm 31)
 cases q
 ·go_enter Tryz.func55,Tryz.ntmps55
  go_wp2_with fail;refine(hn _ iO.o.below).o.mono ?_;rintro e w1 ⟨rfl,hb⟩;go_wp2;go_ret;exact⟨rfl,iO.o.below.trans (hb.mono iO.o.below.size)⟩
 cases q1:Tb.wi dr 0 1000
 ·have f1:=hq _ _ _ _ q1
  clear q1 hq hin
  go_enter Tryz.func55,Tryz.ntmps55
  go_wp2_with fail;refine(hn _ iO.o.below).o.mono ?_;rintro e w1 ⟨rfl,hb⟩;obtain⟨-,c0,c1,c2,c3⟩:=iO.o.cell w1 hb;go_wp2_with fail;refine(f1 _).o.mono ?_;rintro e w2 ⟨rfl,rfl⟩;go_wp2;go_ret;exact⟨rfl,iO.o.below.trans (hb.mono iO.o.below.size)⟩
 have wr0:IntKind.i64.wrap (4*dr)=4*dr:=aO _ (by have:=(Tb.lC _ _ _).1 q1;omega);have wr1:IntKind.i64.wrap (4*dr+2)=4*dr+2:=aO _ (by have:=(Tb.lC _ _ _).1 q1;omega)
 cases q2:Tb.wi wi (4*dr+2) 1000
 ·have f1:=hq _ _ _ _ q1
  have f2:=hq _ _ _ _ q2;clear q1 q2 hq hin
  go_enter Tryz.func55,Tryz.ntmps55
  go_wp2_with fail;refine(hn _ iO.o.below).o.mono ?_;rintro e w1 ⟨rfl,hb⟩;obtain⟨-,c0,c1,c2,c3⟩:=iO.o.cell w1 hb;go_wp2_with fail;refine(f1 _).o.mono ?_;rintro e w2 ⟨rfl,rfl⟩;go_wp2_with fail;refine(f2 _).o.mono ?_;rintro e w2 ⟨rfl,rfl⟩;go_wp2;go_ret;exact⟨rfl,iO.o.below.trans (hb.mono iO.o.below.size)⟩
 ·have f1:=hq _ _ _ _ q1
  have f2:=hq _ _ _ _ q2;clear q1 q2 hq;generalize hr:Tb.wi lm wi 1000=r at *;have f3:=λW=>hin lm wi 1000 W;rw[hr]at f3;clear hr hin
  go_enter Tryz.func55,Tryz.ntmps55
  go_wp2_with fail;refine(hn _ iO.o.below).o.mono ?_;rintro e w1 ⟨rfl,hb⟩;obtain⟨-,c0,c1,c2,c3⟩:=iO.o.cell w1 hb;go_wp2_with fail;refine(f1 _).o.mono ?_;rintro e w2 ⟨rfl,rfl⟩;go_wp2_with fail;refine(f2 _).o.mono ?_;rintro e w2 ⟨rfl,rfl⟩;go_wp2_with fail;refine(f3 _).o.mono ?_;rintro e w2 ⟨rfl,rfl⟩;go_wp2;go_ret;exact⟨rfl,iO.o.below.trans (hb.mono iO.o.below.size)⟩
end
section
set_option maxRecDepth 100000
set_option maxHeartbeats 4000000
open Go.RowKit
open Tb (D T)
theorem sD(t:T)(v:Value)(w:World)(B:Nat)(hB:B<=w.heap.size)(hv:jh w B v t.ns):
  Calls Tryz.prog 25 #[jW t v] w λe w'=>e=.returned ↑t.is/\Below w w w':=by
 obtain⟨A,c,rfl,h1,h2,h3,-⟩:=hv.at_;obtain⟨l,dr,wi,lm⟩:=t;simp only at h1 h3;have h3:=h3.more hB;have hin:=λn a b W=>af (Q6 n a b W);have hres:T.is ⟨l,dr,wi,lm⟩=((Tb.wi l.length 4 8&&(Tb.oks l l.length&&decide (4<=Tb.syn l l.length)))&&(Tb.wi dr 0 1000&&(Tb.wi wi (4*dr+2) 1000&&Tb.wi lm wi 1000))):=rfl;rw[hres];clear hres hv;unfold maxLen at h2;unfold jW;simp only;have hq:∀n a b t,Tb.wi n a b=t->∀W,Hid (Calls Tryz.prog 61 #[.int .i64 n,.int .i64 a,.int .i64 b] W λe w'=>e=.returned (.bool t)/\W=w'):=by
  rintro n a b t rfl W;exact hin n a b W
 have iO:=af (rL w (.slice A l.length c) ↑dr ↑wi ↑lm 31)
 cases q0:Tb.wi l.length 4 8
 ·have f0:=hq _ _ _ _ q0
  clear hin hq q0 h3
  go_enter Tryz.func25,Tryz.ntmps25
  go_wp2_with fail;refine(f0 _).o.mono ?_;rintro e w1 ⟨rfl,rfl⟩;go_wp2;go_ret;exact⟨by simp,iO.o.below⟩
 cases q1:Tb.wi dr 0 1000
 ·have f0:=hq _ _ _ _ q0
  have f1:=hq _ _ _ _ q1;clear q0 q1 hq hin h3
  go_enter Tryz.func25,Tryz.ntmps25
  go_wp2_with fail;refine(f0 _).o.mono ?_;rintro e w1 ⟨rfl,rfl⟩;go_wp2_with fail;refine(f1 _).o.mono ?_;rintro e w2 ⟨rfl,rfl⟩;go_wp2;go_ret;exact⟨by simp,iO.o.below⟩
 have wr0:IntKind.i64.wrap (4*dr)=4*dr:=aO _ (by have:=(Tb.lC _ _ _).1 q1;omega);have wr1:IntKind.i64.wrap (4*dr+2)=4*dr+2:=aO _ (by have:=(Tb.lC _ _ _).1 q1;omega)
 cases q2:Tb.wi wi (4*dr+2) 1000
 ·have f0:=hq _ _ _ _ q0
  have f1:=hq _ _ _ _ q1;have f2:=hq _ _ _ _ q2;clear q0 q1 q2 hq hin h3
  go_enter Tryz.func25,Tryz.ntmps25
  go_wp2_with fail;refine(f0 _).o.mono ?_;rintro e w1 ⟨rfl,rfl⟩;go_wp2_with fail;refine(f1 _).o.mono ?_;rintro e w2 ⟨rfl,rfl⟩;go_wp2_with fail;refine(f2 _).o.mono ?_;rintro e w2 ⟨rfl,rfl⟩;go_wp2;go_ret;exact⟨by simp,iO.o.below⟩
 cases q3:Tb.wi lm wi 1000
 ·have f0:=hq _ _ _ _ q0
  have f1:=hq _ _ _ _ q1;have f2:=hq _ _ _ _ q2;have f3:=hq _ _ _ _ q3;clear q0 q1 q2 q3 hq hin h3
  go_enter Tryz.func25,Tryz.ntmps25
  go_wp2_with fail;refine(f0 _).o.mono ?_;rintro e w1 ⟨rfl,rfl⟩;go_wp2_with fail;refine(f1 _).o.mono ?_;rintro e w2 ⟨rfl,rfl⟩;go_wp2_with fail;refine(f2 _).o.mono ?_;rintro e w2 ⟨rfl,rfl⟩;go_wp2_with fail;refine(f3 _).o.mono ?_;rintro e w2 ⟨rfl,rfl⟩;go_wp2;go_ret;exact⟨by simp,iO.o.below⟩
 have f0:=hq _ _ _ _ q0;have f1:=hq _ _ _ _ q1;have f2:=hq _ _ _ _ q2;have f3:=hq _ _ _ _ q3;have hn8:l.length<=8:=by have:=(Tb.lC _ _ _).1 q0;omega
 have hn4:4<=l.length:=by have:=(Tb.lC _ _ _).1 q0;omega
 clear q0 q1 q2 q3 hq;have hS:=af (Tb.FH l);have hbad:=λk hk h=>af (Tb.FI (l:=l) (k:=k) hk h);have hsy:=af (Tb.x9 l);have hs0:=af (Tb.FE l);have hs1:=af (Tb.FG l);have hm2:IntKind.i64.wrap (2*(l.length:Int))=2*l.length:=aO _ (by omega)
 go_enter Tryz.func25,Tryz.ntmps25
 go_wp2_with fail;refine(f0 _).o.mono ?_;rintro e w1 ⟨rfl,rfl⟩;go_wp2_with fail;refine(f1 _).o.mono ?_;rintro e w2 ⟨rfl,rfl⟩;go_wp2_with fail;refine(f2 _).o.mono ?_;rintro e w2 ⟨rfl,rfl⟩;go_wp2_with fail;refine(f3 _).o.mono ?_;rintro e w2 ⟨rfl,rfl⟩;clear f0 f1 f2 f3;go_wp2;generalize w.alloc (.cells #[.slice A l.length c,↑dr,↑wi,↑lm] 31)=w0 at *;have hz0:w0.heap.size=w.heap.size+1:=iO.o.size
 go_loopw [4,5] (λs i wr=>∃k:Nat,k<=l.length/\i=↑k/\s=↑(Tb.syn l k)/\Hid (Tb.oks l k=true)/\Below w0 w0 wr) (λ_ i _=>l.length-(intOf i).toNat)
 case atStart=>exact⟨0,by omega,rfl,rfl,rfl,ah _ _⟩
 case round=>
  obtain⟨k,hk,rfl,rfl,hok,hb⟩:=hrel;have hsk:=hsy.o k;have hbw:=iO.o.below.trans (hb.mono (by omega));obtain⟨-,b0,b1,b2,b3⟩:=iO.o.cell wr hb;by_cases hlt:k<l.length
  ·obtain⟨b,off,rfl,hbb,hd⟩:=h3.below hbw (by omega)
   obtain⟨e0,e1,e2,e3⟩:=hd k hlt;have q1:decide ((k:Int)<(l.length:Nat))=true:=by simp;omega
   have lW:Tb.ok l k=(Tb.wi (l.getD k default).li (2*l.length) 200&&Tb.wi (l.getD k default).sz 1 8&&!Tb.has l k (l.getD k default).li):=rfl;have rM:Tb.syn l (k+1)=Tb.syn l k+(if(l.getD k default).sy then 1 else 0):=rfl;generalize rN:l.getD k default=d at *;have hdd:=af rN;have rO:=af rM;clear rN rM;obtain⟨sy,inf,li,sz⟩:=d;simp only at e0 e1 e2 e3 lW rO
   cases ha:Tb.wi li (2*l.length) 200
   ·have hA:=hin li (2*l.length) 200
    rw[ha]at hA;have hfin:=hbad k hlt (by rw[lW,ha];rfl);clear ha lW hbad hS hs0 hs1;go_wp2_with (go_at_call 61;refine(hA _).o.mono ?_;rintro e w1 ⟨rfl,rfl⟩)
    all_goals
     go_ret;exact⟨by rw[hfin.o];simp,hbw.alloc hbw.size _⟩
   cases hz:Tb.wi sz 1 8
   ·have hA:=hin li (2*l.length) 200
    rw[ha]at hA;have hZ:=hin sz 1 8;rw[hz]at hZ;have hfin:=hbad k hlt (by rw[lW,ha,hz];rfl);clear ha hz lW hbad hS hs0 hs1;go_wp2_with (go_at_call 61;first|(with_reducible refine(hA _).o.mono ?_;rintro e w1 ⟨rfl,rfl⟩)|(refine(hZ _).o.mono ?_;rintro e w1 ⟨rfl,rfl⟩))
    all_goals
     go_ret;exact⟨by rw[hfin.o];simp,hbw.alloc hbw.size _⟩
   have hA:=hin li (2*l.length) 200;rw[ha]at hA;have hZ:=hin sz 1 8;rw[hz]at hZ;have rP:=af (show Tb.ok l k=!Tb.has l k li by rw[lW,ha,hz];simp);have nD:=hS.o k;rw[hok.o,rP.o]at nD;have nD:=af nD;have Rk:∃S:Nat,S<=8/\Hid (Tb.syn l (k+1)=S)/\(sy=true->(S:Int)=Tb.syn l k+1)/\(sy=false->(S:Int)=Tb.syn l k):=by
    refine⟨Tb.syn l (k+1),by have:=hsy.o (k+1);omega,af rfl,?_,?_⟩<;>(rintro rfl;rw[rO.o];simp)
   clear ha hz lW rO
   cases sy
   all_goals
    go_wp2_with fail
   (focus
    have hbx:=af (rL wr ↑false ↑inf ↑li ↑sz 67);generalize wr.alloc (.cells #[↑false,↑inf,↑li,↑sz] 67)=w2 at *)
   rotate_left 1
   (focus
    have hbx:=af (rL wr ↑true ↑inf ↑li ↑sz 67);generalize wr.alloc (.cells #[↑true,↑inf,↑li,↑sz] 67)=w2 at *)
   all_goals
    have hb2:=hb.trans (hbx.o.below.mono hb.size);obtain⟨S,hS8,hsS,hsT,hsF⟩:=Rk;refine(hA _).o.mono ?_;rintro e w3 ⟨rfl,rfl⟩;obtain⟨hz2,d0,d1,d2,d3⟩:=hbx.o.cell w2 (ah _ _);go_wp2_with fail;refine(hZ _).o.mono ?_;rintro e w3 ⟨rfl,rfl⟩;have bb:=af (iO.o.cell);have hb3:=af h3;have hs0:=af (hs0.o li);clear e0 e1 e2 e3 hd b0 b1 b2 b3 h3 hA hZ d0 d1 d2 d3;go_wp2
    go_loopw [7] (λj wq=>∃i:Nat,i<=k/\j=↑i/\Hid (Tb.has l i li=false)/\Below w2 w2 wq) (λj _=>k-(intOf j).toNat)
    case atStart=>exact⟨0,by omega,rfl,hs0,ah _ _⟩
    case round=>
     obtain⟨j,hj,rfl,hnot,hbq⟩:=hrel;have yg:=hb2.trans (hbq.mono hb2.size);obtain⟨-,b0,b1,b2,b3⟩:=bb.o _ yg;obtain⟨-,d0,d1,d2,d3⟩:=hbx.o.cell _ hbq;have FJ:=iO.o.below.trans (yg.mono (by omega));obtain⟨bx,TM,hA,TN,hd⟩:=hb3.o.below FJ (by omega);obtain⟨e0,e1,e2,e3⟩:=hd j (by omega);have hA0:=hA;simp only[bB,Addr.mk.injEq,gu]at hA0;obtain⟨rfl,rfl⟩:=hA0;clear hA hb3 bb hS iO;by_cases hjk:j<k
     ·have q5:decide ((j:Int)<(k:Nat))=true:=by simp;omega
      have p1:(0:Int)<=(j:Nat):=by omega
      have p2:((j:Nat):Int)<(l.length:Nat):=by omega
      have hnext:=af (hs1.o j (by omega) li);generalize hx:(l.getD j default).li=x at *;have hx:=af hx;by_cases hxx:x=li
      ·have hnx:Tb.has l (j+1) li=true:=by rw[hnext.o];simp[hxx]
       have hfin:=hbad k hlt (by rw[rP.o];simp[Tb.Rl (show j+1<=k by omega) hnx]);subst hxx;go_wp2_with fail
       go_quiet (fail)
       go_wp2;go_ret;exact⟨by rw[hfin.o];simp,aC FJ _⟩
      ·have hnx:Hid (Tb.has l (j+1) li=false):=by
        have:=hnext.o;rw[hnot.o]at this;exact this.trans (by simp[hxx])
       go_wp2_with fail
       go_quiet (fail)
       go_wp2;exact⟨⟨j+1,by omega,by go_num,hnx,aC hbq _⟩,by simp[intOf];omega⟩
     ·obtain rfl:j=k:=by omega
      have q5:decide ((j:Int)<(j:Nat))=false:=by simp
      go_wp2;exact⟨⟨j+1,by omega,by go_num,by rw[hsS.o];first|exact dn (Value.int .i64) (hsT (by simp)).symm|exact dn (Value.int .i64) (hsF (by simp)).symm,af (by rw[nD.o,hnot.o];rfl),yg⟩,by simp[intOf];omega⟩
  ·obtain rfl:k=l.length:=by omega
   have q1:decide ((l.length:Int)<(l.length:Nat))=false:=by simp
   go_wp2;go_ret;exact⟨by rw[hok.o];simp;omega,hbw⟩
end
section
open Go.RowKit
open Tb (D T)
theorem sV(n:Int)(h:0<=n/\n<=65535):IntKind.u8.wrap (n / 256)=n / 256/\IntKind.u8.wrap n=n%256:=by
 rw[fA,fA];omega
theorem vG(x y:Int)(hx:0<=x/\x<256)(hy:0<=y/\y<256):bits BinOp.or IntKind.i64 (x*256) y=x*256+y:=by
 obtain⟨X,rfl⟩:=bZ hx.1;obtain⟨Y,rfl⟩:=bZ hy.1;have h1:X<256:=by omega
 have h2:Y<256:=by omega
 show IntKind.i64.wrap ((BitVec.ofInt 64 ((X:Int)*256) ||| BitVec.ofInt 64 (Y:Int)).toNat:Int)=_;have e:(X:Int)*256=((X*256:Nat):Int):=by omega
 rw[e,BitVec.toNat_or,cG,cG,dJ];have e1:((((X*256:Nat):Int)%((2^64:Nat):Int))).toNat=X<<<8:=by rw[fE];omega
 have e2:(((Y:Int)%((2^64:Nat):Int))).toNat=Y:=by omega
 rw[e1,e2,<-Nat.shiftLeft_add_eq_or_of_lt (b:=Y) (i:=8) (by omega) X,fE];omega
theorem wE:(Tryz.prog.info? 67).map (λi=>(i.zero,i.size,i.bytes))=some (some (.agg #[.bool false,.bool false,.int .i64 0,.int .i64 0]),4,24):=by kernel_rfl
theorem jm.snoc{w:World}{B:Nat}{v:Value}{l:List D}{d:D}(h:w.ownsRow B 67 4 v (l.length+1) (l.flatMap dc++dc d)):jm w B v (l++[d]):=by
 unfold jm;rw[bJ,List.flatMap_append];simpa using h
theorem uM{n:Nat}(h:n<=100000):n+1<=maxLen/\(n+1)*24<=140737488355328:=⟨by unfold maxLen;omega,by omega⟩
theorem FK(w:World)(d:D)(g n c:Nat)(hn:n=1)(hd:AtD w g 0 d):Src w (.slice (some ⟨g,0,none⟩) n c) 4 1 (dc d):=by
 subst hn;refine .inr ⟨_,c,rfl,rfl,λj x hj=>?_,λx hx=>?_⟩
 ·match j,hj with
  |0,hj=>simp[dc]at hj;subst hj;exact hd.c0
  |1,hj=>simp[dc]at hj;subst hj;exact hd.c1
  |2,hj=>simp[dc]at hj;subst hj;exact hd.c2
  |3,hj=>simp[dc]at hj;subst hj;exact hd.c3
  |j+4,hj=>simp[dc]at hj
 ·simp only[dc,bq,cM,fL]at hx
  rcases hx with rfl|rfl|rfl|rfl<;>rfl
theorem FL(w:World)(d:D)(t:TypeId)(g:Nat)(hg:g=w.heap.size):AtD (w.alloc (.cells #[.bool d.sy,.bool d.inf,.int .i64 d.li,.int .i64 d.sz] t)) g 0 d:=
 ⟨by rw[aZ _ _ _ _ hg];rfl,by rw[aZ _ _ _ _ hg];rfl,by rw[aZ _ _ _ _ hg];rfl,by rw[aZ _ _ _ _ hg];rfl⟩

end

section
open Go.RowKit
open Tb (D T)

end
section
set_option maxHeartbeats 4000000
open Go.RowKit
open Tb (D T)
def csV(r s m:Int):Value:=.agg #[↑r,↑s,↑m]
def nxS(n s:Int):Int:=if s+1<n then s+1 else 0
def nxR(n r s:Int):Int:=if s+1<n then r else if r<65535 then r+1 else 0
theorem BA(a:Int):bits BinOp.and IntKind.i64 a 65535=(((a%65536).toNat:Nat):Int):=by
 show IntKind.i64.wrap ((BitVec.ofInt 64 a &&& BitVec.ofInt 64 65535).toNat:Int)=_;rw[eX,show(BitVec.ofInt 64 65535).toNat=2^16-1 by decide,cF,cG,dJ];omega
theorem LZ(A:Option Addr)(n c:Nat)(dr wi lm r s m:Int)(w:World)(hn:1<=n/\n<=8)(hs:0<=s/\s<n)(hr:0<=r/\r<=65535):
  Calls Tryz.prog 162 #[.agg #[.slice A n c,↑dr,↑wi,↑lm],csV r s m] w λe w'=>e=.returned (csV (nxR n r s) (nxS n s) m)/\Below w w w':=by
 unfold csV nxR nxS;have hcase:s+1<n\/(¬s+1<n/\r<65535)\/(¬s+1<n/\¬r<65535):=by omega
 rcases hcase with c1|⟨c1,c2⟩|⟨c1,c2⟩
 ·rw[au c1,au c1]
  have q1:s<(n:Int)-1:=by omega
  go_enter Tryz.func162,Tryz.ntmps162
  go_wp2;refine aK (v:=.agg #[↑r,↑(s+1:Int),↑m]) ?_ rfl ⟨rfl,?_⟩
  ·rw[j4 rfl]
   go_simp
  ·(repeat' (first|(with_reducible exact ah _ _)|(with_reducible refine aU ?_ ?_ _)|(with_reducible refine bE ?_ ?_ _)|exact aR _|(simp;done)|(simp;omega)))
 ·rw[ai c1,ai c1,au c2]
  have q1:¬s<(n:Int)-1:=by omega
  go_enter Tryz.func162,Tryz.ntmps162
  go_wp2;refine aK (v:=.agg #[↑(r+1:Int),↑(0:Int),↑m]) ?_ rfl ⟨rfl,?_⟩
  ·rw[j4 rfl]
   go_simp
  ·(repeat' (first|(with_reducible exact ah _ _)|(with_reducible refine aU ?_ ?_ _)|(with_reducible refine bE ?_ ?_ _)|exact aR _|(simp;done)|(simp;omega)))
 ·rw[ai c1,ai c1,ai c2]
  have q1:¬s<(n:Int)-1:=by omega
  go_enter Tryz.func162,Tryz.ntmps162
  go_wp2;refine aK (v:=.agg #[↑(0:Int),↑(0:Int),↑m]) ?_ rfl ⟨rfl,?_⟩
  ·rw[j4 rfl]
   go_simp
  ·(repeat' (first|(with_reducible exact ah _ _)|(with_reducible refine aU ?_ ?_ _)|(with_reducible refine bE ?_ ?_ _)|exact aR _|(simp;done)|(simp;omega)))
theorem Oz(A:Option Addr)(n c:Nat)(dr wi lm r s m:Int)(w:World)(hn:1<=n/\n<=8)(hs:0<=s/\s<n)(hr:0<=r/\r<=65535):
  Calls Tryz.prog 181 #[.agg #[.slice A n c,↑dr,↑wi,↑lm],csV r s m] w λe w'=>e=.returned (csV (nxR n r s) (nxS n s) m)/\Below w w w':=by
 unfold csV nxR nxS;by_cases c1:s+1<n
 ·rw[au c1,au c1]
  have q1:¬(n:Int)<=s+1:=by omega
  go_enter Tryz.func181,Tryz.ntmps181
  go_wp2;refine aK (v:=.agg #[↑r,↑(s+1:Int),↑m]) ?_ rfl ⟨rfl,?_⟩
  ·rw[j4 rfl]
   go_simp
  ·(repeat' (first|(with_reducible exact ah _ _)|(with_reducible refine aU ?_ ?_ _)|(with_reducible refine bE ?_ ?_ _)|exact aR _|(simp;done)|(simp;omega)))
 ·rw[ai c1,ai c1]
  have q1:(n:Int)<=s+1:=by omega
  have hR:(if r<65535 then r+1 else 0)=bits BinOp.and IntKind.i64 (r+1) 65535:=by rw[BA];split<;>omega
  rw[hR];clear hR
  go_enter Tryz.func181,Tryz.ntmps181
  go_wp2;refine aK (v:=.agg #[↑(bits BinOp.and IntKind.i64 (r+1) 65535),↑(0:Int),↑m]) ?_ rfl ⟨rfl,?_⟩
  ·rw[j4 rfl]
   go_simp
  ·(repeat' (first|(with_reducible exact ah _ _)|(with_reducible refine aU ?_ ?_ _)|(with_reducible refine bE ?_ ?_ _)|exact aR _|(simp;done)|(simp;omega)))
end
section
open Go.RowKit
def ins(m k:Nat):Nat:=m ||| 2^k
def del(m k:Nat):Nat:=if m.testBit k then m-2^k else m
theorem EC{m k:Nat}(hm:m<256)(hk:k<8):ins m k<256:=by
 have:∀(a:Fin 256)(b:Fin 8),ins a.val b.val<256:=by decide+kernel
 exact this ⟨m,hm⟩ ⟨k,hk⟩
theorem ED{m k:Nat}(hm:m<256):del m k<256:=by
 unfold del;split
 ·exact gG (Nat.sub_le _ _) hm
 ·exact hm
theorem xA{m k:Nat}(hm:m<256)(hk:k<8):bits BinOp.or IntKind.i64 (m:Nat) ((2^k:Nat):Int)=(ins m k:Nat):=by
 have:∀(a:Fin 256)(b:Fin 8),bits BinOp.or IntKind.i64 (a.val:Nat) ((2^b.val:Nat):Int)=(ins a.val b.val:Nat):=by decide+kernel
 exact this ⟨m,hm⟩ ⟨k,hk⟩
theorem EA{m k:Nat}(hm:m<256)(hk:k<8):bits BinOp.andNot IntKind.i64 (m:Nat) ((2^k:Nat):Int)=(del m k:Nat):=by
 have:∀(a:Fin 256)(b:Fin 8),bits BinOp.andNot IntKind.i64 (a.val:Nat) ((2^b.val:Nat):Int)=(del a.val b.val:Nat):=by decide+kernel
 exact this ⟨m,hm⟩ ⟨k,hk⟩
theorem OT{m:Nat}(hm:m<256):bits BinOp.or IntKind.i64 (m:Nat) 0=(m:Nat):=by
 have:∀(a:Fin 256),bits BinOp.or IntKind.i64 (a.val:Nat) 0=(a.val:Nat):=by decide+kernel
 exact this ⟨m,hm⟩
theorem OV{m:Nat}(hm:m<256):bits BinOp.andNot IntKind.i64 (m:Nat) 0=(m:Nat):=by
 have:∀(a:Fin 256),bits BinOp.andNot IntKind.i64 (a.val:Nat) 0=(a.val:Nat):=by decide+kernel
 exact this ⟨m,hm⟩
theorem OY{m:Nat}(hm:m<256):bits BinOp.and IntKind.i64 (m:Nat) 0=0:=by
 have:∀(a:Fin 256),bits BinOp.and IntKind.i64 (a.val:Nat) 0=0:=by decide+kernel
 exact this ⟨m,hm⟩
theorem OX{m k:Nat}(hm:m<256)(hk:k<8):bits BinOp.and IntKind.i64 (m:Nat) ((2^k:Nat):Int)=if m.testBit k then((2^k:Nat):Int)else 0:=by
 have:∀(a:Fin 256)(b:Fin 8),bits BinOp.and IntKind.i64 (a.val:Nat) ((2^b.val:Nat):Int)=if a.val.testBit b.val then((2^b.val:Nat):Int)else 0:=by decide+kernel
 exact this ⟨m,hm⟩ ⟨k,hk⟩
theorem EB(a:Int):bits BinOp.and IntKind.i64 a 255=((a%256).toNat:Nat):=by
 have h8:(BitVec.ofInt 64 255).toNat=2^8-1:=by decide
 show IntKind.i64.wrap (((BitVec.ofInt 64 a) &&& (BitVec.ofInt 64 255)).toNat:Int)=_;rw[eX,h8,cF,cG,dJ];omega
theorem Rv(a:Int):bits BinOp.and IntKind.i64 a 1=a%2:=by
 have h8:(BitVec.ofInt 64 1).toNat=2^1-1:=by decide
 show IntKind.i64.wrap (((BitVec.ofInt 64 a) &&& (BitVec.ofInt 64 1)).toNat:Int)=_;rw[eX,h8,cF,cG,dJ];omega
theorem nQ(k:Nat):((2^k:Nat):Int)=(2:Int)^k:=by simp
theorem uh{k:Nat}(hk:k<8):wrap64 ((2:Int)^k)=(2:Int)^k:=by
 have:∀(b:Fin 8),wrap64 ((2:Int)^b.val)=(2:Int)^b.val:=by decide+kernel
 exact this ⟨k,hk⟩
theorem wN{m k:Nat}(hm:m<256)(hk:k<8):bits BinOp.or IntKind.i64 (m:Nat) (wrap64 ((2:Int)^k))=(ins m k:Nat):=by
 rw[uh hk,<-nQ];exact xA hm hk
theorem Rw{m k:Nat}(hm:m<256)(hk:k<8):bits BinOp.andNot IntKind.i64 (m:Nat) (wrap64 ((2:Int)^k))=(del m k:Nat):=by
 rw[uh hk,<-nQ];exact EA hm hk
theorem Rx(m k:Nat):(bits BinOp.and IntKind.i64 ((m:Int) / (2:Int)^k) 1==1)=m.testBit k:=by
 rw[Rv,<-nQ,<-Int.natCast_ediv,dY];by_cases h:m / 2^k%2=1
 ·rw[av h,fW];omega
 ·rw[aj h,aB];omega
theorem wM(a:Int):(a%256).toNat<256:=by omega
structure TS where
 m:Nat
 a:Nat
 f:Nat
deriving DecidableEq
def TS.join(s:TS)(n:Int):TS:=if 0<=n/\n<8 then {s with m:=ins s.m n.toNat}else s
def TS.miss(s:TS)(n:Int):TS:=if 0<=n/\n<8 then {s with m:=del s.m n.toNat}else s
def TS.right(s:TS)(n:Int):TS:=if 0<=n/\n<8 then⟨ins s.m n.toNat,s.a+1,s.f⟩else s
def TS.wrong(s:TS)(n:Int):TS:=if 0<=n/\n<8 then⟨del s.m n.toNat,s.a,s.f+1⟩else s
def TS.clear(s:TS):TS:={s with a:=0,f:=0}
def isB(m:Nat)(n:Int):Bool:=decide (0<=n/\n<8)&&m.testBit n.toNat
end
section
set_option maxRecDepth 100000
set_option maxHeartbeats 1000000
open Go.RowKit
def TAt(t:TypeId)(W:World)(g:Nat)(s:TS):Prop:=Blk W g #[↑(s.m:Nat),↑(s.a:Nat),↑(s.f:Nat)] t/\s.m<256
section
variable {t:TypeId}{W W':World}{g:Nat}{s:TS}
theorem TAt.below(h:TAt t W g s){B:Nat}(hb:Below B W W')(hg:g<B):TAt t W' g s:=⟨h.1.below hb hg,h.2⟩
theorem TAt.only{g':Nat}(h:TAt t W g s)(hb:Only g' W W')(hg:g≠g'):TAt t W' g s:=⟨h.1.only hb hg,h.2⟩
theorem TAt.lt(h:TAt t W g s):g<W.heap.size:=h.1.lt
theorem TAt.drew(h:TAt t W g s):TAt t W.drew g s:=h
theorem TAt.c0(h:TAt t W g s):W.cell? (g,0)=some ↑(s.m:Nat):=h.1.cell 0 rfl
theorem TAt.c1(h:TAt t W g s):W.cell? (g,1)=some ↑(s.a:Nat):=h.1.cell 1 rfl
theorem TAt.c2(h:TAt t W g s):W.cell? (g,2)=some ↑(s.f:Nat):=h.1.cell 2 rfl
theorem TAt.m_(h:TAt t W g s)(n:Nat)(hn:n<256):TAt t (W.setCell (g,0) ↑(n:Nat)) g {s with m:=n}:=⟨(h.1.set 0 _).eq (by simp),hn⟩
theorem TAt.a_(h:TAt t W g s)(n:Nat):TAt t (W.setCell (g,1) ↑(n:Nat)) g {s with a:=n}:=⟨(h.1.set 1 _).eq (by simp),h.2⟩
theorem TAt.f_(h:TAt t W g s)(n:Nat):TAt t (W.setCell (g,2) ↑(n:Nat)) g {s with f:=n}:=⟨(h.1.set 2 _).eq (by simp),h.2⟩
end
theorem CH(n:Int)(w:World):
  Calls Tryz.prog 88 #[↑n] w λe w'=>e=.returned ↑(w,0)/\TAt 131 w' w ⟨(n%256).toNat,0,0⟩/\Below w w w'/\w'.heap.size=w.heap.size+1:=by
 have HA:=EB n;have hl:=wM n;generalize(n%256).toNat=m at *
 go_enter Tryz.func88,Tryz.ntmps88
 go_wp2;go_ret;exact⟨rfl,⟨aJ _ _ rfl _ _,hl⟩,(ah _ _).alloc lr _,by simp⟩
end
section
set_option maxRecDepth 100000
set_option maxHeartbeats 4000000
open Go.RowKit
instance:Inhabited R4:=⟨⟨0,0,0,0⟩⟩
def rc(r:R4):List Value:=[↑r.n,↑r.lo,↑r.hi,↑r.st]
structure mJ(w:World)(b off:Nat)(d:R4):Prop where
 c0:w.cell? (b,off)=some ↑d.n
 c1:w.cell? (b,off+1)=some ↑d.lo
 c2:w.cell? (b,off+2)=some ↑d.hi
 c3:w.cell? (b,off+3)=some ↑d.st
def lG(w:World)(B:Nat)(A:Option Addr)(l:List R4):Prop:=
 0<l.length->∃b off,A=some ⟨b,off,none⟩/\b<B/\∀k,k<l.length->mJ w b (off+k*4) (l.getD k default)
structure jl(w:World)(B:Nat)(v:Value)(l:List R4):Prop where
 at_:∃A c,v=.slice A l.length c/\l.length<=c/\c<=maxLen/\lG w B A l/\(A=none->l.length=0/\c=0)
def kH(w:World)(base:Nat)(v:Value)(l:List R4):Prop:=w.ownsRow base 69 4 v l.length (l.flatMap rc)
section
variable {w w':World}{B B' Bs:Nat}{A:Option Addr}{v:Value}{l m:List R4}
theorem mJ.keep{b off:Nat}{d:R4}(h:mJ w b off d)(hk:∀o,w'.cell? ⟨b,o,none⟩=w.cell? ⟨b,o,none⟩):mJ w' b off d:=
 ⟨(hk _).trans h.c0,(hk _).trans h.c1,(hk _).trans h.c2,(hk _).trans h.c3⟩
theorem lG.keep(h:lG w B A l)(hk:∀b o,b<B->w'.cell? ⟨b,o,none⟩=w.cell? ⟨b,o,none⟩):lG w' B A l:=λh0=>by
 obtain⟨b,off,e,hb,hc⟩:=h h0;exact⟨b,off,e,hb,λk hlt=>(hc k hlt).keep λo=>hk b o hb⟩
theorem lG.below(h:lG w B A l)(hb:Below B w w'):lG w' B A l:=h.keep λb o hp=>hb.cell (p:=(b,o)) hp
theorem lG.more(h:lG w B A l)(hB:B<=B'):lG w B' A l:=λh0=>by
 obtain⟨b,off,e,hb,hc⟩:=h h0;exact⟨b,off,e,by omega,hc⟩
theorem lG.nil:lG w B A []:=λh=>absurd h (by simp)
theorem jl.below(h:jl w B v l)(hb:Below B w w'):jl w' B v l:=⟨by
 obtain⟨A,c,rfl,h1,h2,h3,h4⟩:=h.at_;exact⟨A,c,rfl,h1,h2,h3.below hb,h4⟩⟩
theorem jl.more(h:jl w B v l)(hB:B<=B'):jl w B' v l:=⟨by
 obtain⟨A,c,rfl,h1,h2,h3,h4⟩:=h.at_;exact⟨A,c,rfl,h1,h2,h3.more hB,h4⟩⟩
theorem jl.nil:jl w B (.slice none 0 0) []:=⟨none,0,rfl,aR _,bH _,lG.nil,λ_=>⟨rfl,rfl⟩⟩
theorem yP(l:List R4)(k:Nat)(hk:k<l.length)(j:Nat)(hj:j<4):(l.flatMap rc)[k*4+j]?=(rc (l.getD k default))[j]?:=by
 induction l generalizing k with
 |nil=>simp at hk
 |cons d l ih=>
  have h4:(rc d).length=4:=rfl;rw[gK]
  cases k with
  |zero=>rw[gV (by omega)];simp
  |succ k=>
   rw[gN (by omega),h4,show(k+1)*4+j-4=k*4+j by omega,ih k (by simpa using hk)];simp
theorem yQ(l:List R4):(l.flatMap rc).length=l.length*4:=by
 induction l with
 |nil=>rfl
 |cons d l ih=>rw[gK,bJ,ih];simp[rc];omega
theorem kH.atD{g n c:Nat}(h:kH w Bs (.slice (some (g,0)) n c) l)(hn:n=l.length)(k:Nat)(hk:k<l.length):mJ w g (k*4) (l.getD k default):=by
 subst hn;have e:=λj(hj:j<4)=>(gO h (k*4+j) (by omega)).trans (yP l k hk j hj);exact⟨by have:=e 0 (by omega);rw[gC]at this;exact this,e 1 (by omega),e 2 (by omega),e 3 (by omega)⟩
theorem kH.form(h:kH w Bs v l):(v=.slice none 0 0/\l.length=0)\/∃g c,v=.slice (some ⟨g,0,none⟩) l.length c/\Bs<=g/\g<w.heap.size/\l.length<=c/\c<=maxLen:=by
 rcases h.2 with h1|⟨g,cap,cur,h1,h2,h3,h4,h5,-⟩
 ·exact .inl h1
 ·exact .inr ⟨g,cap,h1,h2,(bT.1 h3).1,h4,h5⟩
theorem kH.sees(h:kH w Bs v l):jl w w v l:=⟨by
 rcases h.form with⟨rfl,h0⟩|⟨g,c,rfl,h1,h2,h3,h4⟩
 ·exact⟨none,0,by rw[h0],by omega,by unfold maxLen;omega,λh=>absurd h (by omega),λ_=>⟨h0,rfl⟩⟩
 ·exact⟨_,c,rfl,h3,h4,λ_=>⟨g,0,rfl,h2,λk hk=>by rw[bU];exact kH.atD h rfl k hk⟩,λh=>by cases h⟩⟩
theorem kH.nil:kH w Bs (.slice none 0 0) []:=dX _ _ _ _
theorem kH.below(h:kH w Bs v l)(hb:Below B' w w')(hB:w.heap.size<=B'):kH w' Bs v l:=
 cB (row:=none) h ⟨hb.os,hb.tape,hb.output,hb.size,λk hk _=>hb.block k (by omega)⟩ (by
  rcases h.2 with⟨rfl,_⟩|⟨g,cap,cur,rfl,_⟩
  ·exact .inl rfl
  ·exact .inr (by simp[Value.ownBlock]))
theorem kH.alloc(h:kH w Bs v l)(o:Obj):kH (w.alloc o) Bs v l:=eH h o
end
theorem Gz:(Tryz.prog.info? 69).map (λi=>(i.zero,i.size,i.bytes))=some (some (.agg #[↑(0:Int),↑(0:Int),↑(0:Int),↑(0:Int)]),4,32):=by kernel_rfl
theorem jl.src{w:World}{B:Nat}{u:Value}{m:List R4}(h:jl w B u m):Src w u 4 m.length (m.flatMap rc):=by
 obtain⟨A,c,rfl,-,-,h3,h4⟩:=h.at_
 cases A with
 |none=>
  obtain⟨h5,h6⟩:=h4 rfl;subst h6;have:=dx.1 h5;subst this;exact .inl ⟨rfl,rfl,rfl⟩
 |some ad=>
  refine .inr ⟨ad,c,rfl,yQ m,λj x hj=>?_,λx hx=>?_⟩
  ·by_cases hjm:j<m.length*4
   ·obtain⟨b,off,he,_,hc⟩:=h3 (by omega)
    simp only[bB]at he;subst he;have h6:=hc (j / 4) (by omega);have e1:=yP m (j / 4) (by omega) (j%4) (by omega);rw[show j / 4*4+j%4=j by omega,hj]at e1;have e2:w.cell? (b,off+j)=(rc (m.getD (j / 4) default))[j%4]?:=by
     rcases(by omega:j%4=0\/j%4=1\/j%4=2\/j%4=3)with h|h|h|h<;>rw[h]
     ·rw[show off+j=off+j / 4*4 by omega];exact h6.c0
     ·rw[show off+j=off+j / 4*4+1 by omega];exact h6.c1
     ·rw[show off+j=off+j / 4*4+2 by omega];exact h6.c2
     ·rw[show off+j=off+j / 4*4+3 by omega];exact h6.c3
    rw[<-e1]at e2;by_cases h1:j=0
    ·subst h1;simpa[Addr.add]using e2
    ·simpa[Addr.add,h1]using e2
   ·rw[aY (by rw[yQ];omega)]at hj
    cases hj
  ·obtain⟨r,-,hr⟩:=fY.1 hx
   simp only[rc,bq,cM,fL]at hr;rcases hr with rfl|rfl|rfl|rfl<;>rfl
theorem GA(w:World)(e:TypeId)(he:e=69)(B g:Nat)(hB:B<=w.heap.size)(hg:g=w.heap.size):kH (w.alloc (.cells #[] e)) B (.slice (some (g,0)) 0 0) []:=by
 subst he hg;exact gD w #[] 0 hB (by unfold maxLen;omega) rfl
theorem jl.alloc{w:World}{B:Nat}{v:Value}{l:List R4}(h:jl w B v l)(o:Obj):jl (w.alloc o) B v l:=⟨by
 obtain⟨A,c,rfl,h1,h2,h3,h4⟩:=h.at_;refine⟨A,c,rfl,h1,h2,λh0=>?_,h4⟩;obtain⟨b,off,e,hb,hc⟩:=h3 h0;exact⟨b,off,e,hb,λk hk=>⟨bn o (hc k hk).c0,bn o (hc k hk).c1,bn o (hc k hk).c2,bn o (hc k hk).c3⟩⟩⟩
theorem GD{n m:Nat}(h:n+m<=100000):n+m<=maxLen/\(n+m)*32<=140737488355328:=⟨by unfold maxLen;omega,by omega⟩
theorem Gm(l:List R4)(v:Value)(w:World)(B:Nat)(hv:jl w B v l)(h4:l.length<=1000):
  Calls Tryz.prog 87 #[v] w λe w'=>∃v',e=.returned v'/\kH w' w v' l/\Below w w w':=by
 obtain⟨A,c,rfl,h1,h2,h3,h4'⟩:=hv.at_
 cases A with
 |none=>
  obtain⟨hl,rfl⟩:=h4' rfl;have hl':=dx.1 hl;subst hl';clear h1 h2 h3 h4 h4' hl hv;have hq:=dw (P:=Tryz.prog) w 35 69 none 0 0 0 0 Tryz.underlying35
  go_enter Tryz.func87,Tryz.ntmps87
  go_wp2;go_ret;exact⟨_,rfl,kH.nil,ah _ _⟩
 |some a=>
  have H:=af (GA w 69 rfl w w lr rfl);have hs:=af ((hv.alloc (.cells #[] 69)));have q0:=dw (P:=Tryz.prog) w 35 69 (some a) l.length c 0 0 Tryz.underlying35;have hR:=GD (n:=0) (m:=l.length) (by omega);clear hv h3 h4'
  go_enter Tryz.func87,Tryz.ntmps87
  go_wp2_with (at_builtin;go_loud (refine og _ rfl (.tmp 5) (.tmp 6) 35 rfl w 69 _ 4 32 Gz rfl (by omega) Tryz.underlying35 _ 0 _ H.o rfl _ l.length _ rfl hs.o.src (by simp) hR.1 hR.2 ?_));intro v' w' ho he;have ho:kH w' w v' l:=by
   unfold kH;simpa using ho
  have hb:=((ah w w).alloc lr (.cells #[] 69)).trans (he.toBelow (by simp) (λj hj=>by simp[Value.ownBlock]at hj;omega));go_wp2;go_ret;exact⟨_,rfl,ho,hb⟩
end
end Go.Proofs.YteadkhigkmijiaaGreat
