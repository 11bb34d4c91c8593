/- Texts TbF, ClB, ClC in one. -/
import Derived.Test.YteadkhigkmijiaaGreatPC1
import Derived.Test.YteadkhigkmijiaaGreatPC5
set_option linter.all false
namespace Go.Proofs.YteadkhigkmijiaaGreat
section
set_option maxRecDepth 100000
set_option maxHeartbeats 4000000
open Go.RowKit
open Tb (D T)
theorem sD(t:T)(v:Value)(w:World)(B:Nat)(hB:B<=w.heap.size)(hv:jh w B v t.ns):
  Calls Tryz.prog 25 #[jW t v] w λe w'=>e=.returned ↑t.is/\Below w w w':=by
 obtain⟨A,c,rfl,h1,h2,h3,-⟩:=hv.at_;obtain⟨l,dr,wi,lm⟩:=t;simp only at h1 h3;have h3:=h3.more hB;have hin:=λn a b W=>af (Q6 n a b W);have hres:T.is ⟨l,dr,wi,lm⟩=((Tb.wi l.length 4 8&&(Tb.oks l l.length&&decide (4<=Tb.syn l l.length)))&&(Tb.wi dr 0 1000&&(Tb.wi wi (4*dr+2) 1000&&Tb.wi lm wi 1000))):=rfl;rw[hres];clear hres hv;unfold maxLen at h2;unfold jW;simp only;have hq:∀n a b t,Tb.wi n a b=t->∀W,Hid (Calls Tryz.prog 61 #[.int .i64 n,.int .i64 a,.int .i64 b] W λe w'=>e=.returned (.bool t)/\W=w'):=by
  rintro n a b t rfl W;exact hin n a b W
 have iO:=af (rL w (.slice A l.length c) ↑dr ↑wi ↑lm 31)
 cases q0:Tb.wi l.length 4 8
 ·have f0:=hq _ _ _ _ q0
  clear hin hq q0 h3
  go_enter Tryz.func25,Tryz.ntmps25
  go_wp2_with fail;refine(f0 _).o.mono ?_;rintro e w1 ⟨rfl,rfl⟩;go_wp2;go_ret;exact⟨by simp,iO.o.below⟩
 cases q1:Tb.wi dr 0 1000
 ·have f0:=hq _ _ _ _ q0
  have f1:=hq _ _ _ _ q1;clear q0 q1 hq hin h3
  go_enter Tryz.func25,Tryz.ntmps25
  go_wp2_with fail;refine(f0 _).o.mono ?_;rintro e w1 ⟨rfl,rfl⟩;go_wp2_with fail;refine(f1 _).o.mono ?_;rintro e w2 ⟨rfl,rfl⟩;go_wp2;go_ret;exact⟨by simp,iO.o.below⟩
 have wr0:IntKind.i64.wrap (4*dr)=4*dr:=aO _ (by have:=(Tb.lC _ _ _).1 q1;omega);have wr1:IntKind.i64.wrap (4*dr+2)=4*dr+2:=aO _ (by have:=(Tb.lC _ _ _).1 q1;omega)
 cases q2:Tb.wi wi (4*dr+2) 1000
 ·have f0:=hq _ _ _ _ q0
  have f1:=hq _ _ _ _ q1;have f2:=hq _ _ _ _ q2;clear q0 q1 q2 hq hin h3
  go_enter Tryz.func25,Tryz.ntmps25
  go_wp2_with fail;refine(f0 _).o.mono ?_;rintro e w1 ⟨rfl,rfl⟩;go_wp2_with fail;refine(f1 _).o.mono ?_;rintro e w2 ⟨rfl,rfl⟩;go_wp2_with fail;refine(f2 _).o.mono ?_;rintro e w2 ⟨rfl,rfl⟩;go_wp2;go_ret;exact⟨by simp,iO.o.below⟩
 cases q3:Tb.wi lm wi 1000
 ·have f0:=hq _ _ _ _ q0
  have f1:=hq _ _ _ _ q1;have f2:=hq _ _ _ _ q2;have f3:=hq _ _ _ _ q3;clear q0 q1 q2 q3 hq hin h3
  go_enter Tryz.func25,Tryz.ntmps25
  go_wp2_with fail;refine(f0 _).o.mono ?_;rintro e w1 ⟨rfl,rfl⟩;go_wp2_with fail;refine(f1 _).o.mono ?_;rintro e w2 ⟨rfl,rfl⟩;go_wp2_with fail;refine(f2 _).o.mono ?_;rintro e w2 ⟨rfl,rfl⟩;go_wp2_with fail;refine(f3 _).o.mono ?_;rintro e w2 ⟨rfl,rfl⟩;go_wp2;go_ret;exact⟨by simp,iO.o.below⟩
 have f0:=hq _ _ _ _ q0;have f1:=hq _ _ _ _ q1;have f2:=hq _ _ _ _ q2;have f3:=hq _ _ _ _ q3;have hn8:l.length<=8:=by have:=(Tb.lC _ _ _).1 q0;omega
 have hn4:4<=l.length:=by have:=(Tb.lC _ _ _).1 q0;omega
 clear q0 q1 q2 q3 hq;have hS:=af (Tb.FH l);have hbad:=λk hk h=>af (Tb.FI (l:=l) (k:=k) hk h);have hsy:=af (Tb.x9 l);have hs0:=af (Tb.FE l);have hs1:=af (Tb.FG l);have hm2:IntKind.i64.wrap (2*(l.length:Int))=2*l.length:=aO _ (by omega)
 go_enter Tryz.func25,Tryz.ntmps25
 go_wp2_with fail;refine(f0 _).o.mono ?_;rintro e w1 ⟨rfl,rfl⟩;go_wp2_with fail;refine(f1 _).o.mono ?_;rintro e w2 ⟨rfl,rfl⟩;go_wp2_with fail;refine(f2 _).o.mono ?_;rintro e w2 ⟨rfl,rfl⟩;go_wp2_with fail;refine(f3 _).o.mono ?_;rintro e w2 ⟨rfl,rfl⟩;clear f0 f1 f2 f3;go_wp2;generalize w.alloc (.cells #[.slice A l.length c,↑dr,↑wi,↑lm] 31)=w0 at *;have hz0:w0.heap.size=w.heap.size+1:=iO.o.size
 go_loopw [4,5] (λs i wr=>∃k:Nat,k<=l.length/\i=↑k/\s=↑(Tb.syn l k)/\Hid (Tb.oks l k=true)/\Below w0 w0 wr) (λ_ i _=>l.length-(intOf i).toNat)
 case atStart=>exact⟨0,by omega,rfl,rfl,rfl,ah _ _⟩
 case round=>
  obtain⟨k,hk,rfl,rfl,hok,hb⟩:=hrel;have hsk:=hsy.o k;have hbw:=iO.o.below.trans (hb.mono (by omega));obtain⟨-,b0,b1,b2,b3⟩:=iO.o.cell wr hb;by_cases hlt:k<l.length
  ·obtain⟨b,off,rfl,hbb,hd⟩:=h3.below hbw (by omega)
   obtain⟨e0,e1,e2,e3⟩:=hd k hlt;have q1:decide ((k:Int)<(l.length:Nat))=true:=by simp;omega
   have lW:Tb.ok l k=(Tb.wi (l.getD k default).li (2*l.length) 200&&Tb.wi (l.getD k default).sz 1 8&&!Tb.has l k (l.getD k default).li):=rfl;have rM:Tb.syn l (k+1)=Tb.syn l k+(if(l.getD k default).sy then 1 else 0):=rfl;generalize rN:l.getD k default=d at *;have hdd:=af rN;have rO:=af rM;clear rN rM;obtain⟨sy,inf,li,sz⟩:=d;simp only at e0 e1 e2 e3 lW rO
   cases ha:Tb.wi li (2*l.length) 200
   ·have hA:=hin li (2*l.length) 200
    rw[ha]at hA;have hfin:=hbad k hlt (by rw[lW,ha];rfl);clear ha lW hbad hS hs0 hs1;go_wp2_with (go_at_call 61;refine(hA _).o.mono ?_;rintro e w1 ⟨rfl,rfl⟩)
    all_goals
     go_ret;exact⟨by rw[hfin.o];simp,hbw.alloc hbw.size _⟩
   cases hz:Tb.wi sz 1 8
   ·have hA:=hin li (2*l.length) 200
    rw[ha]at hA;have hZ:=hin sz 1 8;rw[hz]at hZ;have hfin:=hbad k hlt (by rw[lW,ha,hz];rfl);clear ha hz lW hbad hS hs0 hs1;go_wp2_with (go_at_call 61;first|(with_reducible refine(hA _).o.mono ?_;rintro e w1 ⟨rfl,rfl⟩)|(refine(hZ _).o.mono ?_;rintro e w1 ⟨rfl,rfl⟩))
    all_goals
     go_ret;exact⟨by rw[hfin.o];simp,hbw.alloc hbw.size _⟩
   have hA:=hin li (2*l.length) 200;rw[ha]at hA;have hZ:=hin sz 1 8;rw[hz]at hZ;have rP:=af (show Tb.ok l k=!Tb.has l k li by rw[lW,ha,hz];simp);have nD:=hS.o k;rw[hok.o,rP.o]at nD;have nD:=af nD;have Rk:∃S:Nat,S<=8/\Hid (Tb.syn l (k+1)=S)/\(sy=true->(S:Int)=Tb.syn l k+1)/\(sy=false->(S:Int)=Tb.syn l k):=by
    refine⟨Tb.syn l (k+1),by have:=hsy.o (k+1);omega,af rfl,?_,?_⟩<;>(rintro rfl;rw[rO.o];simp)
   clear ha hz lW rO
   cases sy
   all_goals
    go_wp2_with fail
   (focus
    have hbx:=af (rL wr ↑false ↑inf ↑li ↑sz 67);generalize wr.alloc (.cells #[↑false,↑inf,↑li,↑sz] 67)=w2 at *)
   rotate_left 1
   (focus
    have hbx:=af (rL wr ↑true ↑inf ↑li ↑sz 67);generalize wr.alloc (.cells #[↑true,↑inf,↑li,↑sz] 67)=w2 at *)
   all_goals
    have hb2:=hb.trans (hbx.o.below.mono hb.size);obtain⟨S,hS8,hsS,hsT,hsF⟩:=Rk;refine(hA _).o.mono ?_;rintro e w3 ⟨rfl,rfl⟩;obtain⟨hz2,d0,d1,d2,d3⟩:=hbx.o.cell w2 (ah _ _);go_wp2_with fail;refine(hZ _).o.mono ?_;rintro e w3 ⟨rfl,rfl⟩;have bb:=af (iO.o.cell);have hb3:=af h3;have hs0:=af (hs0.o li);clear e0 e1 e2 e3 hd b0 b1 b2 b3 h3 hA hZ d0 d1 d2 d3;go_wp2
    go_loopw [7] (λj wq=>∃i:Nat,i<=k/\j=↑i/\Hid (Tb.has l i li=false)/\Below w2 w2 wq) (λj _=>k-(intOf j).toNat)
    case atStart=>exact⟨0,by omega,rfl,hs0,ah _ _⟩
    case round=>
     obtain⟨j,hj,rfl,hnot,hbq⟩:=hrel;have yg:=hb2.trans (hbq.mono hb2.size);obtain⟨-,b0,b1,b2,b3⟩:=bb.o _ yg;obtain⟨-,d0,d1,d2,d3⟩:=hbx.o.cell _ hbq;have FJ:=iO.o.below.trans (yg.mono (by omega));obtain⟨bx,TM,hA,TN,hd⟩:=hb3.o.below FJ (by omega);obtain⟨e0,e1,e2,e3⟩:=hd j (by omega);have hA0:=hA;simp only[bB,Addr.mk.injEq,gu]at hA0;obtain⟨rfl,rfl⟩:=hA0;clear hA hb3 bb hS iO;by_cases hjk:j<k
     ·have q5:decide ((j:Int)<(k:Nat))=true:=by simp;omega
      have p1:(0:Int)<=(j:Nat):=by omega
      have p2:((j:Nat):Int)<(l.length:Nat):=by omega
      have hnext:=af (hs1.o j (by omega) li);generalize hx:(l.getD j default).li=x at *;have hx:=af hx;by_cases hxx:x=li
      ·have hnx:Tb.has l (j+1) li=true:=by rw[hnext.o];simp[hxx]
       have hfin:=hbad k hlt (by rw[rP.o];simp[Tb.Rl (show j+1<=k by omega) hnx]);subst hxx;go_wp2_with fail
       go_quiet (fail)
       go_wp2;go_ret;exact⟨by rw[hfin.o];simp,aC FJ _⟩
      ·have hnx:Hid (Tb.has l (j+1) li=false):=by
        have:=hnext.o;rw[hnot.o]at this;exact this.trans (by simp[hxx])
       go_wp2_with fail
       go_quiet (fail)
       go_wp2;exact⟨⟨j+1,by omega,by go_num,hnx,aC hbq _⟩,by simp[intOf];omega⟩
     ·obtain rfl:j=k:=by omega
      have q5:decide ((j:Int)<(j:Nat))=false:=by simp
      go_wp2;exact⟨⟨j+1,by omega,by go_num,by rw[hsS.o];first|exact dn (Value.int .i64) (hsT (by simp)).symm|exact dn (Value.int .i64) (hsF (by simp)).symm,af (by rw[nD.o,hnot.o];rfl),yg⟩,by simp[intOf];omega⟩
  ·obtain rfl:k=l.length:=by omega
   have q1:decide ((l.length:Int)<(l.length:Nat))=false:=by simp
   go_wp2;go_ret;exact⟨by rw[hok.o];simp;omega,hbw⟩
end
section
set_option maxRecDepth 100000
set_option maxHeartbeats 4000000
open Go.RowKit
open Clk (inz swp)
def Srt(w:World)(B:Nat)(v:Value)(l:List Int)(w':World):Prop:=∃l':List Int,l'.Perm l/\Clk.sorted l'/\jg w' B v l'/\Below B w w'
theorem GL(l:List Int)(g n c:Nat)(w:World)(B:Nat)(how:jg w B (.slice (some (g,0)) n c) l)(hn:n=l.length)(h0:0<n)(h12:n<=12):
  Calls Tryz.prog 237 #[.slice (some (g,0)) n c,↑(0:Int),↑n] w λe w'=>e=.returned (.tuple #[])/\Srt w B (.slice (some (g,0)) n c) l w':=by
 have HN:=af hn;clear hn;have hBg:=how.lt g rfl
 go_enter Tryz.func237,Tryz.ntmps237
 go_wp2
 go_loopw [6] (λi wr=>∃(k:Nat)(m:List Int),1<=k/\k<=n/\i=↑k/\m.Perm l/\(∀p q,p<q->q<k->m.getD p 0<=m.getD q 0)/\jg wr B (.slice (some (g,0)) n c) m/\Below B w wr) (λi _=>n-(intOf i).toNat)
 case atStart=>exact⟨1,l,by omega,by omega,rfl,List.Perm.refl _,λp q _ _=>by omega,how,ah _ _⟩
 case round=>
  obtain⟨k,m,hk1,hk,rfl,hp,hs,ho,hb⟩:=hrel;have hm:=af hp.length_eq;by_cases hlt:k<n
  ·have q1:decide ((k:Int)<(n:Nat))=true:=by simp;omega
   go_wp2
   go_loopw [7] (λj wi=>∃(t:Nat)(m':List Int),t<=k/\j=↑t/\m'.Perm l/\inz m' k t/\jg wi B (.slice (some (g,0)) n c) m'/\Below B w wi) (λj _=>(intOf j).toNat)
   case atStart=>exact⟨k,m,by omega,rfl,hp,Clk.GQ hs,ho,hb⟩
   case round=>
    obtain⟨t,m',ht,rfl,hp',hi,ho',hb'⟩:=hrel;have hm':=af hp'.length_eq;by_cases h00:0<t
    ·have c1:=ho'.cell (i:=t) (by have:=HN.o;have:=hm'.o;omega) (by have:=HN.o;have:=hm'.o;omega)
     have c2:=ho'.cell (i:=t-1) (by have:=HN.o;have:=hm'.o;omega) (by have:=HN.o;have:=hm'.o;omega);have f1:=ho'.frozen (by have:=HN.o;have:=hm'.o;omega) t;have f2:=ho'.frozen (by have:=HN.o;have:=hm'.o;omega) (t-1);have q2:decide ((0:Int)<(t:Nat))=true:=by simp;omega
     have hdn:=λnq=>af (ho'.below (aC (ah wr wr) nq) lr);have hbn:=λnq=>af (hb'.trans (aC (ah B wr) nq));by_cases yU:m'.getD t 0<m'.getD (t-1) 0
     ·have hstep:=af (Clk.GR hi h00 ht (by have:=HN.o;have:=hm'.o;omega) yU)
      have hset:∀W,jg W B (.slice (some (g,0)) n c) m'->jg ((W.setCell (g,t) ↑(m'.getD (t-1) 0)).setCell (g,t-1) ↑(m'.getD t 0)) B (.slice (some (g,0)) n c) (swp m' t):=λW hW=>(hW.set (by have:=HN.o;have:=hm'.o;omega) t (m'.getD (t-1) 0) (by have:=HN.o;have:=hm'.o;omega)).set (by simp;have:=HN.o;have:=hm'.o;omega) (t-1) (m'.getD t 0) (by simp;have:=HN.o;have:=hm'.o;omega);have hset:=af hset;obtain⟨s,rfl⟩:∃s,t=s+1:=⟨t-1,by omega⟩;simp only[Nat.add_sub_cancel]at c2 f2 yU hset;generalize m'.getD (s+1) 0=x at *;generalize m'.getD s 0=y at *;have q3:decide (x<y)=true:=by simp;omega
      go_wp2
      go_quiet ((go_at_call 243;exact bI (yT _ _ _)))
      go_wp2
      go_region
      go_wp2;go_roundw
      case rel=>exact⟨s,swp m' (s+1),by omega,rfl,(Clk.GU m' (s+1) h00 (by have:=HN.o;have:=hm'.o;omega)).trans hp',hstep.o,hset.o _ (hdn _).o,((hbn _).o.setCell (p:=(g,s+1)) hBg.1 _).setCell (p:=(g,s)) hBg.1 _⟩
      case measure=>simp[intOf]
     ·have hend:=af (Clk.yV hi (.inr (by omega)))
      generalize m'.getD t 0=x at *;generalize m'.getD (t-1) 0=y at *;have q3:decide (x<y)=false:=aj (by omega);go_wp2
      go_quiet ((go_at_call 243;exact bI (yT _ _ _)))
      go_wp2;go_roundw
      case rel=>exact⟨k+1,m',by omega,by omega,by go_num,hp',hend.o,(hdn _).o,(hbn _).o⟩
      case measure=>simp[intOf];omega
    ·have hend:=af (Clk.yV hi (.inl (by omega)))
     have hdn:=λnq=>af (ho'.below (aC (ah wr wr) nq) lr);have hbn:=λnq=>af (hb'.trans (aC (ah B wr) nq));have q2:decide ((0:Int)<(t:Nat))=false:=aj (by omega);go_wp2
     go_quiet (fail)
     go_wp2;go_roundw
     case rel=>exact⟨k+1,m',by omega,by omega,by go_num,hp',hend.o,(hdn _).o,(hbn _).o⟩
     case measure=>simp[intOf];omega
  ·have q1:decide ((k:Int)<(n:Nat))=false:=by simp;omega
   have hkn:k=n:=by omega
   have hfin:Clk.sorted m:=λp q h1 h2=>hs p q h1 (by have:=HN.o;have:=hm.o;omega);have hfin:=af hfin;clear hkn hs;go_wp2;exact aD (ax (by rfl) _ _ _) rfl ⟨rfl,m,hp,hfin.o,ho,hb⟩
theorem GV(l:List Int)(g n c:Nat)(k:Int)(w:World)(B:Nat)(how:jg w B (.slice (some (g,0)) n c) l)(hn:n=l.length)(h0:0<n)(h12:n<=12):
  Calls Tryz.prog 235 #[.slice (some (g,0)) n c,↑(0:Int),↑n,↑k] w λe w'=>e=.returned (.tuple #[])/\Srt w B (.slice (some (g,0)) n c) l w':=by
 have H:=af (GL l g n c w B how hn h0 h12);clear how hn;have q1:decide ((n:Int)<=12)=true:=by simp;omega
 go_enter Tryz.func235,Tryz.ntmps235
 go_wp2_with fail;refine wp_loop_once ?_;go_wp2_with fail;refine H.o.mono ?_;rintro e w' ⟨rfl,hs⟩;go_wp2;exact aK (ax (by rfl) _ _ _) rfl ⟨rfl,hs⟩
theorem GX(l:List Int)(g n c:Nat)(w:World)(B:Nat)(how:jg w B (.slice (some (g,0)) n c) l)(hn:n=l.length)(h0:0<n)(h12:n<=12):
  Calls Tryz.prog 233 #[.slice (some (g,0)) n c] w λe w'=>e=.returned (.tuple #[])/\Srt w B (.slice (some (g,0)) n c) l w':=by
 have H:=λk=>af (GV l g n c k w B how hn h0 h12);have K:=af (GK (n:Int) w (by omega));clear how hn
 go_enter Tryz.func233,Tryz.ntmps233
 go_wp2_with fail;refine K.o.mono ?_;rintro e w' ⟨k,rfl,rfl⟩;go_wp2_with fail;refine(H k).o.mono ?_;rintro e w' ⟨rfl,hs⟩;go_wp2;exact aD (ax (by rfl) _ _ _) rfl ⟨rfl,hs⟩
theorem GY(l:List Int)(v:Value)(w:World)(B:Nat)(hv:ja w B v l)(h0:0<l.length)(h4:l.length<=1000):
  Calls Tryz.prog 232 #[v] w λe w'=>∃v',e=.returned v'/\jg w' w v' l/\Below w w w':=by
 obtain⟨A,c,rfl,h1,h2,h3,h4'⟩:=hv.at_;obtain⟨b,off,rfl,hb,hc⟩:=h3 h0;have H:=af (uV w 3 rfl w w lr rfl);have hs:=af ((hv.alloc (.cells #[] 3)));have q0:=dw (P:=Tryz.prog) w 33 3 (some (b,off)) l.length c 0 0 Tryz.underlying33;clear hv h3 h4' hc
 go_enter Tryz.func232,Tryz.ntmps232
 go_wp2_with (at_builtin;go_loud (refine pE _ rfl (.tmp 5) (.tmp 6) 33 rfl w oh Tryz.underlying33 _ [] H.o rfl _ _ l rfl hs.o (by simp) (by simp;omega) ?_));intro v' w' ho he;go_wp2;go_ret;exact⟨_,rfl,by simpa using ho,((ah _ _).alloc lr _).trans (he.toBelow (by simp) (λj hj=>by simp[Value.ownBlock]at hj;omega))⟩
end
section
set_option maxRecDepth 100000
set_option maxHeartbeats 4000000
open Go.RowKit
open Clk (iM lR lS avg)
theorem yX(l:List Int)(k:Nat)(h:k<l.length):iM (l.take (k+1))=iM (l.take k)+l.getD k 0:=by
 rw[fN h,Clk.qy,ay,aP h];simp[iM]
theorem yY(f:Int->Int->Int)(a:Int)(l:List Int)(k:Nat)(h:k<l.length):(l.take (k+1)).foldl f a=f ((l.take k).foldl f a) (l.getD k 0):=by
 rw[fN h,fO,ay,aP h]
 rfl
theorem yZ{l:List Int}(h:small l)(k:Nat)(hk:k<=4):-4398046511104<=iM (l.take k)/\iM (l.take k)<=4398046511104:=by
 have:∀m:List Int,small m->m.length<=4->-4398046511104<=iM m/\iM m<=4398046511104:=by
  intro m hm h4
  match m,hm,h4 with
  |[],_,_=>simp[iM]
  |[a],hm,_=>simp[small]at hm;simp[iM];omega
  |[a,b],hm,_=>simp[small]at hm;simp[iM];omega
  |[a,b,c],hm,_=>simp[small]at hm;simp[iM];omega
  |[a,b,c,d],hm,_=>simp[small]at hm;simp[iM];omega
 exact this _ (λx hx=>h x (bM hx)) (by simp;omega)
theorem y9(l:List Int)(v:Value)(w:World)(B:Nat)(hv:ja w B v l)(hs:small l)(h12:l.length=1\/l.length=2):
  Calls Tryz.prog 234 #[v] w λe w'=>e=.returned ↑(iM l / (l.length:Int):Int)/\w'=w:=by
 obtain⟨A,c,rfl,h1,h2,h3,h4⟩:=hv.at_;obtain⟨b,off,rfl,hb,hc⟩:=h3 (by omega);have HS:=af (yX l);have HB:=af (λk=>hs.getD k);have HC:Hid (∀k,k<l.length->w.cell? (b,off+k)=some ↑(l.getD k 0)):=af hc;have HT:=af (yZ hs);have HF:Hid (∀k,k=l.length->iM (l.take k)=iM l):=af (λk hk=>by rw[hk,dz]);clear hv h3 h4 hc hs;have go:∀N:Nat,l.length=N->(N=1\/N=2)->Calls Tryz.prog 234 #[.slice (some (b,off)) N c] w λe w'=>e=.returned ↑(iM l / (N:Int):Int)/\w'=w:=by
  intro N hN hN2;have HN:=af hN;clear hN;rcases hN2 with rfl|rfl
  ·go_enter Tryz.func234,Tryz.ntmps234
   go_wp2
   go_loop [3,4,9] (λu r i=>∃(k:Nat)(a:Int),k<=1/\i=↑k/\u=↑a/\r=↑(0:Int)/\a=iM (l.take k)) (λ_ _ i=>1-(intOf i).toNat)
   case atStart=>exact⟨0,0,by omega,rfl,rfl,rfl,by simp[iM]⟩
   case round=>
    obtain⟨k,a,hk,rfl,rfl,rfl,he⟩:=hrel;have HE:=af he;clear he;have bd:-4398046511104<=a/\a<=4398046511104:=by have:=HE.o;have:=HT.o k (by omega);omega
    obtain⟨bd1,bd2⟩:=bd;by_cases hlt:k<1
    ·obtain rfl:k=0:=by omega
     have c1:=HC.o 0 (by have:=HN.o;omega);have hst:Hid (iM (l.take 1)=iM (l.take 0)+l.getD 0 0):=af (HS.o 0 (by have:=HN.o;omega));obtain⟨x1,x2⟩:=HB.o 0;generalize l.getD 0 0=x at *;simp only[gC]at c1;go_wp2
     go_round
     case rel=>exact⟨1,a+x,by omega,by go_num,by simp,by simp,by have:=hst.o;have:=HE.o;omega⟩
     case measure=>simp[intOf]
    ·obtain rfl:k=1:=by omega
     go_wp2;go_ret;exact⟨lY (by have:=HE.o;have:=HF.o 1 (by have:=HN.o;omega);omega),rfl⟩
  ·go_enter Tryz.func234,Tryz.ntmps234
   go_wp2
   go_loop [3,4,9] (λu r i=>∃(k:Nat)(a q:Int),k<=2/\i=↑k/\u=↑a/\r=↑q/\2*a+q=iM (l.take k)/\-(k:Int)<=q/\q<=k) (λ_ _ i=>2-(intOf i).toNat)
   case atStart=>exact⟨0,0,0,by omega,rfl,rfl,rfl,by simp[iM],by omega,by omega⟩
   case round=>
    obtain⟨k,a,q,hk,rfl,rfl,rfl,he,hq1,hq2⟩:=hrel;have HE:=af he;clear he;have bd:-4398046511104<=a/\a<=4398046511104/\-2<=q/\q<=2:=by have:=HE.o;have:=HT.o k (by omega);omega
    obtain⟨bd1,bd2,bd3,bd4⟩:=bd;by_cases hlt:k<2
    ·have q1:decide ((k:Int)<2)=true:=by simp;omega
     have c1:=HC.o k (by have:=HN.o;omega);have hst:=af (HS.o k (by have:=HN.o;omega));obtain⟨x1,x2⟩:=HB.o k;generalize l.getD k 0=x at *;have H2:=af (Clk.td2 x);have d1:-1099511627776<=x.tdiv 2/\x.tdiv 2<=1099511627776/\-1<=x.tmod 2/\x.tmod 2<=1:=by have:=H2.o;omega
     obtain⟨d1,d2,d3,d4⟩:=d1;go_wp2
     go_round
     case rel=>exact⟨k+1,a+x.tdiv 2,q+x.tmod 2,by omega,by go_num,rfl,rfl,by have:=hst.o;have:=HE.o;have:=H2.o;omega,by omega,by omega⟩
     case measure=>simp[intOf];omega
    ·obtain rfl:k=2:=by omega
     have H2:=af (Clk.td2 q);have d1:-2<=q.tdiv 2/\q.tdiv 2<=2/\-1<=q.tmod 2/\q.tmod 2<=1:=by have:=H2.o;omega
     obtain⟨d1,d2,d3,d4⟩:=d1;have hf:=af (HF.o 2 (by have:=HN.o;omega));by_cases hneg:q.tmod 2<0
     ·have q1:decide (q.tmod 2<0)=true:=av hneg
      go_wp2;go_ret;exact⟨lY (by have:=hf.o;have:=HE.o;have:=H2.o;omega),rfl⟩
     ·have q1:decide (q.tmod 2<0)=false:=aj hneg
      go_wp2;go_ret;exact⟨lY (by have:=hf.o;have:=HE.o;have:=H2.o;omega),rfl⟩
 exact go _ rfl h12
theorem GZ(l:List Int):lR l=l.foldl min (l.getD 0 0):=by
 cases l with
 |nil=>rfl
 |cons x l=>show l.foldl min x=l.foldl min (min x x);rw[show min x x=x by omega]
theorem G0(l:List Int):lS l=l.foldl max (l.getD 0 0):=by
 cases l with
 |nil=>rfl
 |cons x l=>show l.foldl max x=l.foldl max (max x x);rw[show max x x=x by omega]
theorem G1{l:List Int}(h:small l)(k:Nat):(-1099511627776<=(l.take k).foldl min (l.getD 0 0)/\(l.take k).foldl min (l.getD 0 0)<=1099511627776)/\(-1099511627776<=(l.take k).foldl max (l.getD 0 0)/\(l.take k).foldl max (l.getD 0 0)<=1099511627776):=by
 have h0:=h.getD 0;constructor
 ·rcases Clk.ze (l.take k) (l.getD 0 0)with e|e
  ·omega
  ·exact h _ (bM e)
 ·rcases Clk.zf (l.take k) (l.getD 0 0)with e|e
  ·omega
  ·exact h _ (bM e)
theorem G3(x m:Int):(if x<m then x else m)=min m x:=by split<;>omega
theorem G4(x m:Int):(if m<x then x else m)=max m x:=by split<;>omega
theorem zh(l:List Int)(v:Value)(w:World)(B:Nat)(hv:ja w B v l)(hs:small l)(h4:l.length<=4):
  Calls Tryz.prog 211 #[v] w λe w'=>e=.returned ↑(avg l)/\Below w w w':=by
 obtain⟨A,c,rfl,h1,h2,h3,-⟩:=hv.at_;by_cases h0:l.length=0
 ·have e:avg l=0:=by unfold avg;rw[au h0]
  rw[h0,e];clear hv h3
  go_enter Tryz.func211,Tryz.ntmps211
  go_wp2;go_ret;exact⟨rfl,ah _ _⟩
 obtain⟨b,off,rfl,hb,hc⟩:=h3 (by omega);have HS:=af (yX l);have HM:=af (yY min (l.getD 0 0) l);have HX:=af (yY max (l.getD 0 0) l);have HB:=af (λk=>hs.getD k);have hbw:b<w.heap.size:=gh w _ (hc 0 (by omega));have HC:Hid (∀W:World,Below w w W->∀k,k<l.length->W.cell? (b,off+k)=some ↑(l.getD k 0)):=af (λW hW k hk=>(hW.cell hbw).trans (hc k hk));have HT:=af (yZ hs);have HD:=af (G1 hs);have HF:Hid (∀k,k=l.length->l.take k=l):=af (λk hk=>by rw[hk,dz]);have HA:Hid (avg l=if l.length<3 then iM l / (l.length:Int)else(iM l-l.foldl min (l.getD 0 0)-l.foldl max (l.getD 0 0)) / ((l.length:Int)-2)):=af (by unfold avg;rw[ai h0,GZ,G0]);clear hv h3 hc hs;generalize hR:avg l=R at *;clear hR;have go:∀N:Nat,l.length=N->(N=1\/N=2\/N=3\/N=4)->Calls Tryz.prog 211 #[.slice (some (b,off)) N c] w λe w'=>e=.returned ↑R/\Below w w w':=by
  intro N hN hN2;have HN:=af hN;clear hN;have c0:w.cell? (b,off)=some ↑(l.getD 0 0):=HC.o w (ah _ _) 0 (by have:=HN.o;omega);generalize l.getD 0 0=z0 at *;obtain⟨nb1,nb2⟩:1<=N/\N<=4:=by omega
  have q0:((N:Int)==0)=false:=by simp;omega
  go_enter Tryz.func211,Tryz.ntmps211
  go_wp2
  go_region
  go_wp2
  go_loopw [3,4,5,6] (λu p q i wr=>∃(k:Nat),k<=N/\i=↑k/\u=↑(iM (l.take k))/\p=↑((l.take k).foldl min z0)/\q=↑((l.take k).foldl max z0)/\Below w w wr) (λ_ _ _ i _=>N-(intOf i).toNat)
  case atStart=>exact⟨0,by omega,rfl,by simp[iM],by simp,by simp,(ah _ _).drew⟩
  case round=>
   obtain⟨k,hk,rfl,rfl,rfl,rfl,hbw⟩:=hrel;obtain⟨s1,s2⟩:=HT.o k (by omega);obtain⟨⟨m1,m2⟩,⟨x1,x2⟩⟩:=HD.o k;by_cases hlt:k<N
   ·have q1:decide ((k:Int)<(N:Nat))=true:=by simp;omega
    have HS1:=af (HS.o k (by have:=HN.o;omega));have HM1:=af (HM.o k (by have:=HN.o;omega));have HX1:=af (HX.o k (by have:=HN.o;omega));have c1:=λW hW=>HC.o W hW k (by have:=HN.o;omega);obtain⟨y1,y2⟩:=HB.o k;generalize l.getD k 0=x at *;generalize iM (l.take k)=sm at *;generalize(l.take k).foldl min z0=mn at *;generalize(l.take k).foldl max z0=mx at *;have c2:=c1 wr hbw;go_wp2
    go_region
    go_wp2;go_roundw
    case rel=>exact⟨k+1,by omega,by go_num,by rw[HS1.o],by rw[HM1.o,G3],by rw[HX1.o,G4],hbw.drew⟩
    case measure=>simp[intOf];omega
   ·have q1:decide ((k:Int)<(N:Nat))=false:=by simp;omega
    have HK:=af (HF.o k (by have:=HN.o;omega));rw[HK.o]at s1 s2 m1 m2 x1 x2 ⊢;rcases hN2 with rfl|rfl|rfl|rfl
    case inl=>
     go_wp2_with fail;refine(yR _ _ (by omega)).mono ?_;rintro e w' ⟨rfl,rfl⟩;go_wp2;go_ret;exact⟨lY (by have:=HA.o;have:=HN.o;rw[HA.o,HN.o];simp),hbw⟩
    case inr.inl=>
     go_wp2_with fail;refine(yS _ _ (by omega)).mono ?_;rintro e w' ⟨rfl,rfl⟩;go_wp2;go_ret;exact⟨lY (by have:=HA.o;have:=HN.o;rw[HA.o,HN.o];simp),hbw⟩
    case inr.inr.inl=>
     go_wp2_with fail;refine(yR _ _ (by omega)).mono ?_;rintro e w' ⟨rfl,rfl⟩;go_wp2;go_ret;exact⟨lY (by have:=HA.o;have:=HN.o;rw[HA.o,HN.o];simp),hbw⟩
    case inr.inr.inr=>
     go_wp2_with fail;refine(yS _ _ (by omega)).mono ?_;rintro e w' ⟨rfl,rfl⟩;go_wp2;go_ret;exact⟨lY (by have:=HA.o;have:=HN.o;rw[HA.o,HN.o];simp),hbw⟩
 exact go _ rfl (by omega)
end
end Go.Proofs.YteadkhigkmijiaaGreat
