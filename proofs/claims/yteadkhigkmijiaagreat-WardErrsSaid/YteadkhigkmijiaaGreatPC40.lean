/- Texts VdL, Acts4O, FtO, AcO, StA, StL, RfN, Rf6, RfW, WlS, BoolsO, GdO in one. -/
import Derived.Lib.SmallJoins
import Derived.Deep.RegionHeld3
import Derived.RegionTactic
import Derived.Laws.MakeOwn
import Derived.Test.YteadkhigkmijiaaGreatPC1
import Derived.Test.YteadkhigkmijiaaGreatPC2
import Derived.Test.YteadkhigkmijiaaGreatPC3
import Derived.Test.YteadkhigkmijiaaGreatPC6
import Derived.Test.YteadkhigkmijiaaGreatPC9
import Derived.Test.YteadkhigkmijiaaGreatPC12
import Derived.Test.YteadkhigkmijiaaGreatPC14
import Derived.Test.YteadkhigkmijiaaGreatPC16
import Derived.Test.YteadkhigkmijiaaGreatPC21
import Derived.Test.YteadkhigkmijiaaGreatPC28
set_option linter.all false
namespace Go.Proofs.YteadkhigkmijiaaGreat
section
set_option maxRecDepth 100000
set_option maxHeartbeats 4000000
open Go.RowKit
open Tb (D T)
theorem yu(n:Nat)(dr:Int)(hn:n<=8)(hd:0<=dr/\dr<=1000)(w:World):
  Calls Tryz.prog 8 #[↑(n:Nat),↑dr] w λe w'=>∃v,e=.returned (jW (jA n dr) v)/\jm w' w v (jQ n)/\Below w w w':=by
 have hsu:=af J7;have hsl:=af lB;have z1:IntKind.i64.wrap (4*dr)=4*dr:=aO _ (by omega);have z2:IntKind.i64.wrap (4*dr+6)=4*dr+6:=aO _ (by omega);have z3:IntKind.i64.wrap (4*dr+9)=4*dr+9:=aO _ (by omega);unfold jA jW;simp only
 go_enter Tryz.func8,Tryz.ntmps8
 have hb0:=((ah w w).alloc lr (.cells #[.slice none 0 0,↑(0:Int),↑(0:Int),↑(0:Int)] 31)).alloc (by simp) (.cells #[.slice none 0 0,↑dr,↑(4*dr+6:Int),↑(4*dr+9:Int)] 31);have hR:=(aJ w _ rfl #[.slice none 0 0,↑(0:Int),↑(0:Int),↑(0:Int)] 31).alloc (.cells #[.slice none 0 0,↑dr,↑(4*dr+6:Int),↑(4*dr+9:Int)] 31);have hT:=aJ (w.alloc (.cells #[.slice none 0 0,↑(0:Int),↑(0:Int),↑(0:Int)] 31)) (w.heap.size+1) (by simp) #[.slice none 0 0,↑dr,↑(4*dr+6:Int),↑(4*dr+9:Int)] 31;go_wp2;generalize(w.alloc (.cells #[.slice none 0 0,↑(0:Int),↑(0:Int),↑(0:Int)] 31)).alloc (.cells #[.slice none 0 0,↑dr,↑(4*dr+6:Int),↑(4*dr+9:Int)] 31)=w0 at *;have hz0:w.heap.size+1<w0.heap.size:=hT.lt
 go_loopw [6] (λi wr=>∃k:Nat,∃v:Value,k<=n/\i=↑k/\jm wr w0 v (jQ k)/\Blk wr (w.heap.size+1) #[v,↑dr,↑(4*dr+6:Int),↑(4*dr+9:Int)] 31/\w0.heap.size<=wr.heap.size/\Below (w.heap.size+1) w0 wr) (λi _=>n-(intOf i).toNat)
 case atStart=>exact⟨0,_,by omega,rfl,jm.nil,hT,aR _,ah _ _⟩
 case round=>
  obtain⟨k,v,hk,rfl,hown,hblk,hz,hb⟩:=hrel;by_cases hlt:k<n
  ·have q1:decide ((k:Int)<(n:Nat))=true:=by simp;omega
   have q2:decide ((k:Int)<8)=true:=by simp;omega
   have t0:=hblk.cell 0 rfl;have tf:=hblk.frozen 0;have hlk:(jQ k).length<=100000:=by rw[lB];omega
   have hgv:v.ownBlock≠some (w.heap.size+1):=λe=>by have:=(hown.lt _ e).1;omega
   have key:∀b:Bool,qK k=⟨b,((k:Int)%3==0),20+3*((k:Int)*5%8),4⟩->∀(v2:Value)(w2:World),w2.ownsRow w0 67 4 v2 ((jQ k).length+1) ((jQ k).flatMap dc++dc ⟨b,((k:Int)%3==0),20+3*((k:Int)*5%8),4⟩)->
     Ext (wr.alloc (.cells #[↑b,↑((k:Int)%3==0),↑(20+3*((k:Int)*5%8):Int),↑(4:Int)] 67)) w2 v v2->∃g2 c2,v2=.slice (some ⟨g2,0,none⟩) (k+1) c2/\Blk w2 (w.heap.size+1) #[v,↑dr,↑(4*dr+6:Int),↑(4*dr+9:Int)] 31/\
     jm (w2.setCell (w.heap.size+1,0) (.slice (some (g2,0)) (k+1) c2)) w0 v2 (jQ (k+1))/\Blk (w2.setCell (w.heap.size+1,0) (.slice (some (g2,0)) (k+1) c2)) (w.heap.size+1) #[.slice (some (g2,0)) (k+1) c2,↑dr,↑(4*dr+6:Int),↑(4*dr+9:Int)] 31/\
     w0.heap.size<=(w2.setCell (w.heap.size+1,0) (.slice (some (g2,0)) (k+1) c2)).heap.size/\Below (w.heap.size+1) w0 (w2.setCell (w.heap.size+1,0) (.slice (some (g2,0)) (k+1) c2)):=λb hsd v2 w2 ho2 hx2=>by
    rw[<-hsd]at ho2;have ho3:jm w2 w0 v2 (jQ (k+1)):=by
     rw[hsu.o];exact jm.snoc ho2
    have hxx:=((Ext.refl wr v).alloc (.cells #[↑b,↑((k:Int)%3==0),↑(20+3*((k:Int)*5%8):Int),↑(4:Int)] 67)).trans hx2;have hb2:=hb.trans (hxx.toBelow (B:=w.heap.size+1) (by omega) (λj hj=>by have:=(hown.lt j hj).1;omega));have F4:=hblk.ext hxx hgv;have hl1:=hsl.o (k+1);obtain⟨g2,c2,rfl,hg2⟩:∃g2 c2,v2=.slice (some ⟨g2,0,none⟩) (k+1) c2/\w0.heap.size<=g2:=by
     rcases ho3.form with⟨-,h0⟩|⟨g2,c2,h,h1,-⟩
     ·omega
     ·exact⟨g2,c2,by rw[h,hl1],h1⟩
    refine⟨g2,c2,rfl,F4,ho3.setOther (w.heap.size+1,0) _ (by simp[Value.ownBlock];omega),by simpa using F4.set 0 (.slice (some (g2,0)) (k+1) c2),by have:=hxx.size;simp only[World.setCell,Array.size_modify];omega,aU (p:=(w.heap.size+1,0)) hb2 lr _⟩
   have key:=λb h=>af (key b h);have hSD:Hid (∀b,((b=true/\(k:Int)<4)\/(b=((k:Int)%2==0)/\¬(k:Int)<4))->qK k=⟨b,((k:Int)%3==0),20+3*((k:Int)*5%8),4⟩):=af λb hb=>by
    unfold qK;rcases hb with⟨rfl,h⟩|⟨rfl,h⟩<;>simp[h]
   by_cases q4:(k:Int)<4
   ·have K:=key true (hSD.o true (.inl ⟨rfl,q4⟩))
    have hAt:=FL wr ⟨true,((k:Int)%3==0),20+3*((k:Int)*5%8),4⟩ 67 wr.heap.size rfl;go_wp2_with (at_builtin;go_loud (refine og _ rfl (.tmp 25) (.tmp 42) 29 rfl w0 67 _ 4 24 wE rfl (by omega) Tryz.underlying29 v (jQ k).length _ (hown.alloc _) rfl _ 1 _ rfl (FK _ ⟨true,((k:Int)%3==0),20+3*((k:Int)*5%8),4⟩ _ _ _ rfl hAt) (by simp;omega) (uM hlk).1 (uM hlk).2 ?_));intro v2 w2 ho2 hx2;obtain⟨g2,c2,rfl,B1,O1,B2,Z1,W1⟩:=K.o v2 w2 ho2 hx2;have u0:=B1.cell 0 rfl;have uf:=B1.frozen 0;clear t0 tf ho2 hx2 hAt B1 K key;go_wp2;go_roundw
    case rel=>exact⟨k+1,_,by omega,by go_num,O1,B2,Z1,W1⟩
    case measure=>simp[intOf];omega
   ·have K:=key _ (hSD.o _ (.inr ⟨rfl,q4⟩))
    have hAt:=FL wr ⟨((k:Int)%2==0),((k:Int)%3==0),20+3*((k:Int)*5%8),4⟩ 67 wr.heap.size rfl;go_wp2_with (at_builtin;go_loud (refine og _ rfl (.tmp 25) (.tmp 42) 29 rfl w0 67 _ 4 24 wE rfl (by omega) Tryz.underlying29 v (jQ k).length _ (hown.alloc _) rfl _ 1 _ rfl (FK _ ⟨((k:Int)%2==0),((k:Int)%3==0),20+3*((k:Int)*5%8),4⟩ _ _ _ rfl hAt) (by simp;omega) (uM hlk).1 (uM hlk).2 ?_));intro v2 w2 ho2 hx2;obtain⟨g2,c2,rfl,B1,O1,B2,Z1,W1⟩:=K.o v2 w2 ho2 hx2;have u0:=B1.cell 0 rfl;have uf:=B1.frozen 0;clear t0 tf ho2 hx2 hAt B1 K key;go_wp2;go_roundw
    case rel=>exact⟨k+1,_,by omega,by go_num,O1,B2,Z1,W1⟩
    case measure=>simp[intOf];omega
  ·obtain rfl:k=n:=by omega
   have q1:decide ((k:Int)<(k:Nat))=false:=by simp
   obtain⟨A',c2,rfl,-⟩:=hown.sees.at_;have hR2:=hR.below hb (by omega);have t0:=hblk.cell 0 rfl;have t1:=hblk.cell 1 rfl;have t2:=hblk.cell 2 rfl;have t3:=hblk.cell 3 rfl;have r0:=hR2.cell 0 rfl;have r1:=hR2.cell 1 rfl;have r2:=hR2.cell 2 rfl;have r3:=hR2.cell 3 rfl;have f0:=hR2.frozen 0;have f1:=hR2.frozen 1;have f2:=hR2.frozen 2;have f3:=hR2.frozen 3;have hvR:(Value.slice A' (jQ k).length c2).ownBlock≠some w.heap.size:=λe=>by have:=(hown.lt _ e).1;omega
   have hbr:=hb0.trans (hb.mono (by omega));clear hR hT;go_wp2_with fail;refine aK (v:=.agg #[.slice A' (jQ k).length c2,↑dr,↑(4*dr+6:Int),↑(4*dr+9:Int)]) ?_ rfl ⟨_,rfl,?_,?_⟩
   ·rw[j4 rfl]
    go_simp
   ·refine jm.base (Bs:=w0.heap.size) ?_ (by omega)
    (repeat' (first|exact hown|exact hvR|(with_reducible refine jm.setOther ?_ _ _ ?_)))
   ·(repeat' (first|exact hbr|(with_reducible refine aU ?_ ?_ _)|exact aR _))
end
section
open Go.ChangeShapes Go.WideShapes Go.ChangeAt Go.RowKit Go.Joins Go.Deep
structure A4 where
 k:Int
 n:Int
 A:Option Addr
 c:Nat
 l:List Int
 q:Bool
 deriving Inhabited
section
variable {H:Type}{enc:TypeId×Value->H}{P:Program}{w:World}{base:Nat}{spare:Nat->Bool}{held:Bool}
theorem yB{t e:TypeId}{fuel:Nat}{v:Value}{y:DataW H×List MemPlace}(ht:P.underlying t=some (.slice e))(he:P.underlying e=some (.int .u8))(hc:P.cellsOf e=1)
  (h:DataW.trod enc P w base spare held fuel t [v]=some y):∃A c l,v=.slice A l.length c/\iI w w.heap.size (.slice A l.length c) l/\iK l:=by
 rcases open_ints ht he hc h with⟨hcs,_⟩|⟨x,n,c,zs,hcs,_,hl,hm,hz,_,hcell,hwz⟩
 ·obtain rfl:v=.slice none 0 0:=by simpa using hcs
  exact⟨none,0,[],rfl,gR,λx hx=>by simp at hx⟩
 ·obtain rfl:v=.slice (some x) n c:=by simpa using hcs
  have hnz:n<=zs.length:=by rw[hz];split<;>omega
  have hlen:(zs.take n).length=n:=by simp;omega
  refine⟨some x,c,zs.take n,by rw[hlen],⟨some x,c,rfl,by rw[hlen];exact hl,hm,?_,λh=>by cases h⟩,λz hz'=>?_⟩
  ·rw[hlen]
   intro h0;obtain⟨b,off,rfl,hb⟩:=uS (hcell 0 (by omega));refine⟨b,off,rfl,hb,λk hk=>?_⟩;have e:bv (zs.take n) k=.int .u8 (zs.getD k 0):=by simp[bv,ay,hk]
   rw[e];have:=hcell k (by omega);by_cases h0:k=0
   ·subst h0;simpa[Addr.add]using this
   ·simpa[Addr.add,h0]using this
  ·have:=bounds_u8 (hwz z (bM hz'))
   omega
theorem pz{t:TypeId}{n:Nat}{v:Value}{y:DataW H×List MemPlace}(hi:P.underlying t=some (.int .i64))(h:DataW.trod enc P w base spare held n t [v]=some y):∃z,v=.int .i64 z:=by
 obtain⟨z,hz,-⟩:=DataW.trod_int hi h;exact⟨z,by simpa using hz⟩
end
end
section
open Go.ChangeShapes Go.WideShapes Go.ChangeAt Go.RowKit Go.Joins Go.Deep
section
variable {H:Type}{enc:TypeId×Value->H}{P:Program}{w:World}{base:Nat}{spare:Nat->Bool}{held:Bool}
end
end
section
open Go.ChangeShapes Go.WideShapes Go.ChangeAt Go.RowKit Go.Joins Go.Deep
structure Ac where
 k:Int
 i:Int
 n:Int
 d:List Int
 f:List Ft
instance:Inhabited Ac:=⟨⟨0,0,0,[],[]⟩⟩
structure nV(W:World)(B b off:Nat)(x:Ac):Prop where
 c0:W.cell? (b,off)=some ↑x.k
 c1:W.cell? (b,off+1)=some ↑x.i
 c2:W.cell? (b,off+2)=some ↑x.n
 c3:∃v,W.cell? (b,off+3)=some v/\iI W B v x.d
 c4:∃v,W.cell? (b,off+4)=some v/\ju W B v x.f
structure j7(W:World)(B:Nat)(v:Value)(l:List Ac):Prop where
 at_:∃A c,v=.slice A l.length c/\l.length<=c/\c<=maxLen/\(0<l.length->∃b off,A=some ⟨b,off,none⟩/\b<B/\∀i,i<l.length->nV W B b (off+i*5) (l.getD i default))
 by_:∀x∈l,iK x.d
theorem nV.below{W W':World}{B b off:Nat}{x:Ac}(h:nV W B b off x)(hb:Below B W W')(hl:b<B):nV W' B b off x:=by
 obtain⟨c0,c1,c2,⟨v3,c3,s3⟩,v4,c4,s4⟩:=h;exact⟨(hb.cell (p:=(b,off)) hl).trans c0,(hb.cell (p:=(b,off+1)) hl).trans c1,(hb.cell (p:=(b,off+2)) hl).trans c2,⟨v3,(hb.cell (p:=(b,off+3)) hl).trans c3,s3.below hb⟩,v4,(hb.cell (p:=(b,off+4)) hl).trans c4,s4.below hb⟩
theorem nV.more{W:World}{B B' b off:Nat}{x:Ac}(h:nV W B b off x)(hB:B<=B'):nV W B' b off x:=by
 obtain⟨c0,c1,c2,⟨v3,c3,s3⟩,v4,c4,s4⟩:=h;exact⟨c0,c1,c2,⟨v3,c3,s3.more hB⟩,v4,c4,s4.more hB⟩
theorem j7.below{W W':World}{B:Nat}{v:Value}{l:List Ac}(h:j7 W B v l)(hb:Below B W W'):j7 W' B v l:=⟨by
 obtain⟨A,c,rfl,h1,h2,h3⟩:=h.at_;refine⟨A,c,rfl,h1,h2,λh0=>?_⟩;obtain⟨b,off,rfl,hbB,hc⟩:=h3 h0;exact⟨b,off,rfl,hbB,λi hi=>(hc i hi).below hb hbB⟩,h.by_⟩
theorem j7.more{W:World}{B B':Nat}{v:Value}{l:List Ac}(h:j7 W B v l)(hB:B<=B'):j7 W B' v l:=⟨by
 obtain⟨A,c,rfl,h1,h2,h3⟩:=h.at_;refine⟨A,c,rfl,h1,h2,λh0=>?_⟩;obtain⟨b,off,rfl,hbB,hc⟩:=h3 h0;exact⟨b,off,rfl,by omega,λi hi=>(hc i hi).more hB⟩,h.by_⟩
theorem j7.nil{W:World}{B:Nat}:j7 W B (.slice none 0 0) []:=⟨⟨none,0,rfl,aR _,bH _,λh=>absurd h (by simp)⟩,λ_ h=>by cases h⟩
theorem F9(l:List Ac)(k:Nat)(hk:k<l.length):l.getD k default∈l:=by
 rw[ay,aP hk];exact dS hk
section
variable {H:Type}{enc:TypeId×Value->H}{P:Program}{w:World}{base:Nat}{spare:Nat->Bool}{held:Bool}
theorem Ga{α:Type}{cs:Array α}(h:cs.size=5):∃c0 c1 c2 c3 c4,cs=#[c0,c1,c2,c3,c4]:=by
 obtain⟨l⟩:=cs
 match l,h with
 |[c0,c1,c2,c3,c4],_=>exact⟨c0,c1,c2,c3,c4,rfl⟩
theorem Gb{t:TypeId}{f0 f1 f2 f3 f4:Field}{fuel:Nat}{cs:List Value}{x:DataW H×List MemPlace}(ht:P.underlying t=some (.struct #[f0,f1,f2,f3,f4]))(h:DataW.trod enc P w base spare held fuel t cs=some x):
  ∃y0 y1 y2 y3 y4 n,cs.length=P.cellsOf t/\DataW.trod enc P w base spare held n f0.type ((cs.drop f0.offset).take (P.cellsOf f0.type))=some y0/\
   DataW.trod enc P w base spare held n f1.type ((cs.drop f1.offset).take (P.cellsOf f1.type))=some y1/\DataW.trod enc P w base spare held n f2.type ((cs.drop f2.offset).take (P.cellsOf f2.type))=some y2/\
   DataW.trod enc P w base spare held n f3.type ((cs.drop f3.offset).take (P.cellsOf f3.type))=some y3/\DataW.trod enc P w base spare held n f4.type ((cs.drop f4.offset).take (P.cellsOf f4.type))=some y4:=by
 obtain⟨xs,n,_,rfl,hl,hlen,hf⟩:=DataW.trod_struct ht h
 match xs,hlen with
 |[y0,y1,y2,y3,y4],_=>exact⟨y0,y1,y2,y3,y4,n,hl,by simpa using hf 0 f0 rfl,by simpa using hf 1 f1 rfl,by simpa using hf 2 f2 rfl,by simpa using hf 3 f3 rfl,by simpa using hf 4 f4 rfl⟩
theorem Gc{t e ti ts te:TypeId}{f0 f1 f2 f3:Field}{n:Nat}{v:Value}{y:DataW H×List MemPlace}(ht:P.underlying t=some (.slice e))(he:P.underlying e=some (.struct #[f0,f1,f2,f3]))(ce:P.cellsOf e=4)(t0:f0.type=ti/\f0.offset=0)(t1:f1.type=ti/\f1.offset=1)(t2:f2.type=ti/\f2.offset=2)(t3:f3.type=ts/\f3.offset=3)
  (hi:P.underlying ti=some (.int .i64)) (hs:P.underlying ts=some (.slice te)) (hu:P.underlying te=some (.int .u8)) (hc:P.cellsOf ti=1) (hcs:P.cellsOf ts=1) (hce:P.cellsOf te=1)
  (h:DataW.trod enc P w base spare held n t [v]=some y):∃l:List Ft,ju w w v l:=by
 rcases open_slice ht h with⟨hv,-⟩|⟨a,len,cap,m,k,Dt,Pl,hv,-,hl,hm,hmm,-,hx⟩
 ·obtain rfl:v=.slice none 0 0:=by simpa using hv
  exact⟨[],ju.nil⟩
 ·obtain rfl:v=.slice (some a) len cap:=by simpa using hv
  have hlm:len<=m:=by rw[hmm];split<;>omega
  have each:∀i,i<len->∃x:Ft×Value,(w.cell? (a.add (i*4))=some ↑x.1.k/\w.cell? (a.add (i*4+1))=some ↑x.1.n/\w.cell? (a.add (i*4+2))=some ↑x.1.a/\w.cell? (a.add (i*4+3))=some x.2)/\iI w w x.2 x.1.d/\iK x.1.d:=by
   intro i hi';obtain⟨cs',h1,h2⟩:=hx i (by omega);rw[ce]at h1;obtain⟨_,hlen,hcell⟩:=World.cells?_some h1
   match cs',hlen with
   |[v0,v1,v2,v3],_=>
    obtain⟨y0,y1,y2,y3,q,_,_,g0,g1,g2,g3⟩:=trod_struct4 he h2;rw[t0.1,t0.2,hc]at g0;rw[t1.1,t1.2,hc]at g1;rw[t2.1,t2.2,hc]at g2;rw[t3.1,t3.2,hcs]at g3;obtain⟨z0,rfl⟩:=pz hi g0;obtain⟨z1,rfl⟩:=pz hi g1;obtain⟨z2,rfl⟩:=pz hi g2;obtain⟨A',c',l,rfl,hS,hB⟩:=yB hs hu hce g3;have e0:=hcell 0 (by omega);have e1:=hcell 1 (by omega);have e2:=hcell 2 (by omega);have e3:=hcell 3 (by omega);rw[add_add]at e0 e1 e2 e3;exact⟨(⟨z0,z1,z2,l⟩,_),⟨by simpa using e0,by simpa using e1,by simpa using e2,by simpa using e3⟩,hS,hB⟩
  obtain⟨f,hf⟩:=choose_lt each;have hg:∀k,k<len->((List.range len).map λi=>(f i).1).getD k default=(f k).1:=λk hk=>by simp[ay,hk]
  refine⟨(List.range len).map λi=>(f i).1,⟨⟨some a,cap,by simp,by simpa using hl,hm,λh0=>?_⟩,λx hx=>?_⟩⟩
  ·simp only[dQ,dW]at h0 ⊢
   have h00:=(hf 0 h0).1.1;obtain⟨b,off,rfl,hbb⟩:=uS (v:=↑(f 0).1.k) (by simpa using h00);have hadd:∀j,((b,off):Addr).add j=(b,off+j):=λj=>by unfold Addr.add;split<;>simp_all
   simp only[hadd]at hf;refine⟨b,off,rfl,hbb,λk hk=>?_⟩;obtain⟨⟨e0,e1,e2,e3⟩,hS,-⟩:=hf k hk;rw[hg k hk];exact⟨e0,by rw[fe];exact e1,by rw[fe];exact e2,_,by rw[fe];exact e3,hS⟩
  ·simp only[fC,cA]at hx
   obtain⟨i,hi',rfl⟩:=hx;exact(hf i hi').2.2
theorem yC{t ti ts te tf ef:TypeId}{a0 a1 a2 a3 a4 f0 f1 f2 f3:Field}{n:Nat}{v0 v1 v2 v3 v4:Value}{y:DataW H×List MemPlace}(ha:P.underlying t=some (.struct #[a0,a1,a2,a3,a4]))(u0:a0.type=ti/\a0.offset=0)(u1:a1.type=ti/\a1.offset=1)(u2:a2.type=ti/\a2.offset=2)(u3:a3.type=ts/\a3.offset=3)(u4:a4.type=tf/\a4.offset=4)
  (ht:P.underlying tf=some (.slice ef)) (he:P.underlying ef=some (.struct #[f0,f1,f2,f3])) (ce:P.cellsOf ef=4) (t0:f0.type=ti/\f0.offset=0) (t1:f1.type=ti/\f1.offset=1) (t2:f2.type=ti/\f2.offset=2) (t3:f3.type=ts/\f3.offset=3)
  (hi:P.underlying ti=some (.int .i64)) (hs:P.underlying ts=some (.slice te)) (hu:P.underlying te=some (.int .u8)) (hc:P.cellsOf ti=1) (hcs:P.cellsOf ts=1) (hcf:P.cellsOf tf=1) (hce:P.cellsOf te=1)
  (h:DataW.trod enc P w base spare held n t [v0,v1,v2,v3,v4]=some y):∃x:Ac,v0=↑x.k/\v1=↑x.i/\v2=↑x.n/\iI w w v3 x.d/\ju w w v4 x.f/\iK x.d:=by
 obtain⟨y0,y1,y2,y3,y4,q,_,g0,g1,g2,g3,g4⟩:=Gb ha h;rw[u0.1,u0.2,hc]at g0;rw[u1.1,u1.2,hc]at g1;rw[u2.1,u2.2,hc]at g2;rw[u3.1,u3.2,hcs]at g3;rw[u4.1,u4.2,hcf]at g4;obtain⟨z0,rfl⟩:=pz hi g0;obtain⟨z1,rfl⟩:=pz hi g1;obtain⟨z2,rfl⟩:=pz hi g2;obtain⟨A',c',l,rfl,hS,hB⟩:=yB hs hu hce g3;obtain⟨lf,hF⟩:=Gc (v:=v4) ht he ce t0 t1 t2 t3 hi hs hu hc hcs hce g4;exact⟨⟨z0,z1,z2,l,lf⟩,rfl,rfl,rfl,hS,hF,hB⟩
theorem yD{t e ti ts te tf ef:TypeId}{a0 a1 a2 a3 a4 f0 f1 f2 f3:Field}{A:Option Addr}{n c:Nat}{d:DataW H}{ps:List MemPlace}(hts:P.underlying t=some (.slice e))(ha:P.underlying e=some (.struct #[a0,a1,a2,a3,a4]))(ca:P.cellsOf e=5)(u0:a0.type=ti/\a0.offset=0)(u1:a1.type=ti/\a1.offset=1)(u2:a2.type=ti/\a2.offset=2)(u3:a3.type=ts/\a3.offset=3)(u4:a4.type=tf/\a4.offset=4)
  (ht:P.underlying tf=some (.slice ef)) (he:P.underlying ef=some (.struct #[f0,f1,f2,f3])) (ce:P.cellsOf ef=4) (t0:f0.type=ti/\f0.offset=0) (t1:f1.type=ti/\f1.offset=1) (t2:f2.type=ti/\f2.offset=2) (t3:f3.type=ts/\f3.offset=3)
  (hi:P.underlying ti=some (.int .i64)) (hs:P.underlying ts=some (.slice te)) (hu:P.underlying te=some (.int .u8)) (hc:P.cellsOf ti=1) (hcs:P.cellsOf ts=1) (hcf:P.cellsOf tf=1) (hce:P.cellsOf te=1)
  (h:DataW.Trod enc P w base spare held t (.slice A n c) d ps):∃l,j7 w w (.slice A n c) l:=by
 obtain⟨fuel,h⟩:=h;rcases open_slice hts h with⟨hv,-⟩|⟨a,len,cap,m,k,Dt,Pl,hv,-,hl,hm,hmm,-,hx⟩
 ·simp[Value.cells]at hv
  obtain⟨rfl,rfl,rfl⟩:=hv;exact⟨[],j7.nil⟩
 ·simp[Value.cells]at hv
  obtain⟨rfl,rfl,rfl⟩:=hv;have hlm:n<=m:=by rw[hmm];split<;>omega
  have each:∀i,i<n->∃x:Ac×Value×Value,(w.cell? (a.add (i*5))=some ↑x.1.k/\w.cell? (a.add (i*5+1))=some ↑x.1.i/\w.cell? (a.add (i*5+2))=some ↑x.1.n/\w.cell? (a.add (i*5+3))=some x.2.1/\w.cell? (a.add (i*5+4))=some x.2.2)/\iI w w x.2.1 x.1.d/\ju w w x.2.2 x.1.f/\iK x.1.d:=by
   intro i hi';obtain⟨cs',h1,h2⟩:=hx i (by omega);rw[ca]at h1;obtain⟨_,hlen,hcell⟩:=World.cells?_some h1
   match cs',hlen with
   |[v0,v1,v2,v3,v4],_=>
    obtain⟨x,rfl,rfl,rfl,hS,hF,hB⟩:=yC ha u0 u1 u2 u3 u4 ht he ce t0 t1 t2 t3 hi hs hu hc hcs hcf hce h2;have e0:=hcell 0 (by omega);have e1:=hcell 1 (by omega);have e2:=hcell 2 (by omega);have e3:=hcell 3 (by omega);have e4:=hcell 4 (by omega);rw[add_add]at e0 e1 e2 e3 e4;exact⟨(x,v3,v4),⟨by simpa using e0,by simpa using e1,by simpa using e2,by simpa using e3,by simpa using e4⟩,hS,hF,hB⟩
  obtain⟨f,hf⟩:=choose_lt each;have hg:∀k,k<n->((List.range n).map λi=>(f i).1).getD k default=(f k).1:=λk hk=>by simp[ay,hk]
  refine⟨(List.range n).map λi=>(f i).1,⟨⟨some a,c,by simp,by simpa using hl,hm,λh0=>?_⟩,λx hx=>?_⟩⟩
  ·simp only[dQ,dW]at h0 ⊢
   have h00:=(hf 0 h0).1.1;obtain⟨b,off,rfl,hbb⟩:=uS (v:=↑(f 0).1.k) (by simpa using h00);have hadd:∀j,((b,off):Addr).add j=(b,off+j):=λj=>by unfold Addr.add;split<;>simp_all
   simp only[hadd]at hf;refine⟨b,off,rfl,hbb,λk hk=>?_⟩;obtain⟨⟨e0,e1,e2,e3,e4⟩,hS,hF,-⟩:=hf k hk;rw[hg k hk];exact⟨e0,by rw[fe];exact e1,by rw[fe];exact e2,⟨_,by rw[fe];exact e3,hS⟩,_,by rw[fe];exact e4,hF⟩
  ·simp only[fC,cA]at hx
   obtain⟨i,hi',rfl⟩:=hx;exact(hf i hi').2.2.2
theorem Gd{r:Reach}{b0:Nat}{t ti ts te tf ef:TypeId}{a0 a1 a2 a3 a4 f0 f1 f2 f3:Field}{v:Value}{d:DataW H}{ps:List MemPlace}(ha:P.underlying t=some (.struct #[a0,a1,a2,a3,a4]))(ca:P.cellsOf t=5)(u0:a0.type=ti/\a0.offset=0)(u1:a1.type=ti/\a1.offset=1)(u2:a2.type=ti/\a2.offset=2)(u3:a3.type=ts/\a3.offset=3)(u4:a4.type=tf/\a4.offset=4)
  (ht:P.underlying tf=some (.slice ef)) (he:P.underlying ef=some (.struct #[f0,f1,f2,f3])) (ce:P.cellsOf ef=4) (t0:f0.type=ti/\f0.offset=0) (t1:f1.type=ti/\f1.offset=1) (t2:f2.type=ti/\f2.offset=2) (t3:f3.type=ts/\f3.offset=3)
  (hi:P.underlying ti=some (.int .i64)) (hs:P.underlying ts=some (.slice te)) (hu:P.underlying te=some (.int .u8)) (hc:P.cellsOf ti=1) (hcs:P.cellsOf ts=1) (hcf:P.cellsOf tf=1) (hce:P.cellsOf te=1)
  (hv:Value.okWide P w r b0 t v) (h:DataW.Trod enc P w base spare held t v d ps):∃(x:Ac)(vd vf:Value),v=.agg #[↑x.k,↑x.i,↑x.n,vd,vf]/\iI w w vd x.d/\ju w w vf x.f/\iK x.d:=by
 obtain⟨cs,rfl,hsz⟩:=okWide_struct ha hv;obtain⟨v0,v1,v2,v3,v4,rfl⟩:=Ga (hsz.trans ca);obtain⟨fuel,hf⟩:=h;have hf':DataW.trod enc P w base spare held fuel t [v0,v1,v2,v3,v4]=some (d,ps):=by simpa[Value.cells]using hf
 obtain⟨x,rfl,rfl,rfl,hS,hF,hB⟩:=yC ha u0 u1 u2 u3 u4 ht he ce t0 t1 t2 t3 hi hs hu hc hcs hcf hce hf';exact⟨x,v3,v4,rfl,hS,hF,hB⟩
end
end
section
open Go.RowKit
end
section
open Go.RowKit
section
variable {F:List Nat}{g:Nat}{s:MS}{W:World}{v:Value}{l:List Int}{B:Nat}
end
theorem Jd{u v:Value}{l:List Int}{a:Int}{x:Bool}{B C:Nat}{w:World}(hu:iI w B u l)(hv:iI w C v l)(hl:iK l):
  Calls Tryz.prog 45 #[.agg #[u,.int .i64 a,.bool x],.agg #[v,.int .i64 a,.bool x]] w λe w'=>e=.returned (.bool true)/\Below w.heap.size w w':=by
 have:=QZ u v l l a a x x B C w hu hv hl hl;simpa using this
theorem iJ.blk{W:World}{B:Nat}{v:Value}{l:List Int}(h:iJ W B v l)(hl:l≠[]):∃b c,v=.slice (some ⟨b,0,none⟩) l.length c/\B<=b/\b<W.heap.size/\l.length<=c/\c<=maxLen/\W.cell? ⟨b,0,none⟩=some (.int .u8 (l.getD 0 0))/\W.frozen? ⟨b,0,none⟩=false:=by
 have h0:=aX.2 hl;rcases h.2 with⟨-,e⟩|⟨b,c,cur,rfl,hb,hg,hn,hc,-,-⟩
 ·rw[e]at h0
  exact absurd h0 (fD _)
 ·refine⟨b,c,rfl,hb,(bT.1 hg).1,hn,hc,?_,iP.frozen h 0⟩
  exact iP.cell h h0
end
section
open Go.RowKit
open Tb (D T)
theorem Oe(n a b:Int)(w:World):Calls Tryz.prog 91 #[↑n,↑a,↑b] w λe w'=>e=.returned ↑(Tb.wi n a b)/\w=w':=by
 unfold Tb.wi;by_cases h:a<=n
 all_goals
  go_enter Tryz.func91,Tryz.ntmps91
  go_wp2;go_ret;exact⟨by simp[*]<;>omega,rfl⟩
def uj(q:R4):Bool:=Tb.wi q.n 0 7&&Tb.wi q.lo 0 255&&Tb.wi q.hi q.lo 255&&Tb.wi q.st 0 65535
theorem Od(q:R4):uj q=decide q.may:=by
 have h:uj q=true↔q.may:=by
  unfold uj R4.may;simp only[bg,Tb.lC,and_assoc]
 rw[bY,h];exact decide_eq_true_iff.symm
theorem Oc{P:Program}(t e:TypeId)(i:TypeInfo)(z:Value)(ht:P.underlying t=some (.slice e))(hi:P.info? e=some i)(hz:i.zero=some z)
  (kl kc:IntKind) (n c:Nat) (hnc:n<=c) (hbytes:i.bytes*c<=281474976710656) (h63:c<=9223372036854775807) (w:World):
  (Instr.makeSlice t (.int kl (n:Int)) (.int kc (c:Int))).run P w=.ok (.slice (some (w,0)) n c) (w.alloc (.cells (madeCells z.cells (c*i.size)) e)):=by
 have hb:(i.bytes:Int)*(c:Int)<=281474976710656:=by
  have h:((i.bytes*c:Nat):Int)<=281474976710656:=by omega
  rwa[ic]at h
 have hr:=run_make (P:=P) w t e i z ht hi hz kl kc n c (by omega) (by omega) hb (by omega);simp only[aQ]at hr;exact hr
end
section
open Go.RowKit
theorem Jk:(Tryz.prog.info? 77).map (λi=>(i.zero,i.size,i.bytes))=some (some (.pointer none),1,8):=by kernel_rfl
theorem Jj(w:World)(t:TypeId)(b g:Nat)(hb:b=w.heap.size):Src (w.alloc (.cells #[↑(g,0)] t)) (.slice (some (b,0)) 1 1) 1 1 [↑(g,0)]:=by
 refine .inr ⟨_,1,rfl,rfl,λj x hj=>?_,λx hx=>?_⟩
 ·match j,hj with
  |0,hj=>simp at hj;subst hj;show(w.alloc _).cell? (b,0)=_;rw[aZ _ _ _ _ hb];rfl
  |j+1,hj=>simp at hj
 ·rw[bD.1 hx];rfl
structure MW(S x k:Nat)(sp v:Value)(ps:List Value)(X:Array Value)(w0 W:World):Prop where
 blk:Blk W x #[v,sp,↑(0:Int)] 74
 lst:W.ownsRow (x+1) 77 1 v k ps
 tab:Blk W S X 31
 lo:S<x
 bw:Below S w0 W
theorem MW.below{S x k:Nat}{sp v:Value}{ps:List Value}{X:Array Value}{w0 W W':World}(h:MW S x k sp v ps X w0 W)(b:Below W W W'):MW S x k sp v ps X w0 W':=
 ⟨h.blk.below b h.blk.lt,cB (row:=none) h.lst ⟨b.os,b.tape,b.output,b.size,λk hk _=>b.block k hk⟩ (by cases v.ownBlock<;>simp),h.tab.below b h.tab.lt,h.lo,h.bw.trans (b.mono (by have:=h.tab.lt;omega))⟩
end
section
set_option maxRecDepth 100000
set_option maxHeartbeats 2500000
open Go.RowKit
theorem yx(v:Value)(l:List Ac)(w:World)(hs:j7 w w.heap.size v l):
  Calls Tryz.prog 6 #[v] w λe w'=>∃q:Bool,e=.returned (.bool q)/\w'=w:=by
 obtain⟨A,c,rfl,hlen,hc,hcell⟩:=hs.at_;unfold maxLen at hc;clear hs
 go_enter Tryz.func6,Tryz.ntmps6
 go_wp2
 go_loopw [3] (λi wr=>∃k:Nat,k<=l.length/\i=.int .i64 k/\wr=w) (λi _=>l.length-(intOf i).toNat)
 case atStart=>exact⟨0,by omega,rfl,rfl⟩
 case round=>
  obtain⟨k,hk,rfl,rfl⟩:=hrel;by_cases hlt:k<l.length
  ·have q1:decide ((k:Int)<(l.length:Nat))=true:=by simp;omega
   by_cases TR:k<250
   ·have q2:decide ((k:Int)<250)=true:=by simp;omega
    have q2n:decide (k<250)=true:=by simp;omega
    obtain⟨b,off,rfl,hbb,hd⟩:=hcell (by omega);obtain⟨c0,c1,c2,⟨vd,c3,sd⟩,vf,c4,sf⟩:=hd k hlt;generalize l.getD k default=x at *;obtain⟨Ad,cd,rfl,-,hcd,-⟩:=sd.at_;obtain⟨Af,cf,rfl,hl0,hcf,hff⟩:=sf.at_;unfold maxLen at hcf hcd;clear c0 c1 c2 sd sf hd hcell;by_cases TT:100<x.d.length
    ·have q3:decide ((100:Int)<(x.d.length:Nat))=true:=av (by omega)
     go_wp2;go_ret;exact⟨false,rfl,rfl⟩
    ·have q3:decide ((100:Int)<(x.d.length:Nat))=false:=aj (by omega)
     by_cases h20:20<x.f.length
     ·have q4:decide ((20:Int)<(x.f.length:Nat))=true:=av (by omega)
      go_wp2;go_ret;exact⟨false,rfl,rfl⟩
     ·have q4:decide ((20:Int)<(x.f.length:Nat))=false:=aj (by omega)
      go_wp2
      rename World=>w1
      go_loopw [4] (λi wr=>∃j:Nat,j<=x.f.length/\i=.int .i64 j/\wr=w1) (λi _=>x.f.length-(intOf i).toNat)
      case atStart=>exact⟨0,by omega,rfl,rfl⟩
      case round=>
       obtain⟨j,hj,rfl,rfl⟩:=hrel;by_cases hlj:j<x.f.length
       ·have r1:decide ((j:Int)<(x.f.length:Nat))=true:=by simp;omega
        obtain⟨g,go,rfl,hgb,hg⟩:=hff (by omega);obtain⟨g0,g1,g2,u,g3,hu⟩:=hg j hlj;obtain⟨A',cc,rfl,-,hcc,-⟩:=hu.at_;unfold maxLen at hcc;clear g0 g1 g2 hg hff;generalize(x.f.getD j default).d.length=nd at *;by_cases h1:100<nd
        ·have r2:decide ((100:Int)<(nd:Nat))=true:=av (by omega)
         have r2n:decide (100<nd)=true:=av h1;go_wp2;go_ret;exact⟨false,rfl,rfl⟩
        ·have r2:decide ((100:Int)<(nd:Nat))=false:=aj (by omega)
         have r2n:decide (100<nd)=false:=aj h1;go_wp2;go_roundw
         case rel=>exact⟨j+1,by omega,by go_num,trivial⟩
         case measure=>simp[intOf];omega
       ·obtain rfl:j=x.f.length:=by omega
        have r1:decide ((x.f.length:Int)<(x.f.length:Nat))=false:=by simp
        go_wp2;go_roundw
        case rel=>exact⟨k+1,by omega,by go_num,trivial⟩
        case measure=>simp[intOf];omega
   ·have q2:decide ((k:Int)<250)=false:=by simp;omega
    have q2n:decide (k<250)=false:=by simp;omega
    go_wp2;go_ret;exact⟨true,rfl,rfl⟩
  ·obtain rfl:k=l.length:=by omega
   have q1:decide ((l.length:Int)<(l.length:Nat))=false:=by simp
   generalize hn:l.length=n at *;go_wp2;go_ret;exact⟨true,rfl,rfl⟩
end
section
open Go.ChangeShapes Go.WideShapes Go.ChangeAt Go.RowKit Go.Joins Go.Deep
section
variable {H:Type}{enc:TypeId×Value->H}{P:Program}{w:World}{base:Nat}{spare:Nat->Bool}{held:Bool}
theorem GH{t:TypeId}{n:Nat}{v:Value}{y:DataW H×List MemPlace}(hi:P.underlying t=some .bool)(h:DataW.trod enc P w base spare held n t [v]=some y):∃z,v=.bool z:=by
 obtain⟨z,hz,-⟩:=DataW.trod_bool hi h;exact⟨z,by simpa using hz⟩
end
end
section
open Go.ChangeShapes Go.WideShapes Go.ChangeAt Go.RowKit Go.Joins Go.Deep
def qL(x:Int):Prop:=-9223372036854775808<=x/\x<=9223372036854775807
def bs8(b0 b1 b2 b3 b4 b5 b6 b7:Bool)(i:Nat):Bool:=[b0,b1,b2,b3,b4,b5,b6,b7].getD i false
def is8(b0 b1 b2 b3 b4 b5 b6 b7:Int)(i:Nat):Int:=[b0,b1,b2,b3,b4,b5,b6,b7].getD i 0
section
variable {H:Type}{enc:TypeId×Value->H}{P:Program}{w:World}{base:Nat}{spare:Nat->Bool}{held:Bool}
theorem J8{t:TypeId}{n:Nat}{v:Value}{y:DataW H×List MemPlace}(hi:P.underlying t=some (.int .i64))(h:DataW.trod enc P w base spare held n t [v]=some y):∃z,v=.int .i64 z/\qL z:=by
 obtain⟨z,hz,hy,hw⟩:=DataW.trod_int hi h;exact⟨z,by simpa using hz,bounds_i64 hw⟩
theorem BO{r:Reach}{b0 n:Nat}{t e:TypeId}{v:Value}(ht:P.underlying t=some (.array n e))(h:Value.okWide P w r b0 t v):∃cs,v=.agg cs/\cs.size=P.cellsOf t:=by
 unfold Value.okWide at h;rw[ht]at h;obtain⟨cs,h1,h2,_⟩:=h;exact⟨cs,h1,h2⟩
theorem Tn{r:Reach}{b0:Nat}{t e:TypeId}{v:Value}{d:DataW H}{ps:List MemPlace}(ht:P.underlying t=some (.array 8 e))(hC:P.cellsOf t=8)(he:P.underlying e=some .bool)(hce:P.cellsOf e=1)
  (hv:Value.okWide P w r b0 t v) (h:DataW.Trod enc P w base spare held t v d ps):∃b0 b1 b2 b3 b4 b5 b6 b7:Bool,v=kZ (bs8 b0 b1 b2 b3 b4 b5 b6 b7):=by
 obtain⟨cs,rfl,hsz⟩:=BO ht hv;obtain⟨fuel,hf⟩:=h;obtain⟨cl⟩:=cs;have vU:cl.length=8:=hsz.trans hC
 match cl,vU with
 |[c0,c1,c2,c3,c4,c5,c6,c7],_=>
  obtain⟨xs,m,_,_,_,hx,hcell⟩:=DataW.trod_array ht hf;have g:∀i c,i<8->(([c0,c1,c2,c3,c4,c5,c6,c7]:List Value).drop i).take 1=[c]->∃z,c=.bool z:=by
   intro i c hi hc;have:=hcell i hi;rw[hce,Nat.mul_one]at this;have hc':(((Value.agg ⟨[c0,c1,c2,c3,c4,c5,c6,c7]⟩).cells.toList.drop i).take 1)=[c]:=by rw[<-hc];rfl
   rw[hc',aP (by omega)]at this;exact GH he this
  obtain⟨z0,rfl⟩:=g 0 c0 (by omega) rfl;obtain⟨z1,rfl⟩:=g 1 c1 (by omega) rfl;obtain⟨z2,rfl⟩:=g 2 c2 (by omega) rfl;obtain⟨z3,rfl⟩:=g 3 c3 (by omega) rfl;obtain⟨z4,rfl⟩:=g 4 c4 (by omega) rfl;obtain⟨z5,rfl⟩:=g 5 c5 (by omega) rfl;obtain⟨z6,rfl⟩:=g 6 c6 (by omega) rfl;obtain⟨z7,rfl⟩:=g 7 c7 (by omega) rfl;exact⟨z0,z1,z2,z3,z4,z5,z6,z7,rfl⟩
theorem J9{r:Reach}{b0:Nat}{t e:TypeId}{v:Value}{d:DataW H}{ps:List MemPlace}(ht:P.underlying t=some (.array 8 e))(hC:P.cellsOf t=8)(he:P.underlying e=some (.int .i64))(hce:P.cellsOf e=1)
  (hv:Value.okWide P w r b0 t v) (h:DataW.Trod enc P w base spare held t v d ps):∃b0 b1 b2 b3 b4 b5 b6 b7:Int,v=jK (is8 b0 b1 b2 b3 b4 b5 b6 b7)/\∀k,qL (is8 b0 b1 b2 b3 b4 b5 b6 b7 k):=by
 obtain⟨cs,rfl,hsz⟩:=BO ht hv;obtain⟨fuel,hf⟩:=h;obtain⟨cl⟩:=cs;have vU:cl.length=8:=hsz.trans hC
 match cl,vU with
 |[c0,c1,c2,c3,c4,c5,c6,c7],_=>
  obtain⟨xs,m,_,_,_,hx,hcell⟩:=DataW.trod_array ht hf;have g:∀i c,i<8->(([c0,c1,c2,c3,c4,c5,c6,c7]:List Value).drop i).take 1=[c]->∃z,c=.int .i64 z/\qL z:=by
   intro i c hi hc;have:=hcell i hi;rw[hce,Nat.mul_one]at this;have hc':(((Value.agg ⟨[c0,c1,c2,c3,c4,c5,c6,c7]⟩).cells.toList.drop i).take 1)=[c]:=by rw[<-hc];rfl
   rw[hc',aP (by omega)]at this;exact J8 he this
  obtain⟨z0,rfl,y0⟩:=g 0 c0 (by omega) rfl;obtain⟨z1,rfl,y1⟩:=g 1 c1 (by omega) rfl;obtain⟨z2,rfl,y2⟩:=g 2 c2 (by omega) rfl;obtain⟨z3,rfl,y3⟩:=g 3 c3 (by omega) rfl;obtain⟨z4,rfl,y4⟩:=g 4 c4 (by omega) rfl;obtain⟨z5,rfl,y5⟩:=g 5 c5 (by omega) rfl;obtain⟨z6,rfl,y6⟩:=g 6 c6 (by omega) rfl;obtain⟨z7,rfl,y7⟩:=g 7 c7 (by omega) rfl;refine⟨z0,z1,z2,z3,z4,z5,z6,z7,rfl,λk=>?_⟩;rcases(by omega:k=0\/k=1\/k=2\/k=3\/k=4\/k=5\/k=6\/k=7\/8<=k)with rfl|rfl|rfl|rfl|rfl|rfl|rfl|rfl|h8
  ·exact y0
  ·exact y1
  ·exact y2
  ·exact y3
  ·exact y4
  ·exact y5
  ·exact y6
  ·exact y7
  ·unfold is8
   rw[ay,aY (by simpa using h8)];unfold qL;simp
end
end
end Go.Proofs.YteadkhigkmijiaaGreat
