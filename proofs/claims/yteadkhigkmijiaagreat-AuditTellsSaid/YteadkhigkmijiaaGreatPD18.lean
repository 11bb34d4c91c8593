/- Texts GdF, SrL, VdL, SqA, QgA, Acts4O, FtO, AcO, QmA, StA, StL, Rf6, BoolsO, GdO in one. -/
import Derived.Lib.SmallJoins
import Derived.Test.YteadkhigkmijiaaGreatPD1
import Derived.Test.YteadkhigkmijiaaGreatPD2
import Derived.Test.YteadkhigkmijiaaGreatPD4
import Derived.Test.YteadkhigkmijiaaGreatPD6
import Derived.Test.YteadkhigkmijiaaGreatPD10
import Derived.Test.YteadkhigkmijiaaGreatPD13
import Derived.Test.YteadkhigkmijiaaGreatPD15
import Derived.Test.YteadkhigkmijiaaGreatPD17
set_option linter.all false
namespace Go.Proofs.YteadkhigkmijiaaGreat
section
open Go.RowKit
open Tb (D T)
def qK(i:Nat):D:=⟨decide ((i:Int)<4)||((i:Int)%2==0),((i:Int)%3==0),20+3*((i:Int)*5%8),4⟩
def jQ(n:Nat):List D:=(List.range n).map qK
def jA(n:Nat)(dr:Int):T:=⟨jQ n,dr,4*dr+6,4*dr+9⟩
theorem lB(n:Nat):(jQ n).length=n:=by simp[jQ]
theorem J7(n:Nat):jQ (n+1)=jQ n++[qK n]:=by simp[jQ,cZ]
theorem tC(n:Nat)(dr:Int)(h4:4<=n)(h8:n<=8)(hd:0<=dr/\dr<=200):(jA n dr).is=true:=by
 have ha:Tb.are (jQ n)=true:=by
  rcases(by omega:n=4\/n=5\/n=6\/n=7\/n=8)with rfl|rfl|rfl|rfl|rfl<;>decide+kernel
 simp only[T.is,Tb.rest,jA,ha,cK,bg,Tb.lC];omega


end
section
open Go.RowKit
theorem qd(f:Nat->Bool)(n:Nat):fst f n=-1\/∃j:Nat,fst f n=j/\j<n/\f j=true:=by
 by_cases h:∃j,j<n/\f j=true
 ·obtain⟨j,hj,hf⟩:=h
  right;have:∀m,(∃j,j<m/\j<n/\f j=true)->∃k,k<n/\f k=true/\∀i,i<k->f i=false:=by
   intro m
   induction m with
   |zero=>rintro⟨j,h,-⟩;omega
   |succ m ih=>
    rintro⟨j,h1,h2,h3⟩;by_cases e:∃j,j<m/\j<n/\f j=true
    ·exact ih e
    ·refine⟨j,h2,h3,λi hi=>?_⟩
     by_cases hi2:f i=true
     ·exact absurd ⟨i,by omega,by omega,hi2⟩ e
     ·simpa using hi2
  obtain⟨k,h1,h2,h3⟩:=this (j+1) ⟨j,cJ _,hj,hf⟩;exact⟨k,tA h1 h2 h3,h1,h2⟩
 ·left
  refine tu λk hk=>?_;by_cases e:f k=true
  ·exact absurd ⟨k,hk,e⟩ h
  ·simpa using e
theorem qc(s:G)(f:Nat->Bool)(a:Nat->Int)(hs:s.slot<s.n):s.pass f a=-1\/∃j:Nat,s.pass f a=j/\j<s.n/\f j=true:=by
 unfold G.pass
 split
 ·split
  ·rename_i h
   rw[bg]at h;exact .inr ⟨s.slot,rfl,hs,h.1⟩
  ·exact .inl rfl
 ·exact qd f s.n
theorem q9(f:Nat->Bool)(k:Nat):fst f (k+1)=if fst f k<0 then(if f k=true then(k:Int)else -1)else fst f k:=by
 rcases qd f k with e|⟨j,e,hj,hf⟩
 ·rw[e,au (by decide)]
  have hn:∀i,i<k->f i=false:=λi hi=>by
   cases hfi:f i with
   |false=>rfl
   |true=>
    exfalso;unfold fst at e
    cases hx:(List.range k).find? f with
    |none=>rw[List.find?_eq_none]at hx;exact hx i (cA.2 hi) hfi
    |some y=>rw[hx]at e;simp only at e;omega
  by_cases hk:f k=true
  ·rw[au hk]
   exact tA (cJ k) hk hn
  ·rw[ai hk]
   refine tu λi hi=>?_;rcases(by omega:i<k\/i=k)with h|rfl
   ·exact hn i h
   ·simpa using hk
 ·rw[e,ai (by omega)]
  unfold fst at e ⊢;rw[cZ,List.find?_append]
  cases hx:(List.range k).find? f with
  |none=>rw[hx]at e;simp only at e;omega
  |some y=>rw[hx]at e;exact e
theorem PW{f g:Nat->Bool}{k:Nat}(h:∀i,i<k->f i=g i):fst f k=fst g k:=by
 induction k with
 |zero=>rfl
 |succ k ih=>rw[q9,q9,ih λi hi=>h i (by omega),h k (by omega)]
theorem PX{s:G}{f g:Nat->Bool}{a b:Nat->Int}(hs:s.slot<s.n)(hf:∀i,i<s.n->f i=g i)(ha:a s.slot=b s.slot):s.pass f a=s.pass g b:=by
 unfold G.pass;rw[hf _ hs,ha,PW hf]
end
section
set_option maxRecDepth 100000
set_option maxHeartbeats 1000000
open Go.RowKit
open Clk (avg)
structure RKg(c:Cx 7)(W:World)(g:Nat)(m:Int)(v:Value)(l:List Int):Prop where
 blk:PB c W g #[↑m,v]
 sees:ja W W v l
 far:jv v≠some g
theorem RKg.below{c:Cx 7}{W W':World}{g:Nat}{m:Int}{v:Value}{l:List Int}(h:RKg c W g m v l)(k:Below W W W'):RKg c W' g m v l:=
 ⟨h.blk.below k h.blk.lt,(h.sees.below k).more k.size,h.far⟩
theorem wR(c:Cx 7)(g:Nat)(m:Int)(v:Value)(l:List Int)(w:World)(h:RKg c w g m v l):
  Calls Tryz.prog 134 #[↑(g,7)] w λe w'=>e=.returned (.tuple #[])/\RKg c w' g m (.slice none 0 0) []/\Only g w w':=by
 have c1:=h.blk.cell 1 rfl;have f1:=h.blk.frozen 8;have hB:=af (h.blk.set 1 (by simp) (.slice none 0 0));clear h
 go_enter Tryz.func134,Tryz.ntmps134
 go_wp2;exact aD (ax (by rfl) _ _ _) rfl ⟨rfl,⟨hB.o,ja.nil,(by simp[jv])⟩,(aE g w).set 8 _⟩
theorem MD(c:Cx 7)(g:Nat)(m:Int)(v:Value)(l:List Int)(w:World)(h:RKg c w g m v l)(hs:small l)(h4:l.length<=4)(hm:0<=m/\m<=1099511627776):
  Calls Tryz.prog 182 #[↑(g,7)] w λe w'=>e=.returned (.tuple #[↑(jb m l),↑(wiB m (avg l))])/\Below w w w':=by
 have c1:=h.blk.cell 1 rfl;have R:=af (zh l v w _ h.sees hs h4);have HC:Hid (∀W,Below w w W->W.cell? (g,7)=some ↑m):=af (λW hW=>(h.below hW).blk.cell 0 rfl);have hbd:=Clk.zo (B:=1099511627776) (by decide) hs h4;obtain⟨A,cc,rfl,-,-,-,-⟩:=h.sees.at_;unfold jb;have hwn:(wiB m (avg l)=true/\-m<=avg l/\avg l<=m)\/(wiB m (avg l)=false/\avg l < -m)\/(wiB m (avg l)=false/\m<avg l):=by
  by_cases h:-m<=avg l/\avg l<=m
  ·exact .inl ⟨av h,h⟩
  ·by_cases h':avg l < -m
   ·exact .inr (.inl ⟨aj h,h'⟩)
   ·exact .inr (.inr ⟨aj h,by omega⟩)
 obtain⟨m1,m2⟩:=hm;obtain⟨b1,b2⟩:=hbd;generalize avg l=r at *;generalize wiB m r=q at *;clear h hs h4;rcases hwn with⟨rfl,d1,d2⟩|⟨rfl,d1⟩|⟨rfl,d1⟩
 all_goals
  go_enter Tryz.func182,Tryz.ntmps182
  go_wp2_with fail;refine R.o.mono ?_;rintro e w1 ⟨rfl,hb1⟩;have c0:=HC.o w1 hb1;go_wp2;go_ret2;exact⟨rfl,hb1⟩
theorem ME(c:Cx 7)(g:Nat)(m:Int)(v:Value)(l:List Int)(n:Int)(w:World)(h:RKg c w g m v l)(h4:l.length<=4):
  Calls Tryz.prog 124 #[↑(g,7),↑n] w λe w'=>e=.returned (.tuple #[])/\(∃v',RKg c w' g m v' (iT l n)/\∀b,jv v'=some b->w.heap.size<=b)/\Only g w w':=by
 have HK4:Hid (l.length=4->iT l n=(l++[n]).drop 1):=af (λh=>by
  unfold iT;rw[au h,List.drop_append_of_le_length (by omega)])
 have HKn:Hid (¬l.length=4->iT l n=l++[n]):=af (λh=>by unfold iT;rw[ai h]);generalize iT l n=K at *;have a1:=bn (.cells #[] 3) (h.blk.cell 1 rfl);have hem:=af (uV w 3 rfl w w lr rfl);have hse:=af (h.sees.alloc (.cells #[] 3));have hgl:=h.blk.lt;have hbA:=af ((ah w w).alloc lr (.cells #[] 3));have HB:Hid (∀W,Below w w W->PB c W g #[↑m,v]):=af (λW hW=>h.blk.below hW h.blk.lt);clear h
 go_enter Tryz.func124,Tryz.ntmps124
 go_wp2_with (at_builtin;go_loud (refine pE _ rfl (.tmp 5) (.tmp 9) 33 rfl w oh Tryz.underlying33 _ [] hem.o rfl _ v l rfl hse.o (by simp) (by simp;omega) ?_));intro v1 w1 ho1 hx1;have hb1:=hbA.o.trans (hx1.toBelow (B:=w.heap.size) (by simp) (λj hj=>by simp[Value.ownBlock]at hj;omega));have ho1:OwnsI w1 w v1 l:=ho1;clear a1 hem hse hbA hx1;have hsX:=af (tE w1 3 #[↑n] [n] rfl (w1.heap.size+1) (by omega) (by simp[maxLen]) _ 1 1 rfl rfl rfl);go_wp2_with (at_builtin;go_loud (refine pE _ rfl (.tmp 10) (.tmp 12) 33 rfl w oh Tryz.underlying33 _ l (ho1.alloc _) rfl _ _ [n] rfl hsX.o (by have:=hb1.size;simp;omega) (by simp;omega) ?_));intro v2 w2 ho2 hx2;have hb2:=(hb1.alloc hb1.size (.cells #[↑n] 3)).trans (hx2.toBelow (B:=w.heap.size) (by have:=hb1.size;simp;omega) (λj hj=>(ho1.lt j hj).1));have hB2:=HB.o w2 hb2;have d1:=hB2.cell 1 rfl;have e1:=hB2.frozen 8;obtain⟨b,cp,rfl,k1,k2,k3,k4⟩:=ho2.uW (by simp);have hl5:(l++[n]).length=l.length+1:=by simp
 have hown2:=af ho2;have hs2:=af (ho2.sees.only (g:=g) ((aE g w2).set 8 (.slice (some (b,0)) (l++[n]).length cp)) lr (by simp[jv];omega));have hB3:=af (hB2.set 1 (by simp) (.slice (some (b,0)) (l++[n]).length cp));rw[hl5]at hs2 hB3 k1 ⊢;have H5:=af hl5;clear hl5 hown2 ho2 ho1 hx2 hsX;by_cases hl:l.length=4
 ·have q1:decide ((4:Int)<((l.length:Nat):Int)+1)=true:=av (by omega)
  have q2:¬cp=1:=by omega
  have hs4:=af (hs2.o.sub H5.o.symm 1 (l.length+1) (by omega) lr (by omega) (o:=1) (by omega) (m:=l.length+1-1) rfl (c':=cp-1) rfl);have hs5:=af (hs4.o.only (g:=g) ((aE g _).set 8 (.slice (some (b,1)) (l.length+1-1) (cp-1))) (by simp[World.setCell]) (by simp[jv];omega));have hB5:=af (hB3.o.set 1 (by simp) (.slice (some (b,1)) (l.length+1-1) (cp-1)));have HL:=af hl;clear hl hs4;go_wp2;refine aD (ax (by rfl) _ _ _) rfl ⟨rfl,⟨.slice (some (b,1)) (l.length+1-1) (cp-1),?_⟩,((iQ g hb2).trans ((aE g w2).set 8 _)).set 8 _⟩;rw[HK4.o HL.o];have h1:=hs5.o;rw[gE (by simp)]at h1;exact⟨⟨hB5.o,h1.more (by simp[World.setCell]),(by simp[jv];omega)⟩,λj hj=>by simp[jv]at hj;omega⟩
 ·have q1:decide ((4:Int)<((l.length:Nat):Int)+1)=false:=aj (by omega)
  have hKn:=af (HKn.o hl);clear hl;go_wp2;refine aD (ax (by rfl) _ _ _) rfl ⟨rfl,⟨.slice (some (b,0)) (l.length+1) cp,?_⟩,(iQ g hb2).trans ((aE g w2).set 8 _)⟩;rw[hKn.o];exact⟨⟨hB3.o,hs2.o.more (by simp[World.setCell]),(by simp[jv];omega)⟩,λj hj=>by simp[jv]at hj;omega⟩
end
section
open Go.ChangeShapes Go.WideShapes Go.ChangeAt Go.RowKit Go.Joins Go.Deep
structure A4 where
 k:Int
 n:Int
 A:Option Addr
 c:Nat
 l:List Int
 q:Bool
 deriving Inhabited
section
variable {H:Type}{enc:TypeId×Value->H}{P:Program}{w:World}{base:Nat}{spare:Nat->Bool}{held:Bool}
theorem yB{t e:TypeId}{fuel:Nat}{v:Value}{y:DataW H×List MemPlace}(ht:P.underlying t=some (.slice e))(he:P.underlying e=some (.int .u8))(hc:P.cellsOf e=1)
  (h:DataW.trod enc P w base spare held fuel t [v]=some y):∃A c l,v=.slice A l.length c/\iI w w.heap.size (.slice A l.length c) l/\iK l:=by
 rcases open_ints ht he hc h with⟨hcs,_⟩|⟨x,n,c,zs,hcs,_,hl,hm,hz,_,hcell,hwz⟩
 ·obtain rfl:v=.slice none 0 0:=by simpa using hcs
  exact⟨none,0,[],rfl,gR,λx hx=>by simp at hx⟩
 ·obtain rfl:v=.slice (some x) n c:=by simpa using hcs
  have hnz:n<=zs.length:=by rw[hz];split<;>omega
  have hlen:(zs.take n).length=n:=by simp;omega
  refine⟨some x,c,zs.take n,by rw[hlen],⟨some x,c,rfl,by rw[hlen];exact hl,hm,?_,λh=>by cases h⟩,λz hz'=>?_⟩
  ·rw[hlen]
   intro h0;obtain⟨b,off,rfl,hb⟩:=uS (hcell 0 (by omega));refine⟨b,off,rfl,hb,λk hk=>?_⟩;have e:bv (zs.take n) k=.int .u8 (zs.getD k 0):=by simp[bv,ay,hk]
   rw[e];have:=hcell k (by omega);by_cases h0:k=0
   ·subst h0;simpa[Addr.add]using this
   ·simpa[Addr.add,h0]using this
  ·have:=bounds_u8 (hwz z (bM hz'))
   omega
theorem pz{t:TypeId}{n:Nat}{v:Value}{y:DataW H×List MemPlace}(hi:P.underlying t=some (.int .i64))(h:DataW.trod enc P w base spare held n t [v]=some y):∃z,v=.int .i64 z:=by
 obtain⟨z,hz,-⟩:=DataW.trod_int hi h;exact⟨z,by simpa using hz⟩
end
end
section
open Go.ChangeShapes Go.WideShapes Go.ChangeAt Go.RowKit Go.Joins Go.Deep
section
variable {H:Type}{enc:TypeId×Value->H}{P:Program}{w:World}{base:Nat}{spare:Nat->Bool}{held:Bool}
end
end
section
open Go.ChangeShapes Go.WideShapes Go.ChangeAt Go.RowKit Go.Joins Go.Deep
structure Ac where
 k:Int
 i:Int
 n:Int
 d:List Int
 f:List Ft
instance:Inhabited Ac:=⟨⟨0,0,0,[],[]⟩⟩
structure nV(W:World)(B b off:Nat)(x:Ac):Prop where
 c0:W.cell? (b,off)=some ↑x.k
 c1:W.cell? (b,off+1)=some ↑x.i
 c2:W.cell? (b,off+2)=some ↑x.n
 c3:∃v,W.cell? (b,off+3)=some v/\iI W B v x.d
 c4:∃v,W.cell? (b,off+4)=some v/\ju W B v x.f
structure j7(W:World)(B:Nat)(v:Value)(l:List Ac):Prop where
 at_:∃A c,v=.slice A l.length c/\l.length<=c/\c<=maxLen/\(0<l.length->∃b off,A=some ⟨b,off,none⟩/\b<B/\∀i,i<l.length->nV W B b (off+i*5) (l.getD i default))
 by_:∀x∈l,iK x.d
theorem nV.below{W W':World}{B b off:Nat}{x:Ac}(h:nV W B b off x)(hb:Below B W W')(hl:b<B):nV W' B b off x:=by
 obtain⟨c0,c1,c2,⟨v3,c3,s3⟩,v4,c4,s4⟩:=h;exact⟨(hb.cell (p:=(b,off)) hl).trans c0,(hb.cell (p:=(b,off+1)) hl).trans c1,(hb.cell (p:=(b,off+2)) hl).trans c2,⟨v3,(hb.cell (p:=(b,off+3)) hl).trans c3,s3.below hb⟩,v4,(hb.cell (p:=(b,off+4)) hl).trans c4,s4.below hb⟩
theorem nV.more{W:World}{B B' b off:Nat}{x:Ac}(h:nV W B b off x)(hB:B<=B'):nV W B' b off x:=by
 obtain⟨c0,c1,c2,⟨v3,c3,s3⟩,v4,c4,s4⟩:=h;exact⟨c0,c1,c2,⟨v3,c3,s3.more hB⟩,v4,c4,s4.more hB⟩
theorem j7.below{W W':World}{B:Nat}{v:Value}{l:List Ac}(h:j7 W B v l)(hb:Below B W W'):j7 W' B v l:=⟨by
 obtain⟨A,c,rfl,h1,h2,h3⟩:=h.at_;refine⟨A,c,rfl,h1,h2,λh0=>?_⟩;obtain⟨b,off,rfl,hbB,hc⟩:=h3 h0;exact⟨b,off,rfl,hbB,λi hi=>(hc i hi).below hb hbB⟩,h.by_⟩
theorem j7.more{W:World}{B B':Nat}{v:Value}{l:List Ac}(h:j7 W B v l)(hB:B<=B'):j7 W B' v l:=⟨by
 obtain⟨A,c,rfl,h1,h2,h3⟩:=h.at_;refine⟨A,c,rfl,h1,h2,λh0=>?_⟩;obtain⟨b,off,rfl,hbB,hc⟩:=h3 h0;exact⟨b,off,rfl,by omega,λi hi=>(hc i hi).more hB⟩,h.by_⟩
theorem j7.nil{W:World}{B:Nat}:j7 W B (.slice none 0 0) []:=⟨⟨none,0,rfl,aR _,bH _,λh=>absurd h (by simp)⟩,λ_ h=>by cases h⟩
theorem F9(l:List Ac)(k:Nat)(hk:k<l.length):l.getD k default∈l:=by
 rw[ay,aP hk];exact dS hk
section
variable {H:Type}{enc:TypeId×Value->H}{P:Program}{w:World}{base:Nat}{spare:Nat->Bool}{held:Bool}
theorem Gb{t:TypeId}{f0 f1 f2 f3 f4:Field}{fuel:Nat}{cs:List Value}{x:DataW H×List MemPlace}(ht:P.underlying t=some (.struct #[f0,f1,f2,f3,f4]))(h:DataW.trod enc P w base spare held fuel t cs=some x):
  ∃y0 y1 y2 y3 y4 n,cs.length=P.cellsOf t/\DataW.trod enc P w base spare held n f0.type ((cs.drop f0.offset).take (P.cellsOf f0.type))=some y0/\
   DataW.trod enc P w base spare held n f1.type ((cs.drop f1.offset).take (P.cellsOf f1.type))=some y1/\DataW.trod enc P w base spare held n f2.type ((cs.drop f2.offset).take (P.cellsOf f2.type))=some y2/\
   DataW.trod enc P w base spare held n f3.type ((cs.drop f3.offset).take (P.cellsOf f3.type))=some y3/\DataW.trod enc P w base spare held n f4.type ((cs.drop f4.offset).take (P.cellsOf f4.type))=some y4:=by
 obtain⟨xs,n,_,rfl,hl,hlen,hf⟩:=DataW.trod_struct ht h
 match xs,hlen with
 |[y0,y1,y2,y3,y4],_=>exact⟨y0,y1,y2,y3,y4,n,hl,by simpa using hf 0 f0 rfl,by simpa using hf 1 f1 rfl,by simpa using hf 2 f2 rfl,by simpa using hf 3 f3 rfl,by simpa using hf 4 f4 rfl⟩
theorem Gc{t e ti ts te:TypeId}{f0 f1 f2 f3:Field}{n:Nat}{v:Value}{y:DataW H×List MemPlace}(ht:P.underlying t=some (.slice e))(he:P.underlying e=some (.struct #[f0,f1,f2,f3]))(ce:P.cellsOf e=4)(t0:f0.type=ti/\f0.offset=0)(t1:f1.type=ti/\f1.offset=1)(t2:f2.type=ti/\f2.offset=2)(t3:f3.type=ts/\f3.offset=3)
  (hi:P.underlying ti=some (.int .i64)) (hs:P.underlying ts=some (.slice te)) (hu:P.underlying te=some (.int .u8)) (hc:P.cellsOf ti=1) (hcs:P.cellsOf ts=1) (hce:P.cellsOf te=1)
  (h:DataW.trod enc P w base spare held n t [v]=some y):∃l:List Ft,ju w w v l:=by
 rcases open_slice ht h with⟨hv,-⟩|⟨a,len,cap,m,k,Dt,Pl,hv,-,hl,hm,hmm,-,hx⟩
 ·obtain rfl:v=.slice none 0 0:=by simpa using hv
  exact⟨[],ju.nil⟩
 ·obtain rfl:v=.slice (some a) len cap:=by simpa using hv
  have hlm:len<=m:=by rw[hmm];split<;>omega
  have each:∀i,i<len->∃x:Ft×Value,(w.cell? (a.add (i*4))=some ↑x.1.k/\w.cell? (a.add (i*4+1))=some ↑x.1.n/\w.cell? (a.add (i*4+2))=some ↑x.1.a/\w.cell? (a.add (i*4+3))=some x.2)/\iI w w x.2 x.1.d/\iK x.1.d:=by
   intro i hi';obtain⟨cs',h1,h2⟩:=hx i (by omega);rw[ce]at h1;obtain⟨_,hlen,hcell⟩:=World.cells?_some h1
   match cs',hlen with
   |[v0,v1,v2,v3],_=>
    obtain⟨y0,y1,y2,y3,q,_,_,g0,g1,g2,g3⟩:=trod_struct4 he h2;rw[t0.1,t0.2,hc]at g0;rw[t1.1,t1.2,hc]at g1;rw[t2.1,t2.2,hc]at g2;rw[t3.1,t3.2,hcs]at g3;obtain⟨z0,rfl⟩:=pz hi g0;obtain⟨z1,rfl⟩:=pz hi g1;obtain⟨z2,rfl⟩:=pz hi g2;obtain⟨A',c',l,rfl,hS,hB⟩:=yB hs hu hce g3;have e0:=hcell 0 (by omega);have e1:=hcell 1 (by omega);have e2:=hcell 2 (by omega);have e3:=hcell 3 (by omega);rw[add_add]at e0 e1 e2 e3;exact⟨(⟨z0,z1,z2,l⟩,_),⟨by simpa using e0,by simpa using e1,by simpa using e2,by simpa using e3⟩,hS,hB⟩
  obtain⟨f,hf⟩:=choose_lt each;have hg:∀k,k<len->((List.range len).map λi=>(f i).1).getD k default=(f k).1:=λk hk=>by simp[ay,hk]
  refine⟨(List.range len).map λi=>(f i).1,⟨⟨some a,cap,by simp,by simpa using hl,hm,λh0=>?_⟩,λx hx=>?_⟩⟩
  ·simp only[dQ,dW]at h0 ⊢
   have h00:=(hf 0 h0).1.1;obtain⟨b,off,rfl,hbb⟩:=uS (v:=↑(f 0).1.k) (by simpa using h00);have hadd:∀j,((b,off):Addr).add j=(b,off+j):=λj=>by unfold Addr.add;split<;>simp_all
   simp only[hadd]at hf;refine⟨b,off,rfl,hbb,λk hk=>?_⟩;obtain⟨⟨e0,e1,e2,e3⟩,hS,-⟩:=hf k hk;rw[hg k hk];exact⟨e0,by rw[fe];exact e1,by rw[fe];exact e2,_,by rw[fe];exact e3,hS⟩
  ·simp only[fC,cA]at hx
   obtain⟨i,hi',rfl⟩:=hx;exact(hf i hi').2.2
theorem yC{t ti ts te tf ef:TypeId}{a0 a1 a2 a3 a4 f0 f1 f2 f3:Field}{n:Nat}{v0 v1 v2 v3 v4:Value}{y:DataW H×List MemPlace}(ha:P.underlying t=some (.struct #[a0,a1,a2,a3,a4]))(u0:a0.type=ti/\a0.offset=0)(u1:a1.type=ti/\a1.offset=1)(u2:a2.type=ti/\a2.offset=2)(u3:a3.type=ts/\a3.offset=3)(u4:a4.type=tf/\a4.offset=4)
  (ht:P.underlying tf=some (.slice ef)) (he:P.underlying ef=some (.struct #[f0,f1,f2,f3])) (ce:P.cellsOf ef=4) (t0:f0.type=ti/\f0.offset=0) (t1:f1.type=ti/\f1.offset=1) (t2:f2.type=ti/\f2.offset=2) (t3:f3.type=ts/\f3.offset=3)
  (hi:P.underlying ti=some (.int .i64)) (hs:P.underlying ts=some (.slice te)) (hu:P.underlying te=some (.int .u8)) (hc:P.cellsOf ti=1) (hcs:P.cellsOf ts=1) (hcf:P.cellsOf tf=1) (hce:P.cellsOf te=1)
  (h:DataW.trod enc P w base spare held n t [v0,v1,v2,v3,v4]=some y):∃x:Ac,v0=↑x.k/\v1=↑x.i/\v2=↑x.n/\iI w w v3 x.d/\ju w w v4 x.f/\iK x.d:=by
 obtain⟨y0,y1,y2,y3,y4,q,_,g0,g1,g2,g3,g4⟩:=Gb ha h;rw[u0.1,u0.2,hc]at g0;rw[u1.1,u1.2,hc]at g1;rw[u2.1,u2.2,hc]at g2;rw[u3.1,u3.2,hcs]at g3;rw[u4.1,u4.2,hcf]at g4;obtain⟨z0,rfl⟩:=pz hi g0;obtain⟨z1,rfl⟩:=pz hi g1;obtain⟨z2,rfl⟩:=pz hi g2;obtain⟨A',c',l,rfl,hS,hB⟩:=yB hs hu hce g3;obtain⟨lf,hF⟩:=Gc (v:=v4) ht he ce t0 t1 t2 t3 hi hs hu hc hcs hce g4;exact⟨⟨z0,z1,z2,l,lf⟩,rfl,rfl,rfl,hS,hF,hB⟩
theorem yD{t e ti ts te tf ef:TypeId}{a0 a1 a2 a3 a4 f0 f1 f2 f3:Field}{A:Option Addr}{n c:Nat}{d:DataW H}{ps:List MemPlace}(hts:P.underlying t=some (.slice e))(ha:P.underlying e=some (.struct #[a0,a1,a2,a3,a4]))(ca:P.cellsOf e=5)(u0:a0.type=ti/\a0.offset=0)(u1:a1.type=ti/\a1.offset=1)(u2:a2.type=ti/\a2.offset=2)(u3:a3.type=ts/\a3.offset=3)(u4:a4.type=tf/\a4.offset=4)
  (ht:P.underlying tf=some (.slice ef)) (he:P.underlying ef=some (.struct #[f0,f1,f2,f3])) (ce:P.cellsOf ef=4) (t0:f0.type=ti/\f0.offset=0) (t1:f1.type=ti/\f1.offset=1) (t2:f2.type=ti/\f2.offset=2) (t3:f3.type=ts/\f3.offset=3)
  (hi:P.underlying ti=some (.int .i64)) (hs:P.underlying ts=some (.slice te)) (hu:P.underlying te=some (.int .u8)) (hc:P.cellsOf ti=1) (hcs:P.cellsOf ts=1) (hcf:P.cellsOf tf=1) (hce:P.cellsOf te=1)
  (h:DataW.Trod enc P w base spare held t (.slice A n c) d ps):∃l,j7 w w (.slice A n c) l:=by
 obtain⟨fuel,h⟩:=h;rcases open_slice hts h with⟨hv,-⟩|⟨a,len,cap,m,k,Dt,Pl,hv,-,hl,hm,hmm,-,hx⟩
 ·simp[Value.cells]at hv
  obtain⟨rfl,rfl,rfl⟩:=hv;exact⟨[],j7.nil⟩
 ·simp[Value.cells]at hv
  obtain⟨rfl,rfl,rfl⟩:=hv;have hlm:n<=m:=by rw[hmm];split<;>omega
  have each:∀i,i<n->∃x:Ac×Value×Value,(w.cell? (a.add (i*5))=some ↑x.1.k/\w.cell? (a.add (i*5+1))=some ↑x.1.i/\w.cell? (a.add (i*5+2))=some ↑x.1.n/\w.cell? (a.add (i*5+3))=some x.2.1/\w.cell? (a.add (i*5+4))=some x.2.2)/\iI w w x.2.1 x.1.d/\ju w w x.2.2 x.1.f/\iK x.1.d:=by
   intro i hi';obtain⟨cs',h1,h2⟩:=hx i (by omega);rw[ca]at h1;obtain⟨_,hlen,hcell⟩:=World.cells?_some h1
   match cs',hlen with
   |[v0,v1,v2,v3,v4],_=>
    obtain⟨x,rfl,rfl,rfl,hS,hF,hB⟩:=yC ha u0 u1 u2 u3 u4 ht he ce t0 t1 t2 t3 hi hs hu hc hcs hcf hce h2;have e0:=hcell 0 (by omega);have e1:=hcell 1 (by omega);have e2:=hcell 2 (by omega);have e3:=hcell 3 (by omega);have e4:=hcell 4 (by omega);rw[add_add]at e0 e1 e2 e3 e4;exact⟨(x,v3,v4),⟨by simpa using e0,by simpa using e1,by simpa using e2,by simpa using e3,by simpa using e4⟩,hS,hF,hB⟩
  obtain⟨f,hf⟩:=choose_lt each;have hg:∀k,k<n->((List.range n).map λi=>(f i).1).getD k default=(f k).1:=λk hk=>by simp[ay,hk]
  refine⟨(List.range n).map λi=>(f i).1,⟨⟨some a,c,by simp,by simpa using hl,hm,λh0=>?_⟩,λx hx=>?_⟩⟩
  ·simp only[dQ,dW]at h0 ⊢
   have h00:=(hf 0 h0).1.1;obtain⟨b,off,rfl,hbb⟩:=uS (v:=↑(f 0).1.k) (by simpa using h00);have hadd:∀j,((b,off):Addr).add j=(b,off+j):=λj=>by unfold Addr.add;split<;>simp_all
   simp only[hadd]at hf;refine⟨b,off,rfl,hbb,λk hk=>?_⟩;obtain⟨⟨e0,e1,e2,e3,e4⟩,hS,hF,-⟩:=hf k hk;rw[hg k hk];exact⟨e0,by rw[fe];exact e1,by rw[fe];exact e2,⟨_,by rw[fe];exact e3,hS⟩,_,by rw[fe];exact e4,hF⟩
  ·simp only[fC,cA]at hx
   obtain⟨i,hi',rfl⟩:=hx;exact(hf i hi').2.2.2
end
end
section
set_option maxRecDepth 100000
set_option maxHeartbeats 4000000
open Go.RowKit
theorem MO(k n a:Int)(A:Option Addr)(d c:Nat)(w:World):
  Calls Tryz.prog 112 #[.agg #[↑k,↑n,↑a,.slice A d c]] w λe w'=>e=.returned ↑(ni k n a d)/\Below w w w':=by
 have hb0:=(ah w w).alloc lr (.cells #[↑k,↑n,↑a,.slice A d c] 56);have hX:=aJ w _ rfl #[↑k,↑n,↑a,.slice A d c] 56;have x0:=hX.cell 0 (x:=↑k) rfl;have x1:=hX.cell 1 (x:=↑n) rfl;have x2:=hX.cell 2 (x:=↑a) rfl;have x3:=hX.cell 3 (x:=.slice A d c) rfl;have K:=af (nu k n a d);clear hX;generalize ni k n a d=q at *;by_cases h4:k=4
 ·subst h4
  go_enter Tryz.func112,Tryz.ntmps112
  go_wp2
  all_goals
   go_ret;refine⟨?_,hb0⟩;have K:=K.o
   cases q<;>simp at K ⊢<;>omega
 ·by_cases h7:k=7
  ·subst h7
   go_enter Tryz.func112,Tryz.ntmps112
   go_wp2
   all_goals
    go_ret;refine⟨?_,hb0⟩;have K:=K.o
    cases q<;>simp at K ⊢<;>omega
  ·have q4:(k==4)=false:=by rw[aB];exact h4
   have q7:(k==7)=false:=by rw[aB];exact h7
   go_enter Tryz.func112,Tryz.ntmps112
   go_wp2
   all_goals
    go_ret;refine⟨?_,hb0⟩;have K:=K.o
    cases q<;>simp at K ⊢<;>omega
theorem MP(l:List Ft)(h:kE l l.length=false):jc l=false:=by
 unfold kE at h;rw[dz]at h;unfold jc;rw[h,eG]
theorem MR(l:List Ft)(h:kE l l.length=true):jc l=decide (l.length<=4):=by
 unfold kE at h;rw[dz]at h;unfold jc;rw[h,Bool.and_true]
theorem zY(v:Value)(l:List Ft)(B:Nat)(w:World)(hs:ju w B v l)(hB:B<=w.heap.size):
  Calls Tryz.prog 73 #[v] w λe w'=>e=.returned ↑(jc l)/\Below w w w':=by
 obtain⟨A,c,rfl,hlen,hc,hs⟩:=hs.at_;unfold maxLen at hc;have h0:Hid (kE l 0=true):=af (by simp[kE]);have hS:=λk h=>af (Dl l k h);have hM:=λk h=>af (Dm l k h);have hF:=af (aL (MP l) (MR l));generalize jc l=r at *
 go_enter Tryz.func73,Tryz.ntmps73
 go_wp2
 go_loopw [3] (λi wr=>∃k:Nat,k<=l.length/\i=↑k/\Hid (kE l k=true)/\Below w w wr) (λi _=>l.length-(intOf i).toNat)
 case atStart=>exact⟨0,by omega,rfl,h0,ah _ _⟩
 case round=>
  obtain⟨k,hk,rfl,hn,hb⟩:=hrel;by_cases hlt:k<l.length
  ·obtain⟨b,off,rfl,hbb,hd⟩:=hs (by omega)
   obtain⟨c0,c1,c2,u,c3,hu⟩:=hd k hlt;have c0:=(hb.cell (p:=(b,off+k*4)) (by show b<_;omega)).trans c0;have c1:=(hb.cell (p:=(b,off+k*4+1)) (by show b<_;omega)).trans c1;have c2:=(hb.cell (p:=(b,off+k*4+2)) (by show b<_;omega)).trans c2;have c3:=(hb.cell (p:=(b,off+k*4+3)) (by show b<_;omega)).trans c3;obtain⟨A',cc,rfl,-⟩:=hu.at_;have q1:decide ((k:Int)<(l.length:Nat))=true:=by simp;omega
   have hS:=hS k hlt;have hM:=hM (k+1) (by omega);unfold Ft.may at hS;generalize l.getD k default=f at *;have hcall:=af (MO f.k f.n f.a A' f.d.length cc wr);clear hd hu
   cases hdn:ni f.k f.n f.a f.d.length
   all_goals
    rw[hdn]at hcall hS;go_wp2_with fail;refine hcall.o.mono ?_;rintro e w1 ⟨rfl,hb1⟩;have hb2:=hb.trans (hb1.mono hb.size);clear hcall;go_wp2
   ·go_ret
    exact⟨by rw[hF.o.1 (hM.o (by rw[hS.o];simp))];rfl,hb2⟩
   ·go_roundw
    case rel=>exact⟨k+1,by omega,by go_num,af (by rw[hS.o,hn.o];rfl),hb2⟩
    case measure=>simp[intOf];omega
  ·obtain rfl:k=l.length:=by omega
   have q1:decide ((l.length:Int)<(l.length:Nat))=false:=by simp
   go_wp2;go_ret;refine⟨?_,hb⟩;rw[hF.o.2 hn.o,decide_eq_decide.2 (by omega:l.length<=4↔((l.length:Nat):Int)<=4)]
   rfl
end
section
open Go.RowKit
end
section
open Go.RowKit
section
variable {F:List Nat}{g:Nat}{s:MS}{W:World}{v:Value}{l:List Int}{B:Nat}
end
theorem iJ.blk{W:World}{B:Nat}{v:Value}{l:List Int}(h:iJ W B v l)(hl:l≠[]):∃b c,v=.slice (some ⟨b,0,none⟩) l.length c/\B<=b/\b<W.heap.size/\l.length<=c/\c<=maxLen/\W.cell? ⟨b,0,none⟩=some (.int .u8 (l.getD 0 0))/\W.frozen? ⟨b,0,none⟩=false:=by
 have h0:=aX.2 hl;rcases h.2 with⟨-,e⟩|⟨b,c,cur,rfl,hb,hg,hn,hc,-,-⟩
 ·rw[e]at h0
  exact absurd h0 (fD _)
 ·refine⟨b,c,rfl,hb,(bT.1 hg).1,hn,hc,?_,iP.frozen h 0⟩
  exact iP.cell h h0
end
section
open Go.RowKit
end
section
open Go.ChangeShapes Go.WideShapes Go.ChangeAt Go.RowKit Go.Joins Go.Deep
section
variable {H:Type}{enc:TypeId×Value->H}{P:Program}{w:World}{base:Nat}{spare:Nat->Bool}{held:Bool}
theorem GH{t:TypeId}{n:Nat}{v:Value}{y:DataW H×List MemPlace}(hi:P.underlying t=some .bool)(h:DataW.trod enc P w base spare held n t [v]=some y):∃z,v=.bool z:=by
 obtain⟨z,hz,-⟩:=DataW.trod_bool hi h;exact⟨z,by simpa using hz⟩
end
end
section
open Go.ChangeShapes Go.WideShapes Go.ChangeAt Go.RowKit Go.Joins Go.Deep
def qL(x:Int):Prop:=-9223372036854775808<=x/\x<=9223372036854775807
def bs8(b0 b1 b2 b3 b4 b5 b6 b7:Bool)(i:Nat):Bool:=[b0,b1,b2,b3,b4,b5,b6,b7].getD i false
def is8(b0 b1 b2 b3 b4 b5 b6 b7:Int)(i:Nat):Int:=[b0,b1,b2,b3,b4,b5,b6,b7].getD i 0
section
variable {H:Type}{enc:TypeId×Value->H}{P:Program}{w:World}{base:Nat}{spare:Nat->Bool}{held:Bool}
theorem J8{t:TypeId}{n:Nat}{v:Value}{y:DataW H×List MemPlace}(hi:P.underlying t=some (.int .i64))(h:DataW.trod enc P w base spare held n t [v]=some y):∃z,v=.int .i64 z/\qL z:=by
 obtain⟨z,hz,hy,hw⟩:=DataW.trod_int hi h;exact⟨z,by simpa using hz,bounds_i64 hw⟩
theorem BO{r:Reach}{b0 n:Nat}{t e:TypeId}{v:Value}(ht:P.underlying t=some (.array n e))(h:Value.okWide P w r b0 t v):∃cs,v=.agg cs/\cs.size=P.cellsOf t:=by
 unfold Value.okWide at h;rw[ht]at h;obtain⟨cs,h1,h2,_⟩:=h;exact⟨cs,h1,h2⟩
theorem Tn{r:Reach}{b0:Nat}{t e:TypeId}{v:Value}{d:DataW H}{ps:List MemPlace}(ht:P.underlying t=some (.array 8 e))(hC:P.cellsOf t=8)(he:P.underlying e=some .bool)(hce:P.cellsOf e=1)
  (hv:Value.okWide P w r b0 t v) (h:DataW.Trod enc P w base spare held t v d ps):∃b0 b1 b2 b3 b4 b5 b6 b7:Bool,v=kZ (bs8 b0 b1 b2 b3 b4 b5 b6 b7):=by
 obtain⟨cs,rfl,hsz⟩:=BO ht hv;obtain⟨fuel,hf⟩:=h;obtain⟨cl⟩:=cs;have vU:cl.length=8:=hsz.trans hC
 match cl,vU with
 |[c0,c1,c2,c3,c4,c5,c6,c7],_=>
  obtain⟨xs,m,_,_,_,hx,hcell⟩:=DataW.trod_array ht hf;have g:∀i c,i<8->(([c0,c1,c2,c3,c4,c5,c6,c7]:List Value).drop i).take 1=[c]->∃z,c=.bool z:=by
   intro i c hi hc;have:=hcell i hi;rw[hce,Nat.mul_one]at this;have hc':(((Value.agg ⟨[c0,c1,c2,c3,c4,c5,c6,c7]⟩).cells.toList.drop i).take 1)=[c]:=by rw[<-hc];rfl
   rw[hc',aP (by omega)]at this;exact GH he this
  obtain⟨z0,rfl⟩:=g 0 c0 (by omega) rfl;obtain⟨z1,rfl⟩:=g 1 c1 (by omega) rfl;obtain⟨z2,rfl⟩:=g 2 c2 (by omega) rfl;obtain⟨z3,rfl⟩:=g 3 c3 (by omega) rfl;obtain⟨z4,rfl⟩:=g 4 c4 (by omega) rfl;obtain⟨z5,rfl⟩:=g 5 c5 (by omega) rfl;obtain⟨z6,rfl⟩:=g 6 c6 (by omega) rfl;obtain⟨z7,rfl⟩:=g 7 c7 (by omega) rfl;exact⟨z0,z1,z2,z3,z4,z5,z6,z7,rfl⟩
theorem J9{r:Reach}{b0:Nat}{t e:TypeId}{v:Value}{d:DataW H}{ps:List MemPlace}(ht:P.underlying t=some (.array 8 e))(hC:P.cellsOf t=8)(he:P.underlying e=some (.int .i64))(hce:P.cellsOf e=1)
  (hv:Value.okWide P w r b0 t v) (h:DataW.Trod enc P w base spare held t v d ps):∃b0 b1 b2 b3 b4 b5 b6 b7:Int,v=jK (is8 b0 b1 b2 b3 b4 b5 b6 b7)/\∀k,qL (is8 b0 b1 b2 b3 b4 b5 b6 b7 k):=by
 obtain⟨cs,rfl,hsz⟩:=BO ht hv;obtain⟨fuel,hf⟩:=h;obtain⟨cl⟩:=cs;have vU:cl.length=8:=hsz.trans hC
 match cl,vU with
 |[c0,c1,c2,c3,c4,c5,c6,c7],_=>
  obtain⟨xs,m,_,_,_,hx,hcell⟩:=DataW.trod_array ht hf;have g:∀i c,i<8->(([c0,c1,c2,c3,c4,c5,c6,c7]:List Value).drop i).take 1=[c]->∃z,c=.int .i64 z/\qL z:=by
   intro i c hi hc;have:=hcell i hi;rw[hce,Nat.mul_one]at this;have hc':(((Value.agg ⟨[c0,c1,c2,c3,c4,c5,c6,c7]⟩).cells.toList.drop i).take 1)=[c]:=by rw[<-hc];rfl
   rw[hc',aP (by omega)]at this;exact J8 he this
  obtain⟨z0,rfl,y0⟩:=g 0 c0 (by omega) rfl;obtain⟨z1,rfl,y1⟩:=g 1 c1 (by omega) rfl;obtain⟨z2,rfl,y2⟩:=g 2 c2 (by omega) rfl;obtain⟨z3,rfl,y3⟩:=g 3 c3 (by omega) rfl;obtain⟨z4,rfl,y4⟩:=g 4 c4 (by omega) rfl;obtain⟨z5,rfl,y5⟩:=g 5 c5 (by omega) rfl;obtain⟨z6,rfl,y6⟩:=g 6 c6 (by omega) rfl;obtain⟨z7,rfl,y7⟩:=g 7 c7 (by omega) rfl;refine⟨z0,z1,z2,z3,z4,z5,z6,z7,rfl,λk=>?_⟩;rcases(by omega:k=0\/k=1\/k=2\/k=3\/k=4\/k=5\/k=6\/k=7\/8<=k)with rfl|rfl|rfl|rfl|rfl|rfl|rfl|rfl|h8
  ·exact y0
  ·exact y1
  ·exact y2
  ·exact y3
  ·exact y4
  ·exact y5
  ·exact y6
  ·exact y7
  ·unfold is8
   rw[ay,aY (by simpa using h8)];unfold qL;simp
end
end
end Go.Proofs.YteadkhigkmijiaaGreat
