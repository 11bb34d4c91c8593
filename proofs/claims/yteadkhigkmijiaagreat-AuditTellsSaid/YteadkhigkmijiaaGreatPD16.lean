/- Texts LineI, MixTwo, SrB, GdB in one. -/
import Derived.Deep.RegionWith
import Derived.Deep.RegionHeld3
import Derived.Test.YteadkhigkmijiaaGreatPD1
import Derived.Test.YteadkhigkmijiaaGreatPD13
import Derived.Test.YteadkhigkmijiaaGreatPD15
set_option linter.all false
namespace Go.Proofs.YteadkhigkmijiaaGreat
section
set_option maxRecDepth 100000
set_option maxHeartbeats 2000000
open Go.RowKit
def mx(n:Nat->Nat):Nat->Nat
 |0=>0
 |i+1=>max (mx n i) (n i)
def sm(n:Nat->Nat)(a:Nat->Nat->Int):Nat->Nat->Int
 |0,_=>0
 |i+1,k=>sm n a i k+(if k<n i then a i k else 0)
theorem wh(n:Nat->Nat)(M:Nat):∀m,(∀i,i<m->n i<=M)->mx n m<=M
 |0,_=>bH _
 |m+1,h=>Nat.max_le.2 ⟨wh n M m λi hi=>h i (by omega),h m (by omega)⟩
theorem Cn(n:Nat->Nat):∀m i,i<m->n i<=mx n m
 |m+1,i,h=>by
  by_cases hi:i=m
  ·subst hi;exact Nat.le_max_right _ _
  ·exact aW (Cn n m i (by omega)) (Nat.le_max_left _ _)
theorem KA:(.complex .f64 0 0:Value)=cx 0 0:=by
 unfold cx;rw[show floatOfInt .f64 0=0 from nK]
attribute [local go_sem] Cm
theorem Co(L:Option Addr)(m C:Nat)(A:Nat->Option Addr)(n c:Nat->Nat)(a b:Nat->Nat->Int)(w:World)(h:iY w w L m λi=>.slice (A i) (n i) (c i))
  (hrow:∀i,i<m->iY w w (A i) (n i) λk=>cx (a i k) (b i k)) (hm:m<=8) (hn:∀i,i<m->n i<=100000)
  (ha:∀i k,i<m->k<n i->(a i k).natAbs<2^52) (hb:∀i k,i<m->k<n i->(b i k).natAbs<2^52) (hsa:∀i k,i<m->(sm n a i k).natAbs<2^52) (hsb:∀i k,i<m->(sm n b i k).natAbs<2^52):
  Calls Tryz.prog 104 #[.slice L m C] w λe w'=>
   ∃v,e=.returned v/\iP w' w 234 v (mx n m) (λk=>cx (sm n a m k) (sm n b m k))/\Below w w w':=by
 go_enter Tryz.func104,Tryz.ntmps104
 go_wp2
 go_loop [3,13] (λx i=>∃k:Nat,k<=m/\i=↑k/\x=↑(mx n k)) (λ_ i=>m-(intOf i).toNat)
 case atStart=>exact⟨0,by omega,rfl,rfl⟩
 case round=>
  obtain⟨i,hi,rfl,rfl⟩:=hrel;by_cases hlt:i<m
  ·obtain⟨b0,off,rfl,hbb,hcell⟩:=h (by omega)
   have hx:w.cell? (b0,off+i)=some (.slice (A i) (n i) (c i)):=hcell i hlt;have hni:=hn i hlt;have hmi:=wh n 100000 i λj hj=>hn j (by omega);have HS:=af (show mx n (i+1)=max (mx n i) (n i)from rfl);clear hcell;by_cases hle:mx n i<=n i
   all_goals
    go_wp2
    go_round
    case rel=>exact⟨i+1,by omega,by go_num,by rw[HS.o];go_num⟩
    case measure=>simp[intOf];omega
  ·obtain rfl:i=m:=by omega
   have hM:=wh n 100000 i λj hj=>hn j (by omega);have hMi:=Cn n i;clear hlt hi;go_wp2_with (at_make;go_loud (refine oM _ rfl _ _ 184 rfl w w (ah _ _) lr 234 (.complex .f64 0 0) 16 mh rfl Tryz.underlying184 _ _ _ _ (mx n i) rfl rfl rfl rfl (by omega) (by unfold maxLen;omega) ?_));intro w1 ho1 hb1 hs1 _;go_wp2
   go_loopw [26] (λj wr=>∃r:Nat,r<=i/\j=↑r/\iP wr w 234 (.slice (some (w,0)) (mx n i) (mx n i)) (mx n i) (λk=>cx (sm n a r k) (sm n b r k))/\Below w w wr) (λj _=>i-(intOf j).toNat)
   case atStart=>exact⟨0,by omega,rfl,ho1.alike λk _=>KA,hb1⟩
   case round=>
    obtain⟨r,hr,rfl,hown,hbel⟩:=hrel;clear ho1 hb1;by_cases hlr:r<i
    ·obtain⟨b0,off,rfl,hbb,hcell⟩:=h (by omega)
     have hx:wr.cell? (b0,off+r)=some (.slice (A r) (n r) (c r)):=(hbel.cell hbb).trans (hcell r hlr);have hnr:=hn r hlr;have Tq:=hMi r hlr;have hdr:decide (r<i)=true:=by simp;omega
     have hsr:=hrow r hlr;clear hcell;rcases gF (n r)with h0|h0
     case' inr=>
      obtain⟨b1,off1,hA,mK,hcell1⟩:=hsr h0;rw[hA]at hx;clear hA
     case' inl=>
      have h0':n r<=0:=by omega
      clear h0
     all_goals
      go_wp2
      go_loopw [32] (λj wx=>∃k:Nat,k<=n r/\j=↑k/\iP wx w 234 (.slice (some (w,0)) (mx n i) (mx n i)) (mx n i) (λk'=>cx (sm n a (if k'<k then r+1 else r) k') (sm n b (if k'<k then r+1 else r) k'))/\Below w w wx) (λj _=>n r-(intOf j).toNat)
      case atStart=>exact⟨0,by omega,rfl,hown.alike λk _=>by simp,hbel⟩
      case round=>
       clear hx hown hbel;obtain⟨k,hk,rfl,hown,hbel⟩:=hrel;by_cases hlk:k<n r
       ·try (exfalso;omega)
        all_goals
         have hy:wr.cell? (b1,off1+k)=some (.complex .f64 (floatOfInt .f64 (a r k)) (floatOfInt .f64 (b r k))):=(hbel.cell mK).trans (hcell1 k hlk);have hold:=hown.cell (k:=k) (by omega);rw[ai (fD k)]at hold;have hold':wr.cell? (w,k)=some (.complex .f64 (floatOfInt .f64 (sm n a r k)) (floatOfInt .f64 (sm n b r k))):=hold;have hfr:=hown.frozen k;have hadd:=Ky wr (sm n a r k) (sm n b r k) (a r k) (b r k) (hsa r k hlr) (hsb r k hlr) (ha r k hlr hlk) (hb r k hlr hlk);have e1:sm n a (r+1) k=sm n a r k+a r k:=by simp[sm,hlk]
         have e2:sm n b (r+1) k=sm n b r k+b r k:=by simp[sm,hlk]
         have ho2:=hown.j5 (V':=λk'=>cx (sm n a (if k'<k+1 then r+1 else r) k') (sm n b (if k'<k+1 then r+1 else r) k')) k (.complex .f64 (floatOfInt .f64 (sm n a r k+a r k)) (floatOfInt .f64 (sm n b r k+b r k))) (by
           show cx _ _=_;rw[au (by omega),e1,e2]
           rfl) (λj _ hj=>by
          show cx _ _=cx _ _;by_cases h1:j<k
          ·rw[au h1,au (by omega)]
          ·rw[ai h1,ai (by omega)])
         have hb2:=hbel.setCell (p:=(w.heap.size,k)) lr (.complex .f64 (floatOfInt .f64 (sm n a r k+a r k)) (floatOfInt .f64 (sm n b r k+b r k)));have hkM:k<mx n i:=by omega
         clear hold e1 e2;go_wp2;go_roundw
         case rel=>exact⟨k+1,by omega,by go_num,ho2,hb2⟩
         case measure=>simp[intOf];omega
       ·go_wp2
        go_roundw
        case rel=>exact⟨r+1,by omega,by go_num,hown.alike λj _=>by
          show cx _ _=cx _ _;by_cases h1:j<k
          ·rw[au h1]
          ·rw[ai h1]
           have h2:¬j<n r:=by omega
           simp[sm,h2],hbel⟩
        case measure=>simp[intOf];omega
    ·go_wp2
     go_ret;exact⟨_,rfl,by rw[show i=r by omega];rw[show i=r by omega]at hown;exact hown,hbel⟩
end
section
set_option maxRecDepth 100000
open Go.RowKit
def lO{α:Type}(x y:α)(i:Nat):α:=if i=0 then x else y
theorem KU(w:World)(B:Nat)(e:TypeId)(A0 A1:Option Addr)(n0 n1 c0 c1:Nat)(hB:w.heap.size<B):
  iY (w.alloc (.cells #[.slice A0 n0 c0,.slice A1 n1 c1] e)) B (some ⟨w.heap.size,0,none⟩) 2 λi=>.slice (lO A0 A1 i) (lO n0 n1 i) (lO c0 c1 i):=λ_=>
 ⟨_,_,rfl,hB,λk hk=>by
  rw[aZ _ _ _ _ rfl];have:k=0\/k=1:=by omega
  rcases this with rfl|rfl<;>rfl⟩
theorem KV{w:World}{B B' n:Nat}{e:TypeId}{v:Value}{V:Nat->Value}(h:iP w B e v n V)(hB:B'<=B):iP w B' e v n V:=by
 refine⟨h.1,?_⟩;rcases h.2 with h|⟨g,cap,cur,h1,h2,h3⟩
 ·exact .inl h
 ·exact .inr ⟨g,cap,cur,h1,by omega,h3⟩
theorem KW(A0 A1:Option Addr)(n0 n1 c0 c1:Nat)(a0 b0 a1 b1:Nat->Int)(w:World)(e:TypeId)
  (h0:iY w w.heap.size A0 n0 λk=>cx (a0 k) (b0 k)) (h1:iY w w.heap.size A1 n1 λk=>cx (a1 k) (b1 k)) (hn0:n0<=100000) (hn1:n1<=100000)
  (s0:∀k,(a0 k).natAbs<2^50/\(b0 k).natAbs<2^50) (s1:∀k,(a1 k).natAbs<2^50/\(b1 k).natAbs<2^50):
  Calls Tryz.prog 104 #[.slice (some ⟨w.heap.size,0,none⟩) 2 2] (w.alloc (.cells #[.slice A0 n0 c0,.slice A1 n1 c1] e)) λe w'=>
   ∃v,e=.returned v/\iP w' w.heap.size 234 v (max n0 n1) (λk=>cx ((if k<n0 then a0 k else 0)+(if k<n1 then a1 k else 0)) ((if k<n0 then b0 k else 0)+(if k<n1 then b1 k else 0)))/\Below w.heap.size w w':=by
 have hb:Below w.heap.size w (w.alloc (.cells #[.slice A0 n0 c0,.slice A1 n1 c1] e)):=(ah _ _).alloc (aR _) _;have hsm:∀(n:Nat->Nat)(x y:Nat->Int)(i k:Nat),i<2->(∀k,(x k).natAbs<2^50)->(sm n (lO x y) i k).natAbs<2^52:=by
  intro n x y i k hi hx;have:i=0\/i=1:=by omega
  rcases this with rfl|rfl
  ·simp[sm]
  ·have:=hx k
   simp only[sm,lO,dG]
   split<;>omega
 refine(Co (some ⟨w.heap.size,0,none⟩) 2 2 (lO A0 A1) (lO n0 n1) (lO c0 c1) (lO a0 a1) (lO b0 b1) _ (KU w _ e A0 A1 n0 n1 c0 c1 (by simp)) ?_ (by omega) ?_ ?_ ?_ (λi k hi=>hsm _ _ _ i k hi λk=>(s0 k).1) (λi k hi=>hsm _ _ _ i k hi λk=>(s0 k).2)).mono ?_
 ·intro i hi
  have:i=0\/i=1:=by omega
  rcases this with rfl|rfl
  ·exact(h0.below hb).more (by simp)
  ·exact(h1.below hb).more (by simp)
 ·intro i hi
  have:i=0\/i=1:=by omega
  rcases this with rfl|rfl
  ·exact hn0
  ·exact hn1
 ·intro i k hi _
  have:i=0\/i=1:=by omega
  rcases this with rfl|rfl
  ·exact gT (s0 k).1 (by decide)
  ·exact gT (s1 k).1 (by decide)
 ·intro i k hi _
  have:i=0\/i=1:=by omega
  rcases this with rfl|rfl
  ·exact gT (s0 k).2 (by decide)
  ·exact gT (s1 k).2 (by decide)
 ·rintro e w' ⟨v,rfl,ho,hb'⟩
  refine⟨v,rfl,?_,hb.trans (hb'.mono (by simp))⟩;have hmx:mx (lO n0 n1) 2=max n0 n1:=by simp[mx,lO]
  rw[hmx]at ho;exact KV (ho.alike λk _=>by simp[sm,lO]) (by simp)
end
section
set_option maxRecDepth 100000
set_option maxHeartbeats 1000000
open Go.RowKit
structure Kw(P:List Nat)(w w':World):Prop where
 os:w'.os=w.os
 tape:w'.tape=w.tape
 output:w'.output=w.output
 size:w.heap.size<=w'.heap.size
 block:∀i,i<w.heap.size->i∉P->w'.heap[i]?=w.heap[i]?
section
variable {P:List Nat}{w w1 w2:World}
theorem Kw.refl(P:List Nat)(w:World):Kw P w w:=⟨rfl,rfl,rfl,aR _,λ_ _ _=>rfl⟩
abbrev fU:=@Kw.refl
theorem Kw.trans(h:Kw P w w1)(k:Kw P w1 w2):Kw P w w2:=⟨k.os.trans h.os,k.tape.trans h.tape,k.output.trans h.output,aW h.size k.size,λi hi hn=>(k.block i (aN hi h.size) hn).trans (h.block i hi hn)⟩
theorem Kw.below(h:Kw P w w1)(k:Below w1 w1 w2):Kw P w w2:=h.trans ⟨k.os,k.tape,k.output,k.size,λi hi _=>k.block i hi⟩
theorem Kw.lQ(P:List Nat)(k:Below w w w1):Kw P w w1:=(fU P w).below k
abbrev fG:=@Kw.lQ
theorem Kw.only{g:Nat}(k:Only g w w1)(hg:g∈P):Kw P w w1:=⟨k.os,k.tape,k.output,k.size,λi hi hn=>k.block i hi (by intro e;cases e;exact hn hg)⟩
theorem Kw.set(h:Kw P w w1)(p:Addr)(hp:p.block∈P)(x:Value):Kw P w (w1.setCell p x):=⟨h.os,h.tape,h.output,by simpa[World.setCell]using h.size,λk hk hn=>(dR w1 p x k (λe=>hn (by rw[e];exact hp))).trans (h.block k hk hn)⟩
theorem Kw.alloc(h:Kw P w w1)(o:Obj):Kw P w (w1.alloc o):=h.below ((ah _ _).alloc lr o)
theorem Kw.drew(h:Kw P w w1):Kw P w w1.drew:=⟨h.os,h.tape,h.output,h.size,h.block⟩
theorem Kw.toBelow{B:Nat}(h:Kw P w w1)(hB:B<=w.heap.size)(hP:∀i∈P,B<=i):Below B w w1:=⟨h.os,h.tape,h.output,h.size,λi hi=>h.block i (by omega) (λhp=>by have:=hP i hp;omega)⟩
theorem Blk.kp{g:Nat}{cs:Array Value}{t:TypeId}(h:Blk w g cs t)(k:Kw P w w1)(hg:g∉P):Blk w1 g cs t:=(k.block g h.lt hg).trans h
end
structure Row(W:World)(P:List Nat)(v:Value)(n:Nat)(a b:Nat->Int):Prop where
 at_:∃A c,v=.slice A n c/\n<=c/\c<=maxLen/\(0<n->∃g off,A=some ⟨g,off,none⟩/\g<W.heap.size/\g∉P/\∀k,k<n->W.cell? ⟨g,off+k,none⟩=some (cx (a k) (b k)))
 n4:n<=400
 one:∀k,(a k).natAbs<=8/\(b k).natAbs<=8
theorem Row.sees{W:World}{P:List Nat}{v:Value}{n:Nat}{a b:Nat->Int}(h:Row W P v n a b):∃A c,v=.slice A n c/\n<=c/\c<=maxLen/\iY W W A n λk=>cx (a k) (b k):=by
 obtain⟨A,c,rfl,h1,h2,h3⟩:=h.at_;refine⟨A,c,rfl,h1,h2,λh0=>?_⟩;obtain⟨g,off,rfl,hg,-,hc⟩:=h3 h0;exact⟨g,off,rfl,hg,hc⟩
theorem Row.kp{W W':World}{P:List Nat}{v:Value}{n:Nat}{a b:Nat->Int}(h:Row W P v n a b)(k:Kw P W W'):Row W' P v n a b:=⟨by
 obtain⟨A,c,rfl,h1,h2,h3⟩:=h.at_;refine⟨A,c,rfl,h1,h2,λh0=>?_⟩;obtain⟨g,off,rfl,hg,hP,hc⟩:=h3 h0;refine⟨g,off,rfl,aN hg k.size,hP,λj hj=>?_⟩;have:=hc j hj;unfold World.cell? at this ⊢;rw[show W'.heap[((g,off+j):Addr).block]?=W.heap[((g,off+j):Addr).block]? from k.block g hg hP];exact this,h.n4,h.one⟩
theorem Row.cons{W:World}{P:List Nat}{v:Value}{n:Nat}{a b:Nat->Int}(h:Row W P v n a b)(x:Nat)(hx:W.heap.size<=x):Row W (x::P) v n a b:=⟨by
 obtain⟨A,c,rfl,h1,h2,h3⟩:=h.at_;refine⟨A,c,rfl,h1,h2,λh0=>?_⟩;obtain⟨g,off,rfl,hg,hP,hc⟩:=h3 h0;exact⟨g,off,rfl,hg,by simp only[bq,not_or];exact⟨by omega,hP⟩,hc⟩,h.n4,h.one⟩
theorem Row.sub{W:World}{P P':List Nat}{v:Value}{n:Nat}{a b:Nat->Int}(h:Row W P v n a b)(hP:∀i∈P',i∈P\/W.heap.size<=i):Row W P' v n a b:=⟨by
 obtain⟨A,c,rfl,h1,h2,h3⟩:=h.at_;refine⟨A,c,rfl,h1,h2,λh0=>?_⟩;obtain⟨g,off,rfl,hg,hn,hc⟩:=h3 h0;exact⟨g,off,rfl,hg,λe=>by rcases hP g e with h|h;exact hn h;omega,hc⟩,h.n4,h.one⟩
theorem Row.nil(W:World)(P:List Nat)(a b:Nat->Int)(h:∀k,(a k).natAbs<=8/\(b k).natAbs<=8):Row W P (.slice none 0 0) 0 a b:=⟨⟨none,0,rfl,aR _,bH _,λh=>absurd h (by omega)⟩,by omega,h⟩
theorem Row.qp{W:World}{B:Nat}{P:List Nat}{v:Value}{n:Nat}{a b:Nat->Int}(h:iP W B 234 v n λk=>cx (a k) (b k))(hP:∀i∈P,i<B)(hn:n<=400)(h1:∀k,(a k).natAbs<=8/\(b k).natAbs<=8):Row W P v n a b:=by
 obtain⟨A,c,rfl,n1,n2,hs⟩:=h.form;refine⟨⟨A,c,rfl,n1,n2,λh0=>?_⟩,hn,h1⟩;obtain⟨g,off,rfl,hg,hc⟩:=hs h0;refine⟨g,off,rfl,hg,λe=>?_,hc⟩;have:=(dL h g rfl).1;have:=hP g e;omega
abbrev iC:=@Row.qp
def rn(l:List Int):Nat:=8*min l.length 50
def rq(l:List Int):Nat->Int:=lv true λk=>l.getD k 0
theorem uK(l:List Int)(k:Nat):(rq l k).natAbs<=8:=by
 rcases vZ (λk=>l.getD k 0) k with h|h<;>unfold rq<;>omega
theorem wX(l:List Int):rn l<=400:=by unfold rn;omega
theorem Fp(v:Value)(l:List Int)(w:World)(hv:iI w w v l)(hl:iK l):
  Calls Tryz.prog 148 #[v] w λe w'=>∃u,e=.returned u/\iP w' w 234 u (rn l) (λk=>cx (rq l k) (rq l k))/\Below w w w':=by
 obtain⟨A,c,rfl,n1,n2,hs,-⟩:=hv.at_;have hD:=af (Kr A l.length c (λk=>l.getD k 0) true true w hs (λk _=>hl.getD k) n1 n2);change Hid (Calls _ _ _ _ (λe w'=>∃v,e=.returned v/\iP w' w 234 v (rn l) (λk=>cx (rq l k) (rq l k))/\Below w w w'))at hD
 go_enter Tryz.func148,Tryz.ntmps148
 go_wp2_with fail;refine hD.o.mono ?_;rintro e w1 ⟨u,rfl,ho,hb⟩;go_wp2;go_ret;exact⟨u,rfl,ho,hb⟩
def gq(n:Nat)(q:Nat->Int)(a:Int):Nat->Int:=turned (max a (-a)%(n:Int)) q
theorem uL(t:Int)(q:Nat->Int)(h:∀k,(q k).natAbs<=8)(k:Nat):(turned t q k).natAbs<=8:=by
 have:=h k;unfold turned
 split<;>omega
theorem Qr(v:Value)(n:Nat)(q:Nat->Int)(a:Int)(P:List Nat)(w:World)(h:Row w P v n q q)(hP:∀i∈P,i<w.heap.size)(ha:-1000<=a/\a<=1000):
  Calls Tryz.prog 194 #[v,↑a] w λe w'=>∃u,e=.returned u/\Row w' P u n (gq n q a) (gq n q a)/\Below w w w':=by
 have H:=af h;obtain⟨A,c,rfl,n1,n2,hs⟩:=h.sees;have h4:=h.n4;have h1:=h.one;clear h;by_cases h0:n=0
 ·subst h0
  go_enter Tryz.func194,Tryz.ntmps194
  go_wp2;go_ret;exact⟨_,rfl,Row.nil _ _ _ _ (λk=>⟨uL _ _ (λk=>(h1 k).1) k,uL _ _ (λk=>(h1 k).1) k⟩),ah _ _⟩
 ·have q0:((n:Int)==0)=false:=by rw[aB];omega
  have q1:¬(n:Int)=0:=by omega
  have z1:IntKind.i64.wrap (-a)=-a:=aO _ (by omega);have z2:Int.tmod (max a (-a)) (n:Int)=max a (-a)%(n:Int):=dA (by omega);have z3:0<=max a (-a)%(n:Int)/\max a (-a)%(n:Int)<n:=⟨Int.emod_nonneg _ q1,Int.emod_lt_of_pos _ (by omega)⟩;have hT:∀X,X=max a (-a)->Hid (Calls Tryz.prog 218 #[.slice A n c,↑(X%(n:Int):Int)] w λe w'=>∃v,e=.returned v/\iP w' w 234 v n (λk=>cx (gq n q a k) (gq n q a k))/\Below w w w'):=by
   rintro X rfl;exact af (Kz A n c q q (max a (-a)%(n:Int)) w hs (λk _=>by have:=(h1 k).1;omega) (λk _=>by have:=(h1 k).1;omega) (by omega) (by omega))
  have HP:=af hP;have H1:=af h1;clear hs h1 hP
  go_enter Tryz.func194,Tryz.ntmps194
  go_wp2_with fail
  all_goals
   refine(hT _ (by omega)).o.mono ?_;rintro e w1 ⟨u,rfl,ho,hb⟩;go_wp2;go_ret;exact⟨u,rfl,iC ho HP.o h4 (λk=>⟨uL _ _ (λk=>(H1.o k).1) k,uL _ _ (λk=>(H1.o k).1) k⟩),hb⟩
theorem uI(v:Value)(n:Nat)(q:Nat->Int)(i:Nat)(P:List Nat)(w:World)(h:Row w P v n q q)(hP:∀i∈P,i<w.heap.size):
  Calls Tryz.prog 153 #[v,↑(i:Nat)] w λe w'=>∃u,e=.returned u/\Row w' P u n (λk=>pf (decide (i=0)) (q k)) (λk=>pf (decide (i=1)) (q k))/\Below w w w':=by
 obtain⟨A,c,rfl,n1,n2,hs⟩:=h.sees;have h4:=h.n4;have H1:=af h.one;have hG:=af (Ku A n c q q (decide (i=0)) (decide (i=1)) w hs (by omega));have q0:((i:Int)==0)=decide (i=0):=by rw[bY];simp
 have q1:((i:Int)==1)=decide (i=1):=by rw[bY];simp;omega
 clear hs h;generalize decide (i=0)=x at *;generalize decide (i=1)=y at *
 go_enter Tryz.func153,Tryz.ntmps153
 go_wp2_with fail;refine hG.o.mono ?_;rintro e w1 ⟨u,rfl,ho,hb⟩;go_wp2;go_ret;refine⟨u,rfl,iC ho hP h4 (λk=>?_),hb⟩;have:=H1.o k;unfold pf
 cases x<;>cases y<;>simp[this]
structure Sd where
 n:Nat
 q:Nat->Int
 at_:Int
 df:Bool
def c3:List (Value×Sd)->List Value
 |[]=>[]
 |(v,s)::l=>v :: ↑s.at_ :: ↑s.df::c3 l
theorem Fq:∀(l:List (Value×Sd))(k:Nat)(x:Value×Sd),l[k]?=some x->(c3 l)[k*3]?=some x.1/\(c3 l)[k*3+1]?=some ↑x.2.at_/\(c3 l)[k*3+2]?=some ↑x.2.df
 |[],k,x,h=>by simp at h
 |(v,s)::l,0,x,h=>by simp at h;subst h;exact⟨rfl,rfl,rfl⟩
 |(v,s)::l,k+1,x,h=>by
  have:=Fq l k x (by simpa using h);rw[show(k+1)*3=k*3+3 by omega];exact this
theorem Fu:∀(l:List (Value×Sd))(k:Nat)(x y:Value×Sd),l[k]?=some y->(((c3 l).set (k*3) x.1).set (k*3+1) ↑x.2.at_).set (k*3+2) ↑x.2.df=c3 (l.set k x)
 |[],k,x,y,h=>by simp at h
 |(v,s)::l,0,x,y,h=>rfl
 |(v,s)::l,k+1,x,y,h=>by
  have:=Fu l k x y (by simpa using h);rw[show(k+1)*3=k*3+3 by omega];simp only[c3,fH,List.set];exact dn (λz=>v::Value.int .i64 s.at_::Value.bool s.df::z) this
theorem Fv:∀(l:List (Value×Sd))(k:Nat)(u v:Value)(s t:Sd),l[k]?=some (v,s)->t.at_=s.at_->t.df=s.df->(c3 l).set (k*3) u=c3 (l.set k (u,t))
 |[],k,u,v,s,t,h,_,_=>by simp at h
 |(v',s')::l,0,u,v,s,t,h,h1,h2=>by simp at h;obtain⟨rfl,rfl⟩:=h;simp[c3,h1,h2]
 |(v',s')::l,k+1,u,v,s,t,h,h1,h2=>by
  have:=Fv l k u v s t (by simpa using h) h1 h2;rw[show(k+1)*3=k*3+3 by omega];simp only[c3,fH,List.set];exact dn (λz=>v'::Value.int .i64 s'.at_::Value.bool s'.df::z) this
theorem Fw:∀(l:List (Value×Sd))(k:Nat)(v:Value)(s t:Sd),l[k]?=some (v,s)->t.df=s.df->(c3 l).set (k*3+1) ↑t.at_=c3 (l.set k (v,t))
 |[],k,v,s,t,h,_=>by simp at h
 |(v',s')::l,0,v,s,t,h,h1=>by simp at h;obtain⟨rfl,rfl⟩:=h;simp[c3,h1]
 |(v',s')::l,k+1,v,s,t,h,h1=>by
  have:=Fw l k v s t (by simpa using h) h1;rw[show(k+1)*3+1=k*3+1+3 by omega];simp only[c3,fH,List.set];exact dn (λz=>v'::Value.int .i64 s'.at_::Value.bool s'.df::z) this
theorem Fx:∀(l:List (Value×Sd))(k:Nat)(v:Value)(s t:Sd),l[k]?=some (v,s)->t.at_=s.at_->(c3 l).set (k*3+2) ↑t.df=c3 (l.set k (v,t))
 |[],k,v,s,t,h,_=>by simp at h
 |(v',s')::l,0,v,s,t,h,h1=>by simp at h;obtain⟨rfl,rfl⟩:=h;simp[c3,h1]
 |(v',s')::l,k+1,v,s,t,h,h1=>by
  have:=Fx l k v s t (by simpa using h) h1;rw[show(k+1)*3+2=k*3+2+3 by omega];simp only[c3,fH,List.set];exact dn (λz=>v'::Value.int .i64 s'.at_::Value.bool s'.df::z) this
structure jd(W:World)(P:List Nat)(b:Nat)(l:List (Value×Sd)):Prop where
 blk:Blk W b (c3 l).toArray 224
 row:∀x∈l,Row W P x.1 x.2.n x.2.q x.2.q
 mem:b∈P
theorem jd.lt{W:World}{P:List Nat}{b:Nat}{l:List (Value×Sd)}(h:jd W P b l):b<W.heap.size:=h.blk.lt
theorem jd.cells{W:World}{P:List Nat}{b:Nat}{l:List (Value×Sd)}(h:jd W P b l){k:Nat}{v:Value}{s:Sd}(hk:l[k]?=some (v,s)):W.cell? (b,k*3)=some v/\W.cell? (b,k*3+1)=some ↑s.at_/\W.cell? (b,k*3+2)=some ↑s.df:=by
 obtain⟨h0,h1,h2⟩:=Fq l k _ hk;exact⟨h.blk.cell (k*3) (by simpa using h0),h.blk.cell (k*3+1) (by simpa using h1),h.blk.cell (k*3+2) (by simpa using h2)⟩
theorem jd.kp{W W':World}{P:List Nat}{b:Nat}{l:List (Value×Sd)}(h:jd W P b l)(k:Kw P W W')(hb:W'.heap[b]?=W.heap[b]?):jd W' P b l:=⟨hb.trans h.blk,λx hx=>(h.row x hx).kp k,h.mem⟩
theorem jd.below{W W':World}{P:List Nat}{b:Nat}{l:List (Value×Sd)}(h:jd W P b l)(k:Below W W W'):jd W' P b l:=h.kp (fG P k) (k.block b h.lt)
theorem jd.drew{W:World}{P:List Nat}{b:Nat}{l:List (Value×Sd)}(h:jd W P b l):jd W.drew P b l:=h.below ((ah _ _).drew)
theorem qo{α:Type}{l:List α}{k:Nat}{x y:α}(h:y∈l.set k x):y=x\/y∈l:=by
 rcases gW h with h|h
 ·exact .inr h
 ·exact .inl h
theorem jd.v_{W:World}{P:List Nat}{b:Nat}{l:List (Value×Sd)}(h:jd W P b l){k:Nat}{u v:Value}{s t:Sd}(hk:l[k]?=some (v,s))(h1:t.at_=s.at_)(h2:t.df=s.df)(hr:Row W P u t.n t.q t.q):
  jd (W.setCell (b,k*3) u) P b (l.set k (u,t)):=⟨(h.blk.set (k*3) u).eq (by rw[bN,Fv l k u v s t hk h1 h2]),λx hx=>by
 have kp:=(fU P W).set (b,k*3) h.mem u;rcases qo hx with rfl|hx
 ·exact hr.kp kp
 ·exact(h.row x hx).kp kp,h.mem⟩
theorem jd.a_{W:World}{P:List Nat}{b:Nat}{l:List (Value×Sd)}(h:jd W P b l){k:Nat}{v:Value}{s:Sd}(hk:l[k]?=some (v,s))(a:Int):
  jd (W.setCell (b,k*3+1) ↑a) P b (l.set k (v,{s with at_:=a})):=⟨(h.blk.set (k*3+1) ↑a).eq (by rw[bN,<-Fw l k v s {s with at_:=a} hk rfl]),λx hx=>by
 have kp:=(fU P W).set (b,k*3+1) h.mem ↑a;rcases qo hx with rfl|hx
 ·exact(h.row _ (bO hk)).kp kp
 ·exact(h.row x hx).kp kp,h.mem⟩
theorem jd.d_{W:World}{P:List Nat}{b:Nat}{l:List (Value×Sd)}(h:jd W P b l){k:Nat}{v:Value}{s:Sd}(hk:l[k]?=some (v,s))(a:Bool):
  jd (W.setCell (b,k*3+2) ↑a) P b (l.set k (v,{s with df:=a})):=⟨(h.blk.set (k*3+2) ↑a).eq (by rw[bN,<-Fx l k v s {s with df:=a} hk rfl]),λx hx=>by
 have kp:=(fU P W).set (b,k*3+2) h.mem ↑a;rcases qo hx with rfl|hx
 ·exact(h.row _ (bO hk)).kp kp
 ·exact(h.row x hx).kp kp,h.mem⟩
theorem jd.all{W:World}{P:List Nat}{b:Nat}{l:List (Value×Sd)}(h:jd W P b l){k:Nat}{u v:Value}{s t:Sd}(hk:l[k]?=some (v,s))(hr:Row W P u t.n t.q t.q):
  jd (((W.setCell (b,k*3) u).setCell (b,k*3+1) ↑t.at_).setCell (b,k*3+2) ↑t.df) P b (l.set k (u,t)):=⟨(((h.blk.set (k*3) u).set (k*3+1) ↑t.at_).set (k*3+2) ↑t.df).eq (by rw[bN,bN,bN,Fu l k (u,t) _ hk]),λx hx=>by
 have kp:=(((fU P W).set (b,k*3) h.mem u).set (b,k*3+1) h.mem ↑t.at_).set (b,k*3+2) h.mem ↑t.df;rcases qo hx with rfl|hx
 ·exact hr.kp kp
 ·exact(h.row x hx).kp kp,h.mem⟩
end
section
set_option maxRecDepth 100000
set_option maxHeartbeats 1000000
open Go.RowKit
open Clk (avg)
def time (x:Int):Prop:=-2305843009213693952<=x/\x<=2305843009213693952
theorem BK(a b:Int)(w:World)(ha:time a)(hb:time b):
  Calls Tryz.prog 222 #[↑a,↑b] w λe w'=>e=.returned ↑(a-b:Int)/\w=w':=by
 unfold time at ha hb;have z1:IntKind.i64.wrap (a-b)=a-b:=aO _ (by omega);by_cases h:a<b
 ·have q1:decide (b<=a)=false:=aj (by omega)
  have q2:decide (a<b)=true:=av (by omega);have q3:decide (0<=a-b)=false:=aj (by omega)
  go_enter Tryz.func222,Tryz.ntmps222
  go_wp2;go_ret;exact⟨rfl,rfl⟩
 ·have q1:decide (b<=a)=true:=av (by omega)
  have q2:decide (a<b)=false:=aj (by omega);have q3:decide (a-b<0)=false:=aj (by omega)
  go_enter Tryz.func222,Tryz.ntmps222
  go_wp2;go_ret;exact⟨rfl,rfl⟩
def lM(a b m:Int):Bool:=decide (-m<=a-b/\a-b<=m)
theorem BL(a b:Int)(ha:time a)(hb:time b)(h:a<=b):IntKind.u64.wrap (IntKind.u64.wrap b-IntKind.u64.wrap a)=b-a:=by
 unfold time at ha hb;have e:∀x,IntKind.u64.wrap x=x%18446744073709551616:=λx=>rfl;rw[e,e,e];omega
theorem BM(a b m:Int)(w:World)(ha:time a)(hb:time b)(hm:0<=m/\m<=2305843009213693952):
  Calls Tryz.prog 195 #[↑a,↑b,↑m] w λe w'=>e=.returned ↑(lM a b m)/\w=w':=by
 have h1:=af (BL a b ha hb);have h2:=af (BL b a hb ha);unfold time at ha hb
 go_enter Tryz.func195,Tryz.ntmps195
 go_wp2
 all_goals
  go_ret;refine⟨?_,rfl⟩;refine uT ?_
  first
   |(rw[h1.o (by omega)];unfold lM;congr 1;apply propext;omega)
   |(rw[h2.o (by omega)];unfold lM;congr 1;apply propext;omega)
   |(rw[show IntKind.u64.wrap 0=0 from rfl];unfold lM;congr 1;apply propext;omega)
def G.on(s:G):G:=if s.slot+1=s.n then {s with slot:=0,now:=s.now+jb s.lm s.l,l:=[]}else {s with slot:=s.slot+1}
theorem nL(s:G)(k:Nat):(grd s).setIfInBounds 18 ↑(k:Nat)=grd {s with slot:=k}:=by simp[grd]
theorem tj(s:G)(k:Int):(grd s).setIfInBounds 16 ↑k=grd {s with now:=k}:=by simp[grd]
theorem pR(s:G)(k:Nat):(grd s).setIfInBounds 19 ↑(k:Nat)=grd {s with si:=k}:=by simp[grd]
theorem tq(s:G)(k:Bool):(grd s).setIfInBounds 17 ↑k=grd {s with kn:=k}:=by simp[grd]
theorem small.iT{l:List Int}(h:small l){n:Int}(hn:-1099511627776<=n/\n<=1099511627776):small (iT l n):=by
 unfold Go.Proofs.YteadkhigkmijiaaGreat.iT
 split
 ·intro x hx
  rcases bG.1 hx with h1|h1
  ·exact h x (fP h1)
  ·simp at h1;subst h1;exact hn
 ·intro x hx
  rcases bG.1 hx with h1|h1
  ·exact h x h1
  ·simp at h1;subst h1;exact hn
def G.heard(s:G)(at_:Int):G:=(if s.sy s.slot then {s with si:=0,l:=iT s.l (at_-s.now)}else {s with si:=0}).on
def G.missed(s:G):G:=if s.si+1=2*s.n then {s with si:=s.si+1,kn:=false,slot:=0}else({s with si:=s.si+1}:G).on
theorem vR(s:G)(k:Nat)(hk:k<8):(grd s)[k]?=some ↑(s.sy k):=by
 rcases(by omega:k=0\/k=1\/k=2\/k=3\/k=4\/k=5\/k=6\/k=7)with rfl|rfl|rfl|rfl|rfl|rfl|rfl|rfl<;>rfl
end
end Go.Proofs.YteadkhigkmijiaaGreat
