/- Texts GdF, SrL, FrR, LineM, LineL, LineN, QmA in one. -/
import Derived.IntWalk
import Derived.Test.YteadkhigkmijiaaGreatPC1
import Derived.Test.YteadkhigkmijiaaGreatPC3
import Derived.Test.YteadkhigkmijiaaGreatPC4
import Derived.Test.YteadkhigkmijiaaGreatPC5
import Derived.Test.YteadkhigkmijiaaGreatPC8
import Derived.Test.YteadkhigkmijiaaGreatPC12
import Derived.Test.YteadkhigkmijiaaGreatPC13
import Derived.Test.YteadkhigkmijiaaGreatPC27
set_option linter.all false
namespace Go.Proofs.YteadkhigkmijiaaGreat
section
open Go.RowKit
open Tb (D T)
def qK(i:Nat):D:=⟨decide ((i:Int)<4)||((i:Int)%2==0),((i:Int)%3==0),20+3*((i:Int)*5%8),4⟩
def jQ(n:Nat):List D:=(List.range n).map qK
def jA(n:Nat)(dr:Int):T:=⟨jQ n,dr,4*dr+6,4*dr+9⟩
theorem lB(n:Nat):(jQ n).length=n:=by simp[jQ]
theorem J7(n:Nat):jQ (n+1)=jQ n++[qK n]:=by simp[jQ,cZ]
theorem tC(n:Nat)(dr:Int)(h4:4<=n)(h8:n<=8)(hd:0<=dr/\dr<=200):(jA n dr).is=true:=by
 have ha:Tb.are (jQ n)=true:=by
  rcases(by omega:n=4\/n=5\/n=6\/n=7\/n=8)with rfl|rfl|rfl|rfl|rfl<;>decide+kernel
 simp only[T.is,Tb.rest,jA,ha,cK,bg,Tb.lC];omega

end
section
set_option maxRecDepth 100000
set_option maxHeartbeats 2000000
open Go.RowKit
open Fr (St F)
theorem JZ(f:F)(v:Value)(w:World)(hv:iI w w v f.d)(hd:iK f.d):
  Calls Tryz.prog 173 #[frV f v] w (Enc w f):=by
 have his:=λW(hb:Below w w W)=>Jy f v W w (hv.below hb);obtain⟨A,c,rfl,c1,c2,-,-⟩:=hv.at_
 cases hi:f.is
 ·rw[hi]at his
  have his:=λW hb=>af (his W hb);have hE:mO f=1:=by simp[mO,hi]
  have hR:kJ f=[]:=by simp[kJ,hi]
  unfold Enc;rw[hE,hR];clear hi hE hR hv;unfold frV at his ⊢
  go_enter Tryz.func173,Tryz.ntmps173
  go_wp2_with fail;refine(his _ ((ah _ _).alloc lr _)).o.mono ?_;rintro e w1 ⟨rfl,hb⟩;have hb:=((ah w w).alloc lr _).trans (hb.mono (by simp));go_wp2;go_ret2;exact⟨_,rfl,bR,hb⟩
 ·rw[hi]at his
  have his:=λW hb=>af (his W hb);obtain⟨⟨k1,k3⟩,hmay,hlen⟩:=f.l9.1 hi;have hE:mO f=0:=by simp[mO,hi]
  have hR:kJ f=f.body++Fr.two (Fr.iM f.seed f.body):=by simp[kJ,hi,F.bytes]
  have hbody:=af (F.sM hi hd);have hbl:=f.sN;have hsl:=f.l8;have lU:=λW=>af (A9 f.st W);have pO:=λW=>af (AZ f.st hmay W);have hhl:f.hl<=6:=by unfold F.hl;split<;>omega
  unfold Enc;rw[hE,hR];have pQ:=λ(V:Value)(W:World)(h:iI W W V f.body)=>af (vE V f.body f.seed W h hbody.o (by omega) hsl);obtain⟨k,st,d⟩:=f;by_cases hk:k=1
  ·have hB1:F.body ⟨k,st,d⟩=[1]++[(d.length:Int)]++d:=by simp[F.body,F.head,hk]
   have hS1:F.seed ⟨k,st,d⟩=st.seed:=by simp[F.seed,hk]
   rw[hB1,hS1]at pQ ⊢;subst hk;simp only at hv k1 k3 hmay hlen his lU pO hsl;have hvd:=af hv;have hH:=λV W h=>af (pQ V W h);clear pQ hE hR hB1 hS1 hbody hbl hi hd hv hhl pO hmay;unfold frV at his ⊢;unfold stV at lU
   go_enter Tryz.func173,Tryz.ntmps173
   go_wp2_with fail;have iO:=af (sJ w ↑(1:Int) ↑st.r ↑st.s ↑st.m (.slice A d.length c) 182);generalize w.alloc (.cells #[↑(1:Int),↑st.r,↑st.s,↑st.m,.slice A d.length c] 182)=w0 at *;have hz0:w0.heap.size<=w.heap.size+1/\w.heap.size+1<=w0.heap.size:=by have:=iO.o.size;omega
   refine(his _ iO.o.below).o.mono ?_;rintro e w1 ⟨rfl,hb1⟩;obtain⟨z1,c10,c11,c12,c13,c14⟩:=iO.o.cell w1 hb1;clear his;go_wp2_with fail;refine(lU _).o.mono ?_;rintro e w2 ⟨rfl,hb⟩;have ho2:=(pJ w1 5 rfl #[.int .u8 1] [1] rfl w0 hb1.size (by simp[maxLen]) w1 1 1 rfl rfl rfl).below hb lr;have hb2:=(hb1.alloc hb1.size (.cells #[.int .u8 1] 5)).trans (hb.mono (by simp;have:=hb1.size;omega));obtain⟨z2,c20,c21,c22,c23,c24⟩:=iO.o.cell w2 hb2;have hwr:IntKind.u8.wrap ((d.length:Nat):Int)=d.length:=by rw[fA];omega
   have oL:=hb2.alloc hb2.size (.cells #[.int .u8 (d.length:Int)] 5);have x2:=(iO.o.cell _ oL).2.2.2.2.2;clear c10 c11 c12 c13 c14 hb hb1 lU c21 c22 c23;go_wp2_with fail
   go_region_held3 (λw'=>w'.cell? (w,4)=some (.slice A d.length c)) (first|exact c24|exact x2|exact x3|exact x5|exact x6) (first
    |((refine sL _ rfl (.tmp 24) (.tmp 29) 41 rfl w0 kx Tryz.underlying41 (.slice (some (w1,0)) 1 1) [1] w0 ?_ ?_ rfl (w2.heap.size+1) (.slice (some (w2,0)) 1 1) [(d.length:Int)] rfl ?_ ?_ ?_ ?_);exact(ho2.alloc _).drew;exact oL.drew;exact(oH w2 5 _ [(d.length:Int)] rfl _ (cJ _) (by simp[maxLen]) _ _ _ rfl rfl rfl).drew;exact oL.size;(focus simp);intro v3 w3 ho3 hb3 _;have x3:=(iO.o.cell _ hb3).2.2.2.2.2)
    |((refine sL _ rfl (.tmp 30) (.tmp 32) 41 rfl w0 kx Tryz.underlying41 v3 ([1]++[(d.length:Int)]) w0 ho3 hb3 rfl w (.slice A d.length c) d rfl ?_ ?_ ?_ ?_);exact hvd.o.below (iO.o.below.trans (hb3.mono (by omega)));exact hb3.size;(focus (simp;omega));intro v5 w5 ho5 hb5 _;have x5:=(iO.o.cell _ hb5).2.2.2.2.2)
    |((go_at_call 208;refine(hH v5 _ ?_).o.mono ?_);exact ho5.sees;rintro e w6 ⟨v6,rfl,ho6,hb6⟩;have hb6:=hb5.trans (hb6.mono hb5.size);have x6:=(iO.o.cell _ hb6).2.2.2.2.2))
   have hfin:=ho6.base (B:=w.heap.size) (by have:=hb5.size;omega);have hbf:=iO.o.below.trans (hb6.mono (by omega));clear hwr ho6;go_wp2;go_ret2;exact⟨_,rfl,hfin,hbf⟩
  ·have hB1:F.body ⟨k,st,d⟩=[k]++st.bytes++[(d.length:Int)]++d:=by simp[F.body,F.head,hk]
   have hS1:F.seed ⟨k,st,d⟩=0:=by simp[F.seed,hk]
   rw[hB1,hS1]at pQ ⊢;simp only at hv k1 k3 hmay hlen his lU pO hsl;have hk':(k != 1)=true:=by simpa using hk
   have hvd:=af hv;have hH:=λV W h=>af (pQ V W h);have hsb:st.bytes.length=4:=rfl;clear pQ hE hR hB1 hS1 hbody hbl hi hd hv hhl hmay hk;unfold frV at his ⊢;unfold stV at lU pO;generalize st.bytes=sb at *;have JE:sb.length<=4:=by omega
   clear hsb
   go_enter Tryz.func173,Tryz.ntmps173
   go_wp2_with fail;have iO:=af (sJ w ↑k ↑st.r ↑st.s ↑st.m (.slice A d.length c) 182);generalize w.alloc (.cells #[↑k,↑st.r,↑st.s,↑st.m,.slice A d.length c] 182)=w0 at *;have hz0:w0.heap.size<=w.heap.size+1/\w.heap.size+1<=w0.heap.size:=by have:=iO.o.size;omega
   refine(his _ iO.o.below).o.mono ?_;rintro e w1 ⟨rfl,hb1⟩;obtain⟨z1,c10,c11,c12,c13,c14⟩:=iO.o.cell w1 hb1;clear his;go_wp2_with fail;refine(lU _).o.mono ?_;rintro e w2 ⟨rfl,hb⟩;have ho2:=(pJ w1 5 rfl #[.int .u8 k] [k] rfl w0 hb1.size (by simp[maxLen]) w1 1 1 rfl rfl rfl).below hb lr;have hb2:=(hb1.alloc hb1.size (.cells #[.int .u8 k] 5)).trans (hb.mono (by simp;have:=hb1.size;omega));obtain⟨z2,c20,c21,c22,c23,c24⟩:=iO.o.cell w2 hb2;clear c10 c11 c12 c13 c14 hb lU;go_wp2_with fail;refine(pO _).o.mono ?_;rintro e wa ⟨va,rfl,hoa,hba⟩;have oI:=hb2.trans (hba.mono hb2.size);have hob:=ho2.below hba lr;have qH:=hoa.sees;clear c20 c21 c22 c23 c24 hba hb2 ho2 pO hb1 hoa;go_wp2_with (at_builtin;go_loud (refine lA _ rfl (.tmp 19) (.tmp 22) 41 rfl w0 kx Tryz.underlying41 _ [k] w0 hob oI rfl wa va sb rfl qH oI.size (by simp;omega) ?_));intro vb wb BD hbb;obtain⟨zb,c20,c21,c22,c23,c24⟩:=iO.o.cell wb hbb;obtain⟨Ab,cb,rfl,-,-,-,-⟩:=BD.sees.at_;have hwr:IntKind.u8.wrap ((d.length:Nat):Int)=d.length:=by rw[fA];omega
   have oL:=hbb.alloc hbb.size (.cells #[.int .u8 (d.length:Int)] 5);have x2:=(iO.o.cell _ oL).2.2.2.2.2;clear c20 c21 c22 c23 oI hob qH;go_wp2_with fail
   go_region_held3 (λw'=>w'.cell? (w,4)=some (.slice A d.length c)) (first|exact c24|exact x2|exact x3|exact x5|exact x6) (first
    |((refine sL _ rfl (.tmp 24) (.tmp 29) 41 rfl w0 kx Tryz.underlying41 _ ([k]++sb) w0 ?_ ?_ rfl (wb.heap.size+1) (.slice (some (wb,0)) 1 1) [(d.length:Int)] rfl ?_ ?_ ?_ ?_);exact(BD.alloc _).drew;exact oL.drew;exact(oH wb 5 _ [(d.length:Int)] rfl _ (cJ _) (by simp[maxLen]) _ _ _ rfl rfl rfl).drew;exact oL.size;(focus (simp;omega));intro v3 w3 ho3 hb3 _;have x3:=(iO.o.cell _ hb3).2.2.2.2.2)
    |((refine sL _ rfl (.tmp 30) (.tmp 32) 41 rfl w0 kx Tryz.underlying41 v3 ([k]++sb++[(d.length:Int)]) w0 ho3 hb3 rfl w (.slice A d.length c) d rfl ?_ ?_ ?_ ?_);exact hvd.o.below (iO.o.below.trans (hb3.mono (by omega)));exact hb3.size;(focus (simp;omega));intro v5 w5 ho5 hb5 _;have x5:=(iO.o.cell _ hb5).2.2.2.2.2)
    |((go_at_call 208;refine(hH v5 _ ?_).o.mono ?_);exact ho5.sees;rintro e w6 ⟨v6,rfl,ho6,hb6⟩;have hb6:=hb5.trans (hb6.mono hb5.size);have x6:=(iO.o.cell _ hb6).2.2.2.2.2))
   have hfin:=ho6.base (B:=w.heap.size) (by have:=hb5.size;omega);have hbf:=iO.o.below.trans (hb6.mono (by omega));clear hwr ho6;go_wp2;go_ret2;exact⟨_,rfl,hfin,hbf⟩
end
section
set_option maxRecDepth 100000
set_option maxHeartbeats 4000000
open Go.RowKit
theorem KH(x:Fin 256)(r:Fin 8):bits BinOp.and IntKind.u8 (((x.val:Nat):Int) / 2^r.val) 1=if jX ((x.val:Nat):Int) (7-r.val)then 1 else 0:=by
 revert x r
 decide+kernel
theorem KI(A:Option Addr)(n c:Nat)(z:Nat->Int)(f s:Bool)(w:World)(h:iY w w A n λk=>.int .u8 (z k))(hz:∀k,k<n->0<=z k/\z k<256)(hn:n<=maxLen):
  Calls Tryz.prog 177 #[.slice A n c,↑f,↑s] w λe w'=>
   ∃v,e=.returned v/\jJ w' w 250 v (8*min n 50) (prs (lv f z) (lv s z))/\Below w w w':=by
 unfold maxLen at hn;obtain⟨M,hM⟩:∃M,M=min n 50:=⟨_,rfl⟩;rw[<-hM];have hM1:M<=n:=by omega
 have hM2:M<=50:=by omega
 have HM:=af hM;clear hM
 go_enter Tryz.func177,Tryz.ntmps177
 go_wp2
 go_loopw [7,8] (λv i wr=>∃k:Nat,k<=M/\i=↑k/\jJ wr w 250 v (8*k) (prs (lv f z) (lv s z))/\Below w w wr) (λ_ i _=>n-(intOf i).toNat)
 case atStart=>exact⟨0,by omega,rfl,dX _ _ _ _,ah _ _⟩
 case round=>
  obtain⟨k,hk,rfl,hown,hbel⟩:=hrel;by_cases hlt:k<M
  ·obtain⟨b0,off,rfl,hbb,hcell⟩:=h (by omega)
   have f0:w.cell? (b0,off+k)=some (.int .u8 (z k)):=hcell k (by omega);have hzk:=hz k (by omega);have q2:decide (k<n)=true:=by simp;omega
   have q3:decide ((k:Int)<50)=true:=by simp;omega
   obtain⟨wo,rfl⟩:∃W:World,W=wr:=⟨_,rfl⟩;clear hcell;go_wp2
   go_loopw [7,9] (λv i wx=>∃(r m:Nat),jJ wx w 250 v m (prs (lv f z) (lv s z))/\Below w w wx/\((r<8/\i=↑r/\m+r=8*k+7)\/(r=8/\i=↑(-1:Int)/\m=8*k+8))) (λ_ i _=>((intOf i)+1).toNat)
   case atStart=>exact⟨7,8*k,hown,hbel,.inl ⟨by omega,rfl,rfl⟩⟩
   case round=>
    clear hown hbel;obtain⟨r,m,hown,hbel,hr⟩:=hrel;rcases hr with⟨hr8,rfl,hmr⟩|⟨rfl,rfl,rfl⟩
    ·have hB:=hbel.size
     have e0:=(hbel.cell hbb).trans f0;obtain⟨x,hx⟩:=bZ hzk.1;have hb:=KH ⟨x,by omega⟩ ⟨r,hr8⟩;simp only at hb;rw[<-hx]at hb;have hl:∀g:Bool,lv g z m=if g then(if jX (z k) (7-r)then 1 else -1)else 0:=λg=>by
      unfold lv;rw[show m / 8=k by omega,show m%8=7-r by omega]
     have hV:=af (show(prs (lv f z) (lv s z) (m*2)=↑(lv f z m))/\(prs (lv f z) (lv s z) (m*2+1)=↑(lv s z m))from⟨mY _ _ m,mZ _ _ m⟩);have hl1:=af (hl f);have hl2:=af (hl s);clear hl hx;have Tt:m+r<=8*k+7:=by omega
     have Tv:8*k+7<=m+r:=by omega
     clear hmr;generalize jX (z k) (7-r)=B at *
     cases B<;>cases f<;>cases s
     all_goals
      simp only[dG,bA,dB]at hb;have hh:=hV.o;simp only[hl1.o,hl2.o]at hh;simp only[dG,bA,dB]at hh;have HH:=af hh;clear hh;go_wp2_with (at_builtin;go_loud (refine KF _ rfl (.tmp 44) (.tmp 46) 202 rfl w 250 _ 16 Cq rfl Tryz.underlying202 _ m _ w (eH hown _) (hbel.alloc hB _) rfl _ _ ?_ ⟨rfl,rfl⟩ ?_ ?_ ?_ ⟨HH.o.1.symm,HH.o.2.symm⟩ ?_))
      all_goals (try (first|(simp[Act.eval];done)|(simp;omega)|(unfold maxLen;omega)|omega))
      intro v' w1 ho1 hb1;rcases gF r with h0|h0
      ·subst h0
       go_wp2;go_roundw
       case rel=>exact⟨8,m+1,ho1,hb1,.inr ⟨rfl,rfl,by omega⟩⟩
       case measure=>simp[intOf]
      ·obtain⟨r',rfl⟩:∃r',r=r'+1:=⟨r-1,by omega⟩
       go_wp2;go_roundw
       case rel=>exact⟨r',m+1,ho1,hb1,.inl ⟨by omega,by go_num,by omega⟩⟩
       case measure=>simp[intOf];omega
    ·go_wp2
     go_roundw
     case rel=>exact⟨k+1,by omega,by go_num,by rw[show 8*(k+1)=8*k+8 by omega];exact hown,hbel⟩
     case measure=>simp[intOf];omega
  ·have hkM:k=M:=by omega
   subst hkM;have hm:=HM.o;by_cases hn:k<n
   ·obtain rfl:k=50:=by omega
    have q2:decide (50<n)=true:=by simp;omega
    clear hm;go_wp2;go_ret;exact⟨_,rfl,hown,hbel⟩
   ·have q2:decide (k<n)=false:=by simp;omega
    clear hm;go_wp2;go_ret;exact⟨_,rfl,hown,hbel⟩
end
section
open Go.RowKit
def en(a b:Nat->Int):Nat->Int
 |0=>0
 |k+1=>en a b k+(a k*a k+b k*b k)
end
section
set_option maxRecDepth 100000
set_option maxHeartbeats 4000000
open Go.RowKit
theorem KJ(a b:Int)(s:Bool)(w:World):
  Calls Tryz.prog 209 #[.agg #[↑a,↑b],↑s] w λe w'=>e=.returned ↑(pt s a b)/\Below w w w':=by
 cases s
 all_goals
  go_enter Tryz.func209,Tryz.ntmps209
  go_wp2;go_ret;exact⟨by simp[pt],(ah _ _).alloc lr _⟩
theorem iP.below{w w':World}{B B' n:Nat}{e:TypeId}{v:Value}{V:Nat->Value}(h:iP w B e v n V)(hb:Below B' w w')(hB:w.heap.size<=B'):iP w' B e v n V:=
 cB (row:=none) h ⟨hb.os,hb.tape,hb.output,hb.size,λk hk _=>hb.block k (by omega)⟩ (by
  rcases h.2 with⟨rfl,_⟩|⟨g,cap,cur,rfl,_⟩
  ·exact .inl rfl
  ·exact .inr (by simp[Value.ownBlock]))
theorem KL(q:Nat->Int)(E:Bool)(k:Nat):
  (q k=0/\kC q (k+1)=kC q k/\(E&&j3 q (k+1))=false)\/(q k=1/\kC q (k+1)=false/\(E&&j3 q (k+1))=(E&&j3 q k))\/(q k=-1/\kC q (k+1)=false/\(E&&j3 q (k+1))=(E&&j3 q k))\/
  (q k≠1/\(q k==1)=false/\(q k==-1)=false/\(q k != 0)=true/\kC q (k+1)=false/\(E&&j3 q (k+1))=false):=by
 rw[BV,BW];by_cases h0:q k=0
 ·exact .inl ⟨h0,by simp[h0],by simp[h0]⟩
 by_cases h1:q k=1
 ·exact .inr (.inl ⟨h1,by simp[h1],by simp[h1]⟩)
 by_cases h2:q k=-1
 ·exact .inr (.inr (.inl ⟨h2,by simp[h2],by simp[h2]⟩))
 ·exact .inr (.inr (.inr ⟨h1,by simpa using h1,by simpa using h2,by simpa using h0,by simp[h0],by simp[h1,h2]⟩))
theorem Ct(A:Option Addr)(n c:Nat)(a b:Nat->Int)(s:Bool)(w:World)(h:iY w w A (2*n) (prs a b))(hn:n<=100000):
  Calls Tryz.prog 178 #[.slice A n c,↑s] w (Ci w (λk=>pt s (a k) (b k)) n):=by
 obtain⟨E,hE⟩:∃E:Bool,E=decide (n%8=0):=⟨_,rfl⟩;have HE:=af hE;have hE':((n:Int)%8==0)=E:=by
  rw[hE,bY];simp;omega
 clear hE;obtain⟨m,hm⟩:∃m,m=n / 8:=⟨_,rfl⟩;have HM:=af hm;have hm1:8*m<=n:=by omega
 have hm2:n<=8*m+7:=by omega
 have hmn:(n:Int) / 8=m:=by omega
 clear hm
 go_enter Tryz.func178,Tryz.ntmps178
 go_wp2_with (at_make;go_loud (refine oM _ rfl _ _ 41 rfl w w (ah _ _) lr 5 (.int .u8 0) 1 BX rfl Tryz.underlying41 _ _ _ _ m rfl rfl rfl rfl (by omega) (by unfold maxLen;omega) ?_));intro w1 ho1 hb1 hs1 _;clear hmn hE';go_wp2
 go_loopw [6,7,9] (λx y i wr=>∃k:Nat,k<=n/\i=↑k/\x=↑(!kC (λk=>pt s (a k) (b k)) k)/\y=↑(E&&j3 (λk=>pt s (a k) (b k)) k)/\iP wr w 5 (.slice (some (w,0)) m m) m (kP (λk=>pt s (a k) (b k)) k)/\Below w w wr) (λ_ _ i _=>n-(intOf i).toNat)
 case atStart=>exact⟨0,by omega,rfl,by simp[kC],by simp[j3],ho1.alike λk _=>(Cb _ k).symm,hb1⟩
 case round=>
  obtain⟨k,hk,rfl,rfl,rfl,hown,hbel⟩:=hrel;clear ho1 hb1 hs1;by_cases hlt:k<n
  ·obtain⟨b0,off,rfl,hbb,hcell⟩:=h (by omega)
   have e0:wr.cell? (b0,off+k*2)=some ↑(a k):=by rw[<-mY a b k];exact(hbel.cell hbb).trans (hcell (k*2) (by omega))
   have e1:wr.cell? (b0,off+k*2+1)=some ↑(b k):=by rw[<-mZ a b k];exact(hbel.cell hbb).trans (hcell (k*2+1) (by omega))
   have hcl:=af (KL (λk=>pt s (a k) (b k)) E k);have HP:=af (Ce (λk=>pt s (a k) (b k)) k);have HO:=af (Cg (λk=>pt s (a k) (b k)) k);have HT:=af (λj=>vY (λk=>pt s (a k) (b k)) k j);have q2:decide (k<n)=true:=by simp;omega
   have q3:(k:Int)<n:=by omega
   clear hcell;go_wp2_with fail;refine(KJ (a k) (b k) s wr).mono ?_;rintro e w2 ⟨he,hb2⟩;have ho2:=hown.below hb2 lr;have qM:=hbel.trans (hb2.mono hbel.size);clear hown hbel hb2 e0 e1;generalize hX:kC (λk=>pt s (a k) (b k)) k=X at *;generalize hY:(E&&j3 (λk=>pt s (a k) (b k)) k)=Y at *;have HX:=af hX;have HY:=af hY;clear hX hY;rcases hcl.o with⟨h0,hz,hu⟩|⟨h0,hz,hu⟩|⟨h0,hz,hu⟩|⟨h0,d1,d2,d3,hz,hu⟩
   case' inl|inr.inr.inl=>
    have HH:=af h0;have HZ:=af hz;have HU:=af hu;have h0':pt s (a k) (b k)=_:=h0;rw[h0']at he;clear h0 h0' hz hu;subst he;have ho3:=ho2.alike λj _=>(HP.o (by rw[HH.o];decide) j).symm;clear ho2 HP HO HT hcl
    cases X<;>cases Y
    all_goals
     go_wp2;go_roundw
     case rel=>exact⟨k+1,by omega,by go_num,(by rw[HZ.o];try rfl),(by rw[HU.o];try rfl),ho3,qM⟩
     case measure=>simp[intOf];omega
   case' inr.inr.inr=>
    have HZ:=af hz;have HU:=af hu;have d1':(pt s (a k) (b k)==1)=false:=d1;have d2':(pt s (a k) (b k)==-1)=false:=d2;have d3':(pt s (a k) (b k) != 0)=true:=d3;clear d1 d2 d3;have ho3:=ho2.alike λj _=>(HP.o h0 j).symm;clear ho2 HP HO HT hcl h0 hz hu;subst he;generalize pt s (a k) (b k)=v at *
    cases X<;>cases Y
    all_goals
     go_wp2;go_roundw
     case rel=>exact⟨k+1,by omega,by go_num,(by rw[HZ.o];try rfl),(by rw[HU.o];try rfl),ho3,qM⟩
     case measure=>simp[intOf];omega
   have HH:=af h0;have HZ:=af hz;have HU:=af hu;have h0':pt s (a k) (b k)=_:=h0;rw[h0']at he;clear h0 h0' hz hu hcl HP;subst he;by_cases hkm:k / 8<m
   ·have hb0:kP (λk=>pt s (a k) (b k)) k (k / 8)=.int .u8 (lN (λk=>pt s (a k) (b k)) (k / 8) (k%8):Nat):=by
     unfold kP;rw[show min 8 (k-8*(k / 8))=k%8 by omega]
    have hbyte:=ho2.cell hkm;rw[hb0]at hbyte;have hfr:=ho2.frozen (k / 8);have H2:=af (HO.o HH.o);clear hb0 HO;generalize lN (λk=>pt s (a k) (b k)) (k / 8) (k%8)=Z at *;have ho3:=ho2.j5 (k / 8) (.int .u8 (bits BinOp.or IntKind.u8 Z (128 / 2^(k%8)))) H2.o (λj _ hj=>HT.o j hj);have hb3:=qM.setCell (p:=(w.heap.size,k / 8)) lr (.int .u8 (bits BinOp.or IntKind.u8 Z (128 / 2^(k%8))));have q4:(k:Int) / 8<m:=by omega
    have q5:decide ((k:Int) / 8<m)=true:=by simp;omega
    clear ho2 qM HT
    cases X<;>cases Y
    all_goals
     go_wp2;go_roundw
     case rel=>exact⟨k+1,by omega,by go_num,(by rw[HZ.o];try rfl),(by rw[HU.o];try rfl),ho3,hb3⟩
     case measure=>simp[intOf];omega
   ·have ho3:=ho2.alike λj hj=>(HT.o j (by omega)).symm
    have q5:decide ((k:Int) / 8<m)=false:=by simp;omega
    clear ho2 HO HT
    cases X<;>cases Y
    all_goals
     go_wp2;go_roundw
     case rel=>exact⟨k+1,by omega,by go_num,(by rw[HZ.o];try rfl),(by rw[HU.o];try rfl),ho3,qM⟩
     case measure=>simp[intOf];omega
  ·obtain rfl:k=n:=by omega
   have hown2:iP wr w 5 (.slice (some (w,0)) m m) m (λj=>.int .u8 (packed (λk=>pt s (a k) (b k)) j)):=hown.alike λj hj=>Cc _ k j (by omega);clear hown;generalize hX:kC (λk=>pt s (a k) (b k)) k=X at *;generalize hY:(E&&j3 (λk=>pt s (a k) (b k)) k)=Y at *;have HX:=af hX;have HY:=af hY;clear hX hY
   cases X
   ·cases Y
    ·go_wp2
     go_ret2;refine⟨1,_,rfl,.inr (.inr ⟨HX.o,?_,rfl,rfl⟩),hbel⟩;have h1:=HY.o;rw[HE.o,Bool.and_eq_false_iff]at h1;rcases h1 with h1|h1
     ·exact .inl (by simpa using h1)
     ·exact .inr h1
    ·have h1:=HY.o
     rw[bg,HE.o]at h1;obtain⟨h8,h9⟩:=h1;have H8:=af (show k%8=0 by simpa using h8);have H9:=af h9;have KM:=af (show iP wr w 5 (.slice (some (w,0)) m m) (k / 8) (λj=>.int .u8 (packed (λk=>pt s (a k) (b k)) j)) by rw[<-HM.o];exact hown2);clear h8 h9 hown2;go_wp2;go_ret2;exact⟨2,_,rfl,.inr (.inl ⟨HX.o,H8.o,H9.o,rfl,KM.o⟩),hbel⟩
   ·go_wp2
    go_ret2;exact⟨0,_,rfl,.inl ⟨HX.o,rfl,rfl⟩,hbel⟩
theorem KN(A:Option Addr)(n c:Nat)(a b:Nat->Int)(w:World)(h:iY w w A (2*n) (prs a b))(hn:n<=100000):
  Calls Tryz.prog 120 #[.slice A n c] w (Ck w a b n):=by
 have T1:=Ct A n c a b false w h hn
 go_enter Tryz.func120,Tryz.ntmps120
 go_wp2_with fail;refine T1.mono ?_;rintro e w1 ⟨K,v,rfl,ht,hb1⟩;have T2:=Ct A n c a b true w1 ((h.below hb1).more hb1.size) hn;go_wp2_with fail;refine T2.mono ?_;rintro e w2 ⟨L,u,rfl,ht2,hb2⟩;go_wp2;refine aK (v:=.tuple #[↑K,v,↑L,u]) (by simp[results,Tryz.results120,go_sem]) rfl ?_;refine⟨K,v,L,u,rfl,?_,?_,hb1.trans (hb2.mono hb1.size)⟩
 ·simpa[pt]using ht.below hb2 lr
 ·simpa[pt]using ht2.base hb1.size
theorem MO(k n a:Int)(A:Option Addr)(d c:Nat)(w:World):
  Calls Tryz.prog 112 #[.agg #[↑k,↑n,↑a,.slice A d c]] w λe w'=>e=.returned ↑(ni k n a d)/\Below w w w':=by
 have hb0:=(ah w w).alloc lr (.cells #[↑k,↑n,↑a,.slice A d c] 56);have hX:=aJ w _ rfl #[↑k,↑n,↑a,.slice A d c] 56;have x0:=hX.cell 0 (x:=↑k) rfl;have x1:=hX.cell 1 (x:=↑n) rfl;have x2:=hX.cell 2 (x:=↑a) rfl;have x3:=hX.cell 3 (x:=.slice A d c) rfl;have K:=af (nu k n a d);clear hX;generalize ni k n a d=q at *;by_cases h4:k=4
 ·subst h4
  go_enter Tryz.func112,Tryz.ntmps112
  go_wp2
  all_goals
   go_ret;refine⟨?_,hb0⟩;have K:=K.o
   cases q<;>simp at K ⊢<;>omega
 ·by_cases h7:k=7
  ·subst h7
   go_enter Tryz.func112,Tryz.ntmps112
   go_wp2
   all_goals
    go_ret;refine⟨?_,hb0⟩;have K:=K.o
    cases q<;>simp at K ⊢<;>omega
  ·have q4:(k==4)=false:=by rw[aB];exact h4
   have q7:(k==7)=false:=by rw[aB];exact h7
   go_enter Tryz.func112,Tryz.ntmps112
   go_wp2
   all_goals
    go_ret;refine⟨?_,hb0⟩;have K:=K.o
    cases q<;>simp at K ⊢<;>omega
theorem MP(l:List Ft)(h:kE l l.length=false):jc l=false:=by
 unfold kE at h;rw[dz]at h;unfold jc;rw[h,eG]
theorem MR(l:List Ft)(h:kE l l.length=true):jc l=decide (l.length<=4):=by
 unfold kE at h;rw[dz]at h;unfold jc;rw[h,Bool.and_true]
theorem zY(v:Value)(l:List Ft)(B:Nat)(w:World)(hs:ju w B v l)(hB:B<=w.heap.size):
  Calls Tryz.prog 73 #[v] w λe w'=>e=.returned ↑(jc l)/\Below w w w':=by
 obtain⟨A,c,rfl,hlen,hc,hs⟩:=hs.at_;unfold maxLen at hc;have h0:Hid (kE l 0=true):=af (by simp[kE]);have hS:=λk h=>af (Dl l k h);have hM:=λk h=>af (Dm l k h);have hF:=af (aL (MP l) (MR l));generalize jc l=r at *
 go_enter Tryz.func73,Tryz.ntmps73
 go_wp2
 go_loopw [3] (λi wr=>∃k:Nat,k<=l.length/\i=↑k/\Hid (kE l k=true)/\Below w w wr) (λi _=>l.length-(intOf i).toNat)
 case atStart=>exact⟨0,by omega,rfl,h0,ah _ _⟩
 case round=>
  obtain⟨k,hk,rfl,hn,hb⟩:=hrel;by_cases hlt:k<l.length
  ·obtain⟨b,off,rfl,hbb,hd⟩:=hs (by omega)
   obtain⟨c0,c1,c2,u,c3,hu⟩:=hd k hlt;have c0:=(hb.cell (p:=(b,off+k*4)) (by show b<_;omega)).trans c0;have c1:=(hb.cell (p:=(b,off+k*4+1)) (by show b<_;omega)).trans c1;have c2:=(hb.cell (p:=(b,off+k*4+2)) (by show b<_;omega)).trans c2;have c3:=(hb.cell (p:=(b,off+k*4+3)) (by show b<_;omega)).trans c3;obtain⟨A',cc,rfl,-⟩:=hu.at_;have q1:decide ((k:Int)<(l.length:Nat))=true:=by simp;omega
   have hS:=hS k hlt;have hM:=hM (k+1) (by omega);unfold Ft.may at hS;generalize l.getD k default=f at *;have hcall:=af (MO f.k f.n f.a A' f.d.length cc wr);clear hd hu
   cases hdn:ni f.k f.n f.a f.d.length
   all_goals
    rw[hdn]at hcall hS;go_wp2_with fail;refine hcall.o.mono ?_;rintro e w1 ⟨rfl,hb1⟩;have hb2:=hb.trans (hb1.mono hb.size);clear hcall;go_wp2
   ·go_ret
    exact⟨by rw[hF.o.1 (hM.o (by rw[hS.o];simp))];rfl,hb2⟩
   ·go_roundw
    case rel=>exact⟨k+1,by omega,by go_num,af (by rw[hS.o,hn.o];rfl),hb2⟩
    case measure=>simp[intOf];omega
  ·obtain rfl:k=l.length:=by omega
   have q1:decide ((l.length:Int)<(l.length:Nat))=false:=by simp
   go_wp2;go_ret;refine⟨?_,hb⟩;rw[hF.o.2 hn.o,decide_eq_decide.2 (by omega:l.length<=4↔((l.length:Nat):Int)<=4)]
   rfl
end
end Go.Proofs.YteadkhigkmijiaaGreat
