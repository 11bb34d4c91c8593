/- Texts LineE, LineF, LineG, Copy, LineH, GdA, FrO, ClMath2, StR in one. -/
import Derived.StillTailTactics
import Derived.RegionTactic
import Derived.Laws.BytesString
import Derived.Laws.Cells
import Derived.Laws.CopyOwn
import Derived.ProofKit
import Derived.OpenShut
import Derived.Lib.SmallJoins
import Derived.BigRegion
import Derived.Deep.RegionWith
import Derived.Test.YteadkhigkmijiaaGreatPD1
import Derived.Test.YteadkhigkmijiaaGreatPD2
import Derived.Test.YteadkhigkmijiaaGreatPD4
import Derived.Test.YteadkhigkmijiaaGreatPD5
import Derived.Test.YteadkhigkmijiaaGreatPD13
set_option linter.all false
namespace Go.Proofs.YteadkhigkmijiaaGreat
section
set_option maxRecDepth 100000
set_option maxHeartbeats 400000
open Go.RowKit
theorem BX:(Tryz.prog.info? 5).map (λi=>(i.zero,i.size,i.bytes))=some (some (.int .u8 0),1,1):=by kernel_rfl
theorem BZ(q:Nat->Int)(j i:Nat):lN q j i<256:=by
 unfold lN
 induction i with
 |zero=>simp
 |succ i ih=>
  rw[cZ,fO];refine Nat.or_lt_two_pow (n:=8) ih ?_;show(if q (8*j+i)=1 then 128 / 2^i else 0)<256
  split
  ·exact gG (gZ _ _) (by decide)
  ·decide
theorem Ca(q:Nat->Int)(j i:Nat):lN q j (i+1)=lN q j i ||| (if q (8*j+i)=1 then 128 / 2^i else 0):=by
 unfold lN;rw[cZ,fO]
 rfl
def kP(q:Nat->Int)(k:Nat)(j:Nat):Value:=.int .u8 (lN q j (min 8 (k-8*j)):Nat)
theorem Cb(q:Nat->Int)(j:Nat):kP q 0 j=.int .u8 0:=by simp[kP,lN]
theorem Cc(q:Nat->Int)(n j:Nat)(hj:8*j+8<=n):kP q n j=.int .u8 (packed q j):=by
 unfold kP packed;rw[show min 8 (n-8*j)=8 by omega]
theorem vY(q:Nat->Int)(k j:Nat)(hj:j≠k / 8):kP q (k+1) j=kP q k j:=by
 unfold kP;rw[show min 8 (k+1-8*j)=min 8 (k-8*j) by omega]
theorem Ce(q:Nat->Int)(k:Nat)(hq:q k≠1)(j:Nat):kP q (k+1) j=kP q k j:=by
 by_cases hj:j=k / 8
 ·subst hj
  unfold kP;rw[show min 8 (k+1-8*(k / 8))=k%8+1 by omega,show min 8 (k-8*(k / 8))=k%8 by omega,Ca,show 8*(k / 8)+k%8=k by omega,ai hq,Nat.or_zero]
 ·exact vY q k j hj
theorem Cg(q:Nat->Int)(k:Nat)(hq:q k=1):kP q (k+1) (k / 8)=.int .u8 (bits BinOp.or IntKind.u8 (lN q (k / 8) (k%8):Nat) (128 / 2^(k%8))):=by
 unfold kP;rw[show min 8 (k+1-8*(k / 8))=k%8+1 by omega,Ca,show 8*(k / 8)+k%8=k by omega,au hq];have h:=BZ q (k / 8) (k%8);have h2:128 / 2^(k%8)<256:=gG (gZ _ _) (by decide);have:=u8_or_nat _ _ h h2;rw[<-this];simp
theorem Km(A:Option Addr)(n c:Nat)(a b:Nat->Int)(s:Bool)(w:World)(h:iY w w A n λk=>cx (a k) (b k))(hq:∀k,k<n->(pt s (a k) (b k)).natAbs<2^53)(h8:n%8=0)(_hn:n<=c)(_hc:c<=maxLen)(hr:n<=140737488355328):
  Calls Tryz.prog 220 #[.slice A n c,↑s] w λe w'=>
   ∃v,e=.returned v/\iP w' w 5 v (n / 8) (λj=>.int .u8 (packed (λk=>pt s (a k) (b k)) j))/\Below w w w':=by
 obtain⟨m,hm1,hm2⟩:∃m,8*m<=n/\n<=8*m:=⟨n / 8,by omega,by omega⟩;have H8:=af h8;clear h8;have hmn:(n:Int) / 8=m:=by omega
 go_enter Tryz.func220,Tryz.ntmps220
 go_wp2_with (at_make;go_loud (refine oM _ rfl _ _ 41 rfl w w (ah _ _) lr 5 (.int .u8 0) 1 BX rfl Tryz.underlying41 _ _ _ _ m rfl rfl rfl rfl (by omega) (by unfold maxLen;omega) ?_));intro w1 ho1 hb1 hs1 _;clear hmn;go_wp2
 go_loopw [14] (λi wr=>∃k:Nat,k<=n/\i=↑k/\iP wr w 5 (.slice (some (w,0)) m m) m (kP (λk=>pt s (a k) (b k)) k)/\Below w w wr) (λi _=>n-(intOf i).toNat)
 case atStart=>exact⟨0,by omega,rfl,ho1.alike λk _=>(Cb _ k).symm,hb1⟩
 case round=>
  obtain⟨k,hk,rfl,hown,hbel⟩:=hrel;clear ho1 hb1;by_cases hlt:k<n
  ·obtain⟨b0,off,rfl,hbb,hcell⟩:=h (by omega)
   have hx:wr.cell? (b0,off+k)=some (cx (a k) (b k)):=(hbel.cell hbb).trans (hcell k (by omega));have hqk:=hq k hlt;have hbyte:=hown.cell (k:=k / 8) (by omega);have hfr:=hown.frozen (k / 8);have hst:=BU (pt s (a k) (b k)) hqk;clear hcell;by_cases h1:pt s (a k) (b k)=1
   ·have H1:=af h1
    rw[av h1]at hst;clear h1;have hb0:kP (λk=>pt s (a k) (b k)) k (k / 8)=.int .u8 (lN (λk=>pt s (a k) (b k)) (k / 8) (k%8):Nat):=by
     unfold kP;rw[show min 8 (k-8*(k / 8))=k%8 by omega]
    rw[hb0]at hbyte;have H2:=af (Cg (λk=>pt s (a k) (b k)) k H1.o);clear hb0;generalize lN (λk=>pt s (a k) (b k)) (k / 8) (k%8)=X at *;have hk8:k / 8<m:=by omega
    have hk9:(k:Int) / 8<m:=by omega
    go_wp2_with (go_at_call 219;refine(vV (a k) (b k) s _).mono ?_;rintro e w' ⟨rfl,rfl⟩)
    go_region
    have ho2:=hown.j5 (k / 8) (.int .u8 (bits BinOp.or IntKind.u8 X (128 / 2^(k%8)))) H2.o (λj _ hj=>vY _ k j hj);have hb2:=(hbel.setCell (p:=(w.heap.size,k / 8)) lr (.int .u8 (bits BinOp.or IntKind.u8 X (128 / 2^(k%8))))).drew;go_wp2;go_roundw
    case rel=>exact⟨k+1,by omega,by go_num,ho2,hb2⟩
    case measure=>simp[intOf];omega
   ·have H1:=af h1
    rw[aj h1]at hst;clear h1;go_wp2_with (go_at_call 219;refine(vV (a k) (b k) s _).mono ?_;rintro e w' ⟨rfl,rfl⟩);go_roundw
    case rel=>exact⟨k+1,by omega,by go_num,hown.alike λj _=>(Ce _ k H1.o j).symm,hbel⟩
    case measure=>simp[intOf];omega
  ·go_wp2
   go_ret;have h8:=H8.o;have e:k=n:=by omega
   exact⟨_,rfl,by rw[show n / 8=m by omega];exact hown.alike λj hj=>by rw[e];exact Cc _ n j (by omega),hbel⟩
end
section
set_option maxRecDepth 100000
set_option maxHeartbeats 1000000
open Go.RowKit
def Told(w':World)(B:Nat)(q:Nat->Int)(n:Nat)(K:Int)(v:Value):Prop:=
 (kC q n=true/\K=0/\v=.slice none 0 0)\/(kC q n=false/\n%8=0/\j3 q n=true/\K=2/\iP w' B 5 v (n / 8) (λj=>.int .u8 (packed q j)))\/
 (kC q n=false/\(n%8≠0\/j3 q n=false)/\K=1/\v=.slice none 0 0)
def Ci(w:World)(q:Nat->Int)(n:Nat)(e:Ending)(w':World):Prop:=∃K v,e=.returned (.tuple #[.int .i64 K,v])/\Told w' w q n K v/\Below w w w'
theorem Cj(A:Option Addr)(n c:Nat)(a b:Nat->Int)(s:Bool)(w:World)(h:iY w w A n λk=>cx (a k) (b k))(hq:∀k,k<n->(pt s (a k) (b k)).natAbs<2^53)(hn:n<=c)(hc:c<=maxLen)(hr:n<=140737488355328):
  Calls Tryz.prog 197 #[.slice A n c,↑s] w (Ci w (λk=>pt s (a k) (b k)) n):=by
 have hc':=hc;unfold maxLen at hc';obtain⟨E,hE⟩:∃E:Bool,E=decide (n%8=0):=⟨_,rfl⟩;have HE:=af hE;have hE':((n:Int)%8==0)=E:=by
  rw[hE,bY];simp;omega
 clear hE
 go_enter Tryz.func197,Tryz.ntmps197
 go_wp2;clear hE'
 go_loop [6,7,17] (λx y i=>∃k:Nat,k<=n/\i=↑k/\x=↑(kC (λk=>pt s (a k) (b k)) k)/\y=↑(E&&j3 (λk=>pt s (a k) (b k)) k)) (λ_ _ i=>n-(intOf i).toNat)
 case atStart=>exact⟨0,by omega,rfl,rfl,by simp[j3]⟩
 case round=>
  obtain⟨k,hk,rfl,rfl,rfl⟩:=hrel;by_cases hlt:k<n
  ·obtain⟨b0,off,rfl,hbb,hcell⟩:=h (by omega)
   have hx:w.cell? (b0,off+k)=some (cx (a k) (b k)):=hcell k (by omega);have hqk:=hq k hlt;have h0:=Kk (pt s (a k) (b k)) hqk;have h1:=BU (pt s (a k) (b k)) hqk;have h2:=Kl (pt s (a k) (b k)) hqk;have HZ:=af (BV (λk=>pt s (a k) (b k)) k);have HU:=af (BW (λk=>pt s (a k) (b k)) k);clear hcell;have H0:=af (show(pt s (a k) (b k)==0)=decide (pt s (a k) (b k)=0) by rw[bY];simp);have H1:=af (show(pt s (a k) (b k)==1)=decide (pt s (a k) (b k)=1) by rw[bY];simp);have H2:=af (show(pt s (a k) (b k)==-1)=decide (pt s (a k) (b k)=-1) by rw[bY];simp);generalize decide (pt s (a k) (b k)=0)=d0 at *;generalize decide (pt s (a k) (b k)=1)=d1 at *;generalize decide (pt s (a k) (b k)=-1)=d2 at *;generalize kC (λk=>pt s (a k) (b k)) k=x at *;have HY:=af (Bool.and_assoc E (j3 (λk=>pt s (a k) (b k)) k) (d1||d2));generalize(E&&j3 (λk=>pt s (a k) (b k)) k)=y at *
   cases x<;>cases y<;>cases d0<;>cases d1<;>cases d2
   all_goals
    go_wp2_with (go_at_call 219;refine(vV (a k) (b k) s _).mono ?_;rintro e w' ⟨rfl,rfl⟩)
    go_round
    case rel=>exact⟨k+1,by omega,by go_num,by rw[HZ.o,H0.o];rfl,by rw[HU.o,H1.o,H2.o,<-HY.o];rfl⟩
    case measure=>simp[intOf];omega
  ·obtain rfl:k=n:=by omega
   have hE:=HE.o
   cases hz:kC (λk=>pt s (a k) (b k)) k
   ·cases hu:(E&&j3 (λk=>pt s (a k) (b k)) k)
    ·have HU:=af hu
     have HZ:=af hz;clear hz hu hE;go_wp2;go_ret2;refine⟨1,_,rfl,.inr (.inr ⟨HZ.o,?_,rfl,rfl⟩),ah _ _⟩;have h1:=HU.o;rw[HE.o,Bool.and_eq_false_iff]at h1;rcases h1 with h1|h1
     ·exact .inl (by simpa using h1)
     ·exact .inr h1
    ·have HU:=af hu
     have HZ:=af hz;clear hz hu hE;have h1:=HU.o;rw[HE.o,bg]at h1;obtain⟨h8,h9⟩:=h1;have h8':k%8=0:=by simpa using h8
     have H9:=af h9;have H8:=af h8';clear h8 h9 h8';go_wp2_with (go_at_call 220;refine(Km A k c a b s w h hq H8.o hn hc hr).mono ?_;rintro e w' ⟨v,rfl,hov,hbv⟩);go_ret2;exact⟨2,v,rfl,.inr (.inl ⟨HZ.o,H8.o,H9.o,rfl,hov⟩),hbv⟩
   ·have HZ:=af hz
    clear hz hE;go_wp2;go_ret2;exact⟨0,_,rfl,.inl ⟨HZ.o,rfl,rfl⟩,ah _ _⟩
def Ck(w:World)(a b:Nat->Int)(n:Nat)(e:Ending)(w':World):Prop:=
 ∃K v L u,e=.returned (.tuple #[.int .i64 K,v,.int .i64 L,u])/\Told w' w a n K v/\Told w' w b n L u/\Below w w w'
theorem Told.below{w w':World}{B B':Nat}{q:Nat->Int}{n:Nat}{K:Int}{v:Value}(h:Told w B q n K v)(hb:Below B' w w')(hB:w.heap.size<=B'):Told w' B q n K v:=by
 rcases h with h|⟨h1,h2,h3,h4,h5⟩|h
 ·exact .inl h
 ·exact .inr (.inl ⟨h1,h2,h3,h4,cB (row:=none) h5 ⟨hb.os,hb.tape,hb.output,hb.size,λk hk _=>hb.block k (by omega)⟩ (by
   rcases h5.2 with⟨rfl,_⟩|⟨g,cap,cur,rfl,_⟩
   ·exact .inl rfl
   ·exact .inr (by simp[Value.ownBlock]))⟩)
 ·exact .inr (.inr h)
theorem Told.base{w:World}{B B':Nat}{q:Nat->Int}{n:Nat}{K:Int}{v:Value}(h:Told w B q n K v)(hB:B'<=B):Told w B' q n K v:=by
 rcases h with h|⟨h1,h2,h3,h4,h5⟩|h
 ·exact .inl h
 ·refine .inr (.inl ⟨h1,h2,h3,h4,h5.1,?_⟩)
  rcases h5.2 with h6|⟨g,cap,cur,h6,h7,h8⟩
  ·exact .inl h6
  ·exact .inr ⟨g,cap,cur,h6,by omega,h8⟩
 ·exact .inr (.inr h)
theorem Kn(A:Option Addr)(n c:Nat)(a b:Nat->Int)(w:World)(h:iY w w A n λk=>cx (a k) (b k))(ha:∀k,k<n->(a k).natAbs<2^53)(hb:∀k,k<n->(b k).natAbs<2^53)(hn:n<=c)(hc:c<=maxLen)(hr:n<=140737488355328):
  Calls Tryz.prog 155 #[.slice A n c] w (Ck w a b n):=by
 have T1:=Cj A n c a b false w h (λk hk=>by simpa[pt]using ha k hk) hn hc hr
 go_enter Tryz.func155,Tryz.ntmps155
 go_wp2_with fail;refine T1.mono ?_;rintro e w1 ⟨K,v,rfl,ht,hb1⟩;have T2:=Cj A n c a b true w1 ((h.below hb1).more hb1.size) (λk hk=>by simpa[pt]using hb k hk) hn hc hr;go_wp2_with fail;refine T2.mono ?_;rintro e w2 ⟨L,u,rfl,ht2,hb2⟩;go_wp2;refine aK (v:=.tuple #[↑K,v,↑L,u]) (by simp[results,Tryz.results155,go_sem]) rfl ?_;refine⟨K,v,L,u,rfl,?_,?_,hb1.trans (hb2.mono hb1.size)⟩
 ·simpa[pt]using ht.below hb2 lr
 ·simpa[pt]using ht2.base hb1.size
end
section
set_option maxRecDepth 100000
open Go.RowKit
def lv(f:Bool)(z:Nat->Int)(k:Nat):Int:=if f then(if jX (z (k / 8)) (k%8)then 1 else -1)else 0
theorem Ko(f s:Bool)(z:Nat->Int)(k:Nat):drv f s z k=cx (lv f z k) (lv s z k):=by
 have h1:part f (lvl (jX (z (k / 8)) (k%8)))=floatOfInt .f64 (lv f z k):=by
  unfold part lvl lv
  cases f
  ·exact nK.symm
  ·cases jX (z (k / 8)) (k%8)
   ·exact vX.symm
   ·exact vW.symm
 have h2:part s (lvl (jX (z (k / 8)) (k%8)))=floatOfInt .f64 (lv s z k):=by
  unfold part lvl lv
  cases s
  ·exact nK.symm
  ·cases jX (z (k / 8)) (k%8)
   ·exact vX.symm
   ·exact vW.symm
 unfold drv cx;rw[h1,h2]
theorem Kr(A:Option Addr)(n c:Nat)(z:Nat->Int)(f s:Bool)(w:World)(h:iY w w.heap.size A n λk=>.int .u8 (z k))(hz:∀k,k<n->0<=z k/\z k<256)(hn:n<=c)(hc:c<=maxLen):
  Calls Tryz.prog 193 #[.slice A n c,.bool f,.bool s] w λe w'=>
   ∃v,e=.returned v/\iP w' w.heap.size 234 v (8*min n 50) (λk=>cx (lv f z k) (lv s z k))/\Below w.heap.size w w':=by
 refine(Ki A n c z f s w h hz hn hc).mono ?_;rintro e w' ⟨v,rfl,ho,hb⟩;exact⟨v,rfl,ho.alike λk _=>Ko f s z k,hb⟩
theorem vZ(z:Nat->Int)(k:Nat):lv true z k=1\/lv true z k=-1:=by
 unfold lv;simp only[dG]
 split
 ·exact .inl rfl
 ·exact .inr rfl
end
section
open Go.RowKit
theorem Hv(n:Nat)(V:Nat->Value)(j:Nat)(v:Value)(h:((List.range n).map V)[j]?=some v):j<n/\v=V j:=by
 rw[dF]at h;by_cases hj:j<n
 ·rw[bW hj]at h
  exact⟨hj,by simpa using h.symm⟩
 ·rw[aY (by simpa using hj)]at h
  cases h
theorem uY{P:Program}(w:World){ops:Array Oper}{rest:List Oper}{o:Oper}{a:Act}{Q:Exit->Act->World->Prop}(hgd:o.guard=none)(d s:Operand)(dT sT:TypeId)
  (ho:o.op=.call {callee:=.builtin .copy,args:=#[d,s],argTypes:=#[dT,sT]}) (e:TypeId) (z:Value) (bytes:Nat) (ht:P.underlying dT=some (.slice e)) (jM:(P.info? e).map (λi=>(i.zero,i.size,i.bytes))=some (some z,1,bytes))
  (B:Nat) (W:World) (hbel:Below B W w) (g n:Nat) (U:Nat->Value) (hown:iP w B e (.slice (some ⟨g,0,none⟩) n n) n U) (hd:a.eval d=.slice (some ⟨g,0,none⟩) n n)
  (Bs:Nat) (A:Option Addr) (c:Nat) (V:Nat->Value) (hs:a.eval s=.slice A n c) (kI:iY w Bs A n V) (hV:∀k,k<n->(V k).oneCell'=true)
  (h:∀w',iP w' B e (.slice (some ⟨g,0,none⟩) n n) n V->Below B W w'->wpList P ops Q rest (a.put o.dst (goInt n)) w'):wpList P ops Q (o::rest) a w:=by
 obtain⟨i0,hi,hz0,hz1,hz2⟩:=fV jM;have hBg:=(dL hown g rfl).1;obtain⟨hl,hh⟩:=hown;rcases hh with⟨h',_⟩|⟨g',cap,cur,h',hb,hg,hn,hc,hsz,htk⟩
 ·simp at h'
 simp only[fq,bB,Addr.mk.injEq,gu,true_and]at h';obtain⟨rfl,rfl⟩:=h';have hcur:cur.toList=(List.range n).map U:=by
  rw[<-htk,gE (by simp;omega)]
 refine wpList_copy_splice hgd d s dT sT ho e ht (by rw[hi];simp[hz1]) (some ⟨g,0,none⟩) A n n n c hd hs g 0 cur.toList e (by simpa using hg) ((List.range n).map V) (by simp) ?_ (by simp;omega) ?_ B W hbel hBg ?_
 ·intro h0
  obtain⟨b,off,rfl,_,hcell⟩:=kI (by simpa using h0);refine⟨rfl,_,rfl,λj v hj=>?_⟩;obtain⟨hjn,rfl⟩:=Hv n V j v hj;have:=hcell j hjn;by_cases h1:j=0
  ·subst h1;simpa[Addr.add]using this
  ·simpa[Addr.add,h1]using this
 ·intro v hv
  obtain⟨k,hk,rfl⟩:=fC.1 hv;exact hV k (cA.1 hk)
 ·intro w' hg' hb'
  have hl':((List.range n).map V).length=n:=by simp
  rw[hl'];refine h w' ⟨by simp,.inr ⟨g,n,_,rfl,hBg,hg'.o,aR _,hc,?_,?_⟩⟩ hb'
  ·simp[splice,hcur]
  ·simp[splice,hcur]
end
section
set_option maxRecDepth 100000
set_option maxHeartbeats 1000000
open Go.RowKit
def pf(f:Bool)(a:Int):Int:=if f then a else 0
theorem Kt(a b:Int)(f s:Bool)(w:World):
  Calls Tryz.prog 217 #[cx a b,↑f,↑s] w λe w'=>e=.returned (.complex .f64 (floatOfInt .f64 (pf f a)) (floatOfInt .f64 (pf s b)))/\w=w':=by
 have h:=BR (floatOfInt .f64 a) (floatOfInt .f64 b) f s w;have e1:∀(f:Bool)(a:Int),part f (floatOfInt .f64 a)=floatOfInt .f64 (pf f a):=λf a=>by
  cases f
  ·simp only[part,pf,bA,dB]
   exact nK.symm
  ·simp only[part,pf,dG]
 rw[e1,e1]at h;exact h
theorem Cm(P:Program)(w:World)(ad:Addr)(m:Mode)(k:FloatKind)(a b:Nat):(store ad (.complex k a b) m).run P w=stored P w ad (.complex k a b) m:=run_store P w ad _ m rfl
attribute [local go_sem] Cm
theorem Ku(A:Option Addr)(n c:Nat)(a b:Nat->Int)(f s:Bool)(w:World)(h:iY w w A n λk=>cx (a k) (b k))(hr:n<=8796093022208):
  Calls Tryz.prog 196 #[.slice A n c,↑f,↑s] w λe w'=>
   ∃v,e=.returned v/\iP w' w 234 v n (λk=>cx (pf f (a k)) (pf s (b k)))/\Below w w w':=by
 go_enter Tryz.func196,Tryz.ntmps196
 go_wp2_with (at_make;go_loud (refine oM _ rfl _ _ 184 rfl w w (ah _ _) lr 234 (.complex .f64 0 0) 16 mh rfl Tryz.underlying184 _ _ _ _ n rfl rfl rfl rfl (by omega) (by unfold maxLen;omega) ?_));intro w1 ho1 hb1 hs1 _;go_wp2
 go_loopw [15] (λi wr=>∃k:Nat,k<=n/\i=↑k/\iP wr w 234 (.slice (some (w,0)) n n) n (λj=>if j<k then cx (pf f (a j)) (pf s (b j))else .complex .f64 0 0)/\Below w w wr) (λi _=>n-(intOf i).toNat)
 case atStart=>exact⟨0,by omega,rfl,ho1.alike λk _=>by simp,hb1⟩
 case round=>
  obtain⟨k,hk,rfl,hown,hbel⟩:=hrel;clear ho1 hb1;by_cases hlt:k<n
  ·obtain⟨b0,off,rfl,hbb,hcell⟩:=h (by omega)
   have hx:wr.cell? (b0,off+k)=some (.complex .f64 (floatOfInt .f64 (a k)) (floatOfInt .f64 (b k))):=(hbel.cell hbb).trans (hcell k (by omega));have hold:=hown.cell hlt;have hfr:=hown.frozen k;rw[ai (fD k)]at hold;have ho2:=hown.j5 (V':=λj=>if j<k+1 then cx (pf f (a j)) (pf s (b j))else .complex .f64 0 0) k (cx (pf f (a k)) (pf s (b k))) (by simp) (λj _ hj=>by
    by_cases h1:j<k
    ·rw[au h1,au (by omega)]
    ·rw[ai h1,ai (by omega)])
   have hb2:=hbel.setCell (p:=(w.heap.size,k)) lr (cx (pf f (a k)) (pf s (b k)));clear hcell;go_wp2_with (go_at_call 217;refine(Kt (a k) (b k) f s _).mono ?_;rintro e w' ⟨rfl,rfl⟩);go_roundw
   case rel=>exact⟨k+1,by omega,by go_num,ho2,hb2⟩
   case measure=>simp[intOf];omega
  ·go_wp2
   go_ret;exact⟨_,rfl,hown.alike λj hj=>by rw[au (by omega)],hbel⟩
theorem Kv(w:World)(a b:Int)(ha:a.natAbs<2^52)(hb:b.natAbs<2^52):
  (binOp .sub 234 (.complex .f64 0 0) (.complex .f64 (floatOfInt .f64 a) (floatOfInt .f64 b))).run Tryz.prog w=.ok (.complex .f64 (floatOfInt .f64 (-a)) (floatOfInt .f64 (-b))) w:=by
 refine run_complex_sum w .sub (.inr rfl) _ _ _ _ _ _ _ _ ?_;unfold cSumBits;rw[AW a ha,AW b hb]
 rfl
theorem Ky(w:World)(a b c d:Int)(ha:a.natAbs<2^52)(hb:b.natAbs<2^52)(hc:c.natAbs<2^52)(hd:d.natAbs<2^52):
  (binOp .add 234 (.complex .f64 (floatOfInt .f64 a) (floatOfInt .f64 b)) (.complex .f64 (floatOfInt .f64 c) (floatOfInt .f64 d))).run Tryz.prog w=.ok (.complex .f64 (floatOfInt .f64 (a+c)) (floatOfInt .f64 (b+d))) w:=by
 refine run_complex_sum w .add (.inl rfl) _ _ _ _ _ _ _ _ ?_;unfold cSumBits;rw[AU a c ha hc,AU b d hb hd]
 rfl
def turned(t:Int)(a:Nat->Int)(k:Nat):Int:=if(k:Int)=t then -a k else a k
theorem Kz(A:Option Addr)(n c:Nat)(a b:Nat->Int)(t:Int)(w:World)(h:iY w w A n λk=>cx (a k) (b k))(ha:∀k,k<n->(a k).natAbs<2^52)(hb:∀k,k<n->(b k).natAbs<2^52)(ht:-9223372036854775808<=t/\t<=9223372036854775807)(hr:n<=8796093022208):
  Calls Tryz.prog 218 #[.slice A n c,↑t] w λe w'=>
   ∃v,e=.returned v/\iP w' w 234 v n (λk=>cx (turned t a k) (turned t b k))/\Below w w w':=by
 by_cases h0:0<=t/\t<n
 ·obtain⟨T,rfl⟩:=bZ h0.1
  have hT:T<n:=by omega
  have hd0:decide ((0:Int)<=(T:Int))=true:=by simp
  have hd1:decide (T<n)=true:=by simp;omega
  clear h0
  go_enter Tryz.func218,Tryz.ntmps218
  go_wp2_with (at_make;go_loud (refine oM _ rfl _ _ 184 rfl w w (ah _ _) lr 234 (.complex .f64 0 0) 16 mh rfl Tryz.underlying184 _ _ _ _ n rfl rfl rfl rfl (by omega) (by unfold maxLen;omega) ?_));intro w1 ho1 hb1 hs1 _;go_wp2_with (with_reducible refine uY _ rfl (.tmp 9) (.tmp 10) 184 184 rfl 234 (.complex .f64 0 0) 16 Tryz.underlying184 mh w w hb1 w n _ ho1 rfl w A c _ rfl (h.below hb1) (λ_ _=>rfl) ?_);intro w2 ho2 hb2;have hx:w2.cell? (w,T)=some (.complex .f64 (floatOfInt .f64 (a T)) (floatOfInt .f64 (b T))):=ho2.cell hT;have hfr:=ho2.frozen T;have hsub:=Kv w2 (a T) (b T) (ha T hT) (hb T hT);have ho3:=ho2.j5 (V':=λk=>cx (turned (T:Int) a k) (turned (T:Int) b k)) T (.complex .f64 (floatOfInt .f64 (-a T)) (floatOfInt .f64 (-b T))) (by simp[turned,cx]) (λj _ hj=>by
   have:¬(j:Int)=(T:Int):=by omega
   simp[turned,this])
  have hb3:=hb2.setCell (p:=(w.heap.size,T)) lr (.complex .f64 (floatOfInt .f64 (-a T)) (floatOfInt .f64 (-b T)));clear ho1 ho2 hb1 hb2;go_wp2;go_ret;exact⟨_,rfl,ho3,hb3⟩
 ·have hno:∀k,k<n->¬(k:Int)=t:=λk hk e=>h0 ⟨by omega,by omega⟩
  by_cases h1:0<=t
  ·have h2:¬t<n:=λe=>h0 ⟨h1,e⟩
   have hd0:decide (0<=t)=true:=by simp;omega
   have hd1:decide (t<(n:Int))=false:=by simp;omega
   clear h0
   go_enter Tryz.func218,Tryz.ntmps218
   go_wp2_with (at_make;go_loud (refine oM _ rfl _ _ 184 rfl w w (ah _ _) lr 234 (.complex .f64 0 0) 16 mh rfl Tryz.underlying184 _ _ _ _ n rfl rfl rfl rfl (by omega) (by unfold maxLen;omega) ?_));intro w1 ho1 hb1 hs1 _;go_wp2_with (with_reducible refine uY _ rfl (.tmp 9) (.tmp 10) 184 184 rfl 234 (.complex .f64 0 0) 16 Tryz.underlying184 mh w w hb1 w n _ ho1 rfl w A c _ rfl (h.below hb1) (λ_ _=>rfl) ?_);intro w2 ho2 hb2;clear ho1 hb1;go_wp2;go_ret;exact⟨_,rfl,ho2.alike λk hk=>by simp[turned,hno k hk],hb2⟩
  ·have hd0:decide (0<=t)=false:=by simp;omega
   clear h0
   go_enter Tryz.func218,Tryz.ntmps218
   go_wp2_with (at_make;go_loud (refine oM _ rfl _ _ 184 rfl w w (ah _ _) lr 234 (.complex .f64 0 0) 16 mh rfl Tryz.underlying184 _ _ _ _ n rfl rfl rfl rfl (by omega) (by unfold maxLen;omega) ?_));intro w1 ho1 hb1 hs1 _;go_wp2_with (with_reducible refine uY _ rfl (.tmp 9) (.tmp 10) 184 184 rfl 234 (.complex .f64 0 0) 16 Tryz.underlying184 mh w w hb1 w n _ ho1 rfl w A c _ rfl (h.below hb1) (λ_ _=>rfl) ?_);intro w2 ho2 hb2;clear ho1 hb1;go_wp2;go_ret;exact⟨_,rfl,ho2.alike λk hk=>by simp[turned,hno k hk],hb2⟩
end
section
open Go.RowKit
open Clk (avg)
structure G where
 sy:Nat->Bool
 n:Nat
 wi:Int
 lm:Int
 l:List Int
 now:Int
 kn:Bool
 slot:Nat
 si:Nat
def grd(s:G):Array Value:=#[↑(s.sy 0),↑(s.sy 1),↑(s.sy 2),↑(s.sy 3),↑(s.sy 4),↑(s.sy 5),↑(s.sy 6),↑(s.sy 7),↑(s.n:Nat),↑s.wi,
 ↑s.lm,↑(s.l.getD 0 0),↑(s.l.getD 1 0),↑(s.l.getD 2 0),↑(s.l.getD 3 0),↑(s.l.length:Nat),↑s.now,↑s.kn,↑(s.slot:Nat),↑(s.si:Nat)]
def GAt(W:World)(g:Nat)(s:G):Prop:=Blk W g (grd s) 115/\s.l.length<=4
theorem GAt.below{W W':World}{g:Nat}{s:G}(h:GAt W g s){B:Nat}(hb:Below B W W')(hg:g<B):GAt W' g s:=⟨h.1.below hb hg,h.2⟩
theorem GAt.lt{W:World}{g:Nat}{s:G}(h:GAt W g s):g<W.heap.size:=h.1.lt
theorem BI(s:G)(n:Int)(h4:s.l.length=4):((((((grd s).setIfInBounds 11 ↑(s.l.getD 1 0)).setIfInBounds 12 ↑(s.l.getD 2 0)).setIfInBounds 13 ↑(s.l.getD 3 0)).setIfInBounds 15 ↑(3:Int)).setIfInBounds 14 ↑n).setIfInBounds 15 ↑(4:Int)=grd {s with l:=s.l.drop 1++[n]}:=by
 obtain⟨sy,nn,wi,lm,l,now,kn,slot,si⟩:=s;simp only at h4 ⊢
 match l,h4 with
 |[p,q,r,s],_=>simp[grd]
theorem BJ(s:G)(n:Int)(k:Nat)(hk:s.l.length=k)(h4:k<4):((grd s).setIfInBounds (11+k) ↑n).setIfInBounds 15 ↑((k:Int)+1:Int)=grd {s with l:=s.l++[n]}:=by
 obtain⟨sy,nn,wi,lm,l,now,kn,slot,si⟩:=s;simp only at hk ⊢
 match l,hk,h4 with
 |[],rfl,_=>simp[grd]
 |[p],rfl,_=>simp[grd]
 |[p,q],rfl,_=>simp[grd]
 |[p,q,r],rfl,_=>simp[grd]
end
section
open Go.ChangeShapes Go.WideShapes Go.ChangeAt Go.RowKit Go.Joins Go.Deep
open Fr (St F)
section
variable {H:Type}{enc:TypeId×Value->H}{P:Program}{w:World}{base:Nat}{spare:Nat->Bool}{held:Bool}
end
end
section
open Go.RowKit
end
section
set_option maxRecDepth 100000
set_option maxHeartbeats 1000000
open Go.RowKit
theorem xO(n:Int)(w:World):
  Calls Tryz.prog 81 #[.int .i64 n] w λe w'=>e=.returned (.bool (decide (isN n)))/\w'=w:=by
 by_cases h1:n<0
 ·rw[aj (by unfold isN;omega:¬isN n)]
  go_enter Tryz.func81,Tryz.ntmps81
  go_wp2;go_ret;exact⟨rfl,rfl⟩
 ·by_cases h2:n<8
  ·rw[av (by unfold isN;omega:isN n)]
   have h1:0<=n:=by omega
   go_enter Tryz.func81,Tryz.ntmps81
   go_wp2;go_ret;exact⟨by simp_all,rfl⟩
  ·rw[aj (by unfold isN;omega:¬isN n)]
   have h1:0<=n:=by omega
   go_enter Tryz.func81,Tryz.ntmps81
   go_wp2;go_ret;exact⟨by simp_all,rfl⟩
end
end Go.Proofs.YteadkhigkmijiaaGreat
