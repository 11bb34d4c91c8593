/- Texts Wt, SrA, LineA, LineB, LineC, Float, LineD, RfT in one. -/
import Derived.Deep.RegionHeld3
import Derived.Test.YteadkhigkmijiaaGreatRows
import Derived.WalkKit
import Derived.WalkSpells
import Derived.WalkLawsBesides
import Derived.Below
import Derived.Laws.FloatArith
import Derived.Laws.ComplexArith
import Derived.RegionTactic
import Derived.Deep.RegionWith
import Derived.Laws.Bits64
import Derived.Test.YteadkhigkmijiaaGreatPD1
import Derived.Test.YteadkhigkmijiaaGreatPD4
import Derived.Test.YteadkhigkmijiaaGreatPD6
set_option linter.all false
namespace Go.Proofs.YteadkhigkmijiaaGreat
section
open Go.RowKit
theorem qq:(∀(a:Act)(d:Tmp)(v:Value),a.put (some d) v={a with tmps:=a.tmps.setIfInBounds d v})/\(∀(l:List Value)(i:Nat)(a:Value),l.toArray.setIfInBounds i a=(l.set i a).toArray)/\(∀(x:Value)(xs:List Value)(a:Value),(x::xs).set 0 a=a::xs)/\∀(x:Value)(xs:List Value)(i:Nat)(a:Value),(x::xs).set (i+1) a=x::xs.set i a:=⟨λ_ _ _=>rfl,λl i a=>bN l i a,λ_ _ _=>rfl,λ_ _ _ _=>rfl⟩
theorem wT{P:Program}{ops:Array Oper}{Q:Exit->Act->World->Prop}{md:Region.Mode}{S:World->Prop}(i:Nat)(d:Tmp){v:Value}{op:Op}{type:TypeId}{pos:String}{after:Array Edge}{fuel:Nat}{listed:Array Bool}{a a':Act}{w:World}(h:wpAnyH P md ops Q S fuel (listed.setIfInBounds i true) a' w)
  (hi:ops[i]?=some {dst:=some d,op:=op,type:=type,pos:=pos,after:=after,guard:=none}:=by rfl)
  (hy:∀w,S w->(execOp a.eval {dst:=some d,op:=op,type:=type,pos:=pos,after:=after,guard:=none}).run P w=.ok (.value v) w:=by intro wz hSw;go_simp;try with_reducible rfl)
  (ha:a.put (some d) v=a':=by first|(simp only[qq];done)|(simp only[qq];rfl)|rfl)
  (hQ:∀c a w,Q (.panic c) (a.put (some d) v) w->Q (.panic c) a w:=by exactλ_ _ _ h=>h) (hw:Region.wanted {dst:=some d,op:=op,type:=type,pos:=pos,after:=after,guard:=none} (yielded ops a.tmps)=true:=by rfl)
  (hs:Region.noSelect ops=true:=by kernel_rfl) (hf:Region.free md ops listed i=true:=by kernel_rfl) (hr:(Region.ready md ops listed).contains i=true:=by kernel_rfl) (hS:S w:=by assumption):wpAnyH P md ops Q S (fuel+1) listed a w:=
 dm hi hs hf hr hQ (gP ⟨hw,hy⟩) hS (ha▸h)
end
section
set_option maxRecDepth 100000
set_option maxHeartbeats 4000000
open Go.RowKit
structure Ft where
 k:Int
 n:Int
 a:Int
 d:List Int
instance:Inhabited Ft:=⟨⟨0,0,0,[]⟩⟩
def ni(k n a:Int)(len:Nat):Bool:=decide (1<=k)&&decide (k<=7)&&decide (0<=n)&&decide (n<=if k=4\/k=7 then 1 else 7)&&decide (-1000<=a)&&decide (a<=1000)&&decide (len<=24)
theorem nu(k n a:Int)(d:Nat):ni k n a d=true↔1<=k/\k<=7/\0<=n/\n<=(if k=4\/k=7 then 1 else 7)/\-1000<=a/\a<=1000/\d<=24:=by
 unfold ni;simp only[bg,bC];omega
def Ft.may(f:Ft):Bool:=ni f.k f.n f.a f.d.length
structure ju(W:World)(B:Nat)(v:Value)(l:List Ft):Prop where
 at_:∃A c,v=.slice A l.length c/\l.length<=c/\c<=maxLen/\(0<l.length->∃b off,A=some ⟨b,off,none⟩/\b<B/\∀i,i<l.length->W.cell? ⟨b,off+i*4,none⟩=some ↑(l.getD i default).k/\W.cell? ⟨b,off+i*4+1,none⟩=some ↑(l.getD i default).n/\W.cell? ⟨b,off+i*4+2,none⟩=some ↑(l.getD i default).a/\
  ∃v,W.cell? (b,off+i*4+3)=some v/\iI W B v (l.getD i default).d)
 by_:∀f∈l,iK f.d
theorem ju.below{W W':World}{B:Nat}{v:Value}{l:List Ft}(h:ju W B v l)(hb:Below B W W'):ju W' B v l:=⟨by
 obtain⟨A,c,rfl,h1,h2,h3⟩:=h.at_;refine⟨A,c,rfl,h1,h2,λh0=>?_⟩;obtain⟨b,off,rfl,hbB,hc⟩:=h3 h0;refine⟨b,off,rfl,hbB,λi hi=>?_⟩;obtain⟨c0,c1,c2,u,c3,hu⟩:=hc i hi;exact⟨(hb.cell (p:=(b,off+i*4)) hbB).trans c0,(hb.cell (p:=(b,off+i*4+1)) hbB).trans c1,(hb.cell (p:=(b,off+i*4+2)) hbB).trans c2,u,(hb.cell (p:=(b,off+i*4+3)) hbB).trans c3,hu.below hb⟩,h.by_⟩
theorem ju.more{W:World}{B B':Nat}{v:Value}{l:List Ft}(h:ju W B v l)(hB:B<=B'):ju W B' v l:=⟨by
 obtain⟨A,c,rfl,h1,h2,h3⟩:=h.at_;refine⟨A,c,rfl,h1,h2,λh0=>?_⟩;obtain⟨b,off,rfl,hbB,hc⟩:=h3 h0;refine⟨b,off,rfl,by omega,λi hi=>?_⟩;obtain⟨c0,c1,c2,u,c3,hu⟩:=hc i hi;exact⟨c0,c1,c2,u,c3,hu.more hB⟩,h.by_⟩
theorem ju.nil{W:World}{B:Nat}:ju W B (.slice none 0 0) []:=⟨⟨none,0,rfl,aR _,bH _,λh=>absurd h (by simp)⟩,λ_ h=>by cases h⟩
theorem Qo(k n a:Int)(A:Option Addr)(d c:Nat)(w:World):
  Calls Tryz.prog 94 #[.agg #[↑k,↑n,↑a,.slice A d c]] w λe w'=>e=.returned ↑(!ni k n a d)/\Below w w w':=by
 have hb0:=(ah w w).alloc lr (.cells #[↑k,↑n,↑a,.slice A d c] 56);have hX:=aJ w _ rfl #[↑k,↑n,↑a,.slice A d c] 56;have x0:=hX.cell 0 (x:=↑k) rfl;have x1:=hX.cell 1 (x:=↑n) rfl;have x2:=hX.cell 2 (x:=↑a) rfl;have x3:=hX.cell 3 (x:=.slice A d c) rfl;have K:=af (nu k n a d);clear hX;generalize ni k n a d=q at *;by_cases h4:k=4
 ·subst h4
  go_enter Tryz.func94,Tryz.ntmps94
  go_wp2
  all_goals
   go_ret;refine⟨?_,hb0⟩;have K:=K.o
   cases q<;>simp at K ⊢<;>omega
 ·by_cases h7:k=7
  ·subst h7
   go_enter Tryz.func94,Tryz.ntmps94
   go_wp2
   all_goals
    go_ret;refine⟨?_,hb0⟩;have K:=K.o
    cases q<;>simp at K ⊢<;>omega
  ·have q4:(k==4)=false:=by rw[aB];exact h4
   have q7:(k==7)=false:=by rw[aB];exact h7
   go_enter Tryz.func94,Tryz.ntmps94
   go_wp2
   all_goals
    go_ret;refine⟨?_,hb0⟩;have K:=K.o
    cases q<;>simp at K ⊢<;>omega
theorem tY(l:List Ft)(k:Nat)(hk:k<l.length):l.getD k default∈l:=by
 rw[ay,aP hk];exact dS hk
def kE(l:List Ft)(k:Nat):Bool:=(l.take k).all Ft.may
theorem Dl(l:List Ft)(k:Nat)(hk:k<l.length):kE l (k+1)=(kE l k&&(l.getD k default).may):=by
 unfold kE;rw[gM,List.all_append,ay,aP hk];simp
theorem Dm(l:List Ft)(k:Nat)(_hk:k<=l.length)(h:kE l k=false):kE l l.length=false:=by
 unfold kE at *;rw[fu]at h ⊢;intro e;refine h ?_;rw[List.all_eq_true]at e ⊢;intro x hx;exact e x (by rw[dz];exact bM hx)
theorem Qp(v:Value)(l:List Ft)(w:World)(hs:ju w w v l):
  Calls Tryz.prog 141 #[v,.func (.func 94) #[] #[]] w λe w'=>
   ∃r:Int,e=.returned ↑r/\decide (0<=r)=!kE l l.length/\Below w w w':=by
 obtain⟨A,c,rfl,hlen,hc,hs⟩:=hs.at_;unfold maxLen at hc;have h0:Hid (kE l 0=true):=af (by simp[kE]);have hS:=λk h=>af (Dl l k h);have hM:=λk h=>af (Dm l k h)
 go_enter Tryz.func141,Tryz.ntmps141
 go_wp2
 go_loopw [8] (λi wr=>∃k:Nat,k<=l.length/\i=↑k/\Hid (kE l k=true)/\Below w w wr) (λi _=>l.length-(intOf i).toNat)
 case atStart=>exact⟨0,by omega,rfl,h0,ah _ _⟩
 case round=>
  obtain⟨k,hk,rfl,hn,hb⟩:=hrel;by_cases hlt:k<l.length
  ·obtain⟨b,off,rfl,hbb,hd⟩:=hs (by omega)
   obtain⟨c0,c1,c2,u,c3,hu⟩:=hd k hlt;have c0:=(hb.cell (p:=(b,off+k*4)) hbb).trans c0;have c1:=(hb.cell (p:=(b,off+k*4+1)) hbb).trans c1;have c2:=(hb.cell (p:=(b,off+k*4+2)) hbb).trans c2;have c3:=(hb.cell (p:=(b,off+k*4+3)) hbb).trans c3;obtain⟨A',cc,rfl,-⟩:=hu.at_;have q1:decide ((k:Int)<(l.length:Nat))=true:=by simp;omega
   have hS:=hS k hlt;have hM:=hM (k+1) (by omega);unfold Ft.may at hS;generalize l.getD k default=f at *;have hcall:=af (Qo f.k f.n f.a A' f.d.length cc wr);clear hd hu
   cases hdn:ni f.k f.n f.a f.d.length
   all_goals
    rw[hdn]at hcall hS;go_wp2_with fail;refine hcall.o.mono ?_;rintro e w1 ⟨rfl,hb1⟩;have hb2:=hb.trans (hb1.mono hb.size);clear hcall;go_wp2
   ·go_ret
    refine⟨k,rfl,?_,hb2⟩;rw[hM.o (by rw[hS.o];simp)];simp
   ·go_roundw
    case rel=>exact⟨k+1,by omega,by go_num,af (by rw[hS.o,hn.o];rfl),hb2⟩
    case measure=>simp[intOf];omega
  ·obtain rfl:k=l.length:=by omega
   have q1:decide ((l.length:Int)<(l.length:Nat))=false:=by simp
   go_wp2;go_ret;exact⟨-1,rfl,by rw[hn.o];decide,hb⟩
theorem Qq(v:Value)(l:List Ft)(w:World)(hs:ju w w v l):
  Calls Tryz.prog 93 #[v,.func (.func 94) #[] #[]] w λe w'=>
   e=.returned ↑(!kE l l.length)/\Below w w w':=by
 have hI:=af (Qp v l w hs);generalize kE l l.length=h at *;obtain⟨A,c,rfl,-⟩:=hs.at_
 go_enter Tryz.func93,Tryz.ntmps93
 go_wp2_with fail;refine hI.o.mono ?_;rintro e w1 ⟨r,rfl,hr,hb⟩;have hr2:decide (r>=0)=!h:=by rw[<-hr]
 clear hI;go_wp2;go_ret;exact⟨by simp[<-hr],hb⟩
def jc(l:List Ft):Bool:=decide (l.length<=4)&&l.all Ft.may
theorem EY(v:Value)(l:List Ft)(w:World)(hs:ju w w v l):
  Calls Tryz.prog 66 #[v] w λe w'=>e=.returned ↑(jc l)/\Below w w w':=by
 have hC:=af (Qq v l w hs);have e1:kE l l.length=l.all Ft.may:=by simp[kE]
 rw[e1]at hC;unfold jc;generalize l.all Ft.may=h at *;obtain⟨A,c,rfl,-⟩:=hs.at_;by_cases h4:l.length<=4
 ·have q1:decide ((l.length:Int)<=4)=true:=by simp;omega
  rw[show decide (l.length<=4)=true from av h4]
  go_enter Tryz.func66,Tryz.ntmps66
  go_wp2_with fail;refine hC.o.mono ?_;rintro e w1 ⟨rfl,hb⟩;go_wp2;go_ret;exact⟨by simp,hb⟩
 ·have q1:decide ((l.length:Int)<=4)=false:=by simp;omega
  rw[show decide (l.length<=4)=false from aj h4]
  go_enter Tryz.func66,Tryz.ntmps66
  go_wp2;go_ret;exact⟨by simp,ah _ _⟩
end
section
set_option maxRecDepth 100000
open Go.RowKit
def part(f:Bool)(a:Nat):Nat:=if f then a else 0
def parts(s:Bool)(a b:Nat):Nat:=if s then b else a
theorem BR(a b:Nat)(f s:Bool)(w:World):
  Calls Tryz.prog 217 #[.complex .f64 a b,.bool f,.bool s] w λe w'=>
   e=.returned (.complex .f64 (part f a) (part s b))/\w=w':=by
 cases f<;>cases s
 all_goals
  go_enter Tryz.func217,Tryz.ntmps217
  go_wp2;go_ret;exact⟨by simp[part],rfl⟩
theorem Kg(a b:Nat)(s:Bool)(w:World):
  Calls Tryz.prog 219 #[.complex .f64 a b,.bool s] w λe w'=>
   e=.returned (.float .f64 (parts s a b))/\w=w':=by
 cases s
 all_goals
  go_enter Tryz.func219,Tryz.ntmps219
  go_wp2;go_ret;exact⟨by simp[parts],rfl⟩
end
section
set_option maxRecDepth 100000
set_option maxHeartbeats 400000
open Go.RowKit
theorem mh:(Tryz.prog.info? 234).map (λi=>(i.zero,i.size,i.bytes))=some (some (.complex .f64 0 0),1,16):=by kernel_rfl
def hi:Nat:=4607182418800017408
def lo:Nat:=13830554455654793216
def jX(x:Int)(j:Nat):Bool:=x.toNat.testBit (7-j)
def lvl(b:Bool):Nat:=if b then hi else lo
def drv(f s:Bool)(z:Nat->Int)(k:Nat):Value:=.complex .f64 (part f (lvl (jX (z (k / 8)) (k%8)))) (part s (lvl (jX (z (k / 8)) (k%8))))
theorem Kh(x:Int)(j:Nat)(h0:0<=x)(h1:x<256)(hj:j<8):(bits BinOp.and IntKind.u8 x (128 / 2^j) != 0)=jX x j:=by
 obtain⟨n,rfl⟩:=bZ h0;have hn:n<256:=by omega
 have key:∀j:Fin 8,∀n:Fin 256,(bits BinOp.and IntKind.u8 ((n.val:Nat):Int) (128 / 2^j.val) != 0)=jX ((n.val:Nat):Int) j.val:=by decide+kernel
 exact key ⟨j,hj⟩ ⟨n,hn⟩
theorem Ki(A:Option Addr)(n c:Nat)(z:Nat->Int)(f s:Bool)(w:World)(h:iY w w A n λk=>.int .u8 (z k))(hz:∀k,k<n->0<=z k/\z k<256)(hn:n<=c)(hc:c<=maxLen):
  Calls Tryz.prog 193 #[.slice A n c,↑f,↑s] w λe w'=>
   ∃v,e=.returned v/\iP w' w 234 v (8*min n 50) (drv f s z)/\Below w w w':=by
 unfold maxLen at hc;obtain⟨i0,hi,hz0,hz1,hz2⟩:=fV mh;by_cases hb:n<=50
 case' pos=>obtain⟨m,hm1,hm2,hm3,hm4⟩:∃m,m<=n/\n<=m/\m<=50/\m=min n 50:=⟨n,by omega,by omega,by omega,by omega⟩
 case' neg=>obtain⟨m,hm1,hm2,hm3,hm4⟩:∃m,m<=50/\50<=m/\m<=n/\m=min n 50:=⟨50,by omega,by omega,by omega,by omega⟩
 all_goals
  have H4:=af hm4;clear hm4
  go_enter Tryz.func193,Tryz.ntmps193
  go_wp2_with (at_make;refine wpList_make_own _ rfl _ _ 184 rfl w 234 i0 (.complex .f64 0 0) 1 Tryz.underlying184 hi hz0 hz1 _ _ _ (8*m) rfl rfl (by omega) ?b2 ?b3 lr ?_)
  case b2=>rw[hz2];omega
  case b3=>unfold maxLen;omega
  intro w0 hown0 BS;go_wp2
  go_loopw [7,23] (λv i wr=>∃k:Nat,k<=m/\i=↑k/\iP wr w 234 v (8*k) (drv f s z)/\Below w w wr) (λ_ i _=>m-(intOf i).toNat)
  case atStart=>exact⟨0,by omega,rfl,hown0,(ah _ _).grown BS lr (λk h=>by cases h)⟩
  case round=>
   obtain⟨k,hk,rfl,hown,hbel⟩:=hrel;by_cases hlt:k<m
   ·obtain⟨b,off,rfl,hbb,hcell⟩:=h (by omega)
    have hx:wr.cell? (b,off+k)=some (.int .u8 (z k)):=(hbel.cell hbb).trans (hcell k (by omega));have hzk:=hz k (by omega);clear hcell BS hown0;have hdk:decide (k<n)=true:=by simp;omega
    have Tp:decide ((k:Int)<50)=true:=by simp;omega
    go_wp2
    go_loopw [7,27] (λv i wx=>∃j:Nat,j<=8/\i=↑j/\iP wx w 234 v (8*k+j) (drv f s z)/\Below w w wx) (λ_ i _=>8-(intOf i).toNat)
    case atStart=>exact⟨0,by omega,rfl,hown,hbel⟩
    case round=>
     clear hown hbel;obtain⟨j,hj,rfl,hown,hbel⟩:=hrel;have hB:=hbel.size;by_cases hlj:j<8
     ·have hbt:=Kh (z k) j hzk.1 hzk.2 hlj
      have hd:drv f s z (8*k+j)=.complex .f64 (part f (lvl (jX (z k) j))) (part s (lvl (jX (z k) j))):=by
       unfold drv;rw[show(8*k+j) / 8=k by omega,show(8*k+j)%8=j by omega]
      cases hv:jX (z k) j
      all_goals
       rw[hv]at hbt hd;have hd':=af hd;clear hd hv;go_wp2_with (first
        |(go_at_call 217;refine(BR _ _ f s _).mono ?_;rintro e w' ⟨rfl,rfl⟩)
        |(at_builtin;go_loud (refine Ke _ rfl _ _ 184 rfl w 234 (.complex .f64 0 0) 16 mh rfl Tryz.underlying184 _ _ _ w hown hbel rfl _ rfl rfl hB ?_ ?_ hd'.o.symm ?_)))
       ·unfold maxLen;omega
       ·omega
       intro v' w1 hown' Kj _;go_wp2;go_roundw
       case rel=>exact⟨j+1,by omega,by go_num,hown',Kj⟩
       case measure=>simp[intOf];omega
     ·go_wp2
      go_roundw
      case rel=>exact⟨k+1,by omega,by go_num,by rw[show 8*(k+1)=8*k+j by omega];exact hown,hbel⟩
      case measure=>simp[intOf];omega
   ·go_wp2
    go_ret;exact⟨_,rfl,by rw[<-H4.o,show m=k by omega];exact hown,hbel⟩
end
section
open Go.RowKit
end
section
open Ieee
theorem Jq:(2:Nat)^52=4503599627370496:=by decide
theorem AG:double.leastPlace=-1074:=by decide
theorem AH:double.binade=4503599627370496:=by decide
theorem AJ:double.infRung=2047*4503599627370496:=by decide
theorem Jr:double.signWeight=2048*4503599627370496:=by decide
theorem Js:double.fractionBits=52:=rfl
def sH(m:Nat):Nat:=(m.log2+1022)*4503599627370496+m*2^(52-m.log2)
theorem AK(m j:Nat)(hm:m≠0):(m*2^j).log2=m.log2+j:=by
 have hp:=gI j;refine(Nat.log2_eq_iff (Nat.mul_ne_zero hm (Nat.ne_of_gt hp))).2 ⟨?_,?_⟩
 ·rw[iD];exact Nat.mul_le_mul_right _ (Nat.log2_self_le hm)
 ·rw[show m.log2+j+1=m.log2+1+j by omega,iD]
  exact Nat.mul_lt_mul_of_pos_right Nat.lt_log2_self hp
theorem AL(m:Nat)(hm:m≠0)(hlt:m<2^53):m.log2<=52/\4503599627370496<=m*2^(52-m.log2)/\m*2^(52-m.log2)<2*4503599627370496:=by
 have hl:m.log2<53:=(Nat.log2_lt hm).2 hlt;have h1:2^m.log2<=m:=Nat.log2_self_le hm;have h2:m<2^(m.log2+1):=Nat.lt_log2_self;have e:2^m.log2*2^(52-m.log2)=4503599627370496:=by rw[<-iD,show m.log2+(52-m.log2)=52 by omega,Jq]
 have p:=gI (52-m.log2);refine⟨by omega,?_,?_⟩
 ·rw[<-e];exact Nat.mul_le_mul_right _ h1
 ·have:=Nat.mul_lt_mul_of_pos_right h2 p
  rw[Nat.pow_succ,Nat.mul_comm (2^m.log2) 2,Nat.mul_assoc,e]at this;exact this
theorem AO(s:Bool)(m j:Nat)(hm:m≠0)(hlt:m<2^53):double.nearest s (m*2^j) (-(j:Int))=double.word s (sH m):=by
 obtain⟨hl,g1,g2⟩:=AL m hm hlt;have hne:m*2^j≠0:=Nat.mul_ne_zero hm (Nat.ne_of_gt (gI j));unfold Format.nearest;rw[ai hne,AK m j hm,AG,AH,AJ,Js];have hlast:max (-(j:Int)+((m.log2+j:Nat):Int)-(52:Nat)) (-1074)=(m.log2:Int)-52:=by omega
 rw[hlast];have hk:Toward.even.cut s ((m*2^j)<<<(-(j:Int)-((m.log2:Int)-52)).toNat) ((m.log2:Int)-52 - -(j:Int)).toNat=m*2^(52-m.log2):=by
  by_cases hj:j<=52-m.log2
  ·rw[show((m.log2:Int)-52 - -(j:Int)).toNat=0 by omega,show(-(j:Int)-((m.log2:Int)-52)).toNat=52-m.log2-j by omega]
   rw[fE,Nat.mul_assoc,<-iD,show j+(52-m.log2-j)=52-m.log2 by omega];simp[Toward.cut,Nat.mod_one]
  ·rw[show(-(j:Int)-((m.log2:Int)-52)).toNat=0 by omega,show((m.log2:Int)-52 - -(j:Int)).toNat=j-(52-m.log2) by omega]
   rw[Nat.shiftLeft_zero];unfold Toward.cut;rw[AK m j hm,show min (j-(52-m.log2)) (m.log2+j+2)=j-(52-m.log2) by omega,fE,Nat.one_mul];have hs:m*2^j=m*2^(52-m.log2)*2^(j-(52-m.log2)):=by rw[Nat.mul_assoc,<-iD,show 52-m.log2+(j-(52-m.log2))=j by omega]
   have hp:=gI (j-(52-m.log2));rw[hs]
   dsimp only
   rw[Nat.mul_div_cancel _ hp,Nat.mul_mod_left];simp
 dsimp only
 rw[hk,show((m.log2:Int)-52 - -1074).toNat=m.log2+1022 by omega];rw[Nat.min_eq_left (by omega)]
 rfl
theorem Jt(K Q X:Nat)(h1:K<=X)(h2:X<2*K)(hQ:Q+2<=2047):
  Q*K+X<2047*K/\¬Q*K+X<K/\(Q*K+X) / K=Q+1/\(Q*K+X)%K+K=X/\(Q*K+X) / (2048*K)=0/\(Q*K+X)%(2048*K)=Q*K+X/\
  (2048*K+(Q*K+X)) / (2048*K)=1/\(2048*K+(Q*K+X))%(2048*K)=Q*K+X:=by
 obtain⟨Y,rfl⟩:∃Y,X=K+Y:=⟨X-K,by omega⟩;have hY:Y<K:=by omega
 have e:Q*K+(K+Y)=Y+K*(Q+1):=by rw[Nat.mul_add,Nat.mul_comm K Q];omega
 have hm:K*(Q+1)<=K*2046:=Nat.mul_le_mul_left _ (by omega);have hlt:Y+K*(Q+1)<2048*K:=by omega
 rw[e];refine⟨by omega,?_,?_,?_,Nat.div_eq_of_lt hlt,Nat.mod_eq_of_lt hlt,?_,?_⟩
 ·have:K*1<=K*(Q+1):=Nat.mul_le_mul_left _ (by omega)
  omega
 ·rw[Nat.add_mul_div_left _ _ (by omega),Nat.div_eq_of_lt hY,bU]
 ·rw[Nat.add_mul_mod_self_left,Nat.mod_eq_of_lt hY,Nat.add_comm]
 ·rw[Nat.add_div_left _ (by omega),Nat.div_eq_of_lt hlt]
 ·rw[Nat.add_mod_left,Nat.mod_eq_of_lt hlt]
theorem Ju(s:Bool)(m:Nat)(hm:m≠0)(hlt:m<2^53):double.read (double.word s (sH m))=.number s (m*2^(52-m.log2)) (-((52-m.log2:Nat):Int)):=by
 obtain⟨hl,g1,g2⟩:=AL m hm hlt;unfold Format.read Format.word sH;rw[Jr,AH,AJ,AG];obtain⟨f1,f2,f3,f4,f5,f6,f7,f8⟩:=Jt 4503599627370496 (m.log2+1022) (m*2^(52-m.log2)) g1 g2 (by omega);have e:((m.log2+1022+1-1:Nat):Int)+-1074=-((52-m.log2:Nat):Int):=by omega
 generalize(4503599627370496:Nat)=K at *;generalize m*2^(52-m.log2)=X at *
 cases s
 ·simp only[bA,dB]
  rw[f5,f6,ai f2,au f1,f3,Nat.add_comm K,f4,Int.add_comm,e]
  rfl
 ·simp only[dG]
  rw[f7,f8,ai f2,au f1,f3,Nat.add_comm K,f4,Int.add_comm,e]
  rfl
abbrev fl(a:Int):Nat:=floatOfInt .f64 a
theorem nK:fl 0=0:=by decide+kernel
theorem AP(a:Int)(h0:a≠0)(h:a.natAbs<2^53):fl a=double.word (decide (a<0)) (sH a.natAbs):=by
 have:=AO (decide (a<0)) a.natAbs 0 (by omega) h;rw[Nat.pow_zero,Nat.mul_one]at this;exact this
theorem qE(a:Int)(h:a.natAbs<2^53):∃d:Nat,double.read (fl a)=.number (decide (a<0)) (a.natAbs*2^d) (-(d:Int)):=by
 by_cases h0:a=0
 ·subst h0
  exact⟨1074,by rw[nK];decide+kernel⟩
 ·exact⟨52-a.natAbs.log2,by rw[AP a h0 h,Ju _ _ (by omega) h]⟩
theorem Jv(s:Bool)(a:Int)(j:Nat)(h:a.natAbs<2^53)(hs:s=decide (a<0)):double.nearest s (a.natAbs*2^j) (-(j:Int))=fl a:=by
 subst hs;by_cases h0:a=0
 ·subst h0
  rw[nK];simp[Format.nearest,Format.word]
 ·rw[AO _ _ _ (by omega) h,AP a h0 h]
theorem sI(a:Int)(d k:Nat):signed (decide (a<0)) (a.natAbs*2^d) k=a*2^(d+k):=by
 unfold signed;rw[fE,Nat.mul_assoc,<-iD];by_cases h:a<0
 ·simp only[h,decide_true,dG,ic,gY]
  rw[show((a.natAbs:Nat):Int)=-a by omega];simp[Int.neg_mul]
 ·simp only[h,decide_false,bA,dB,ic,gY]
  rw[show((a.natAbs:Nat):Int)=a by omega];simp
theorem vB(x y:Int)(D:Nat):(x*2^D<y*2^D)↔x<y:=by
 have hp:(0:Int)<2^D:=Int.pow_pos (by decide);exact⟨λh=>Int.lt_of_mul_lt_mul_right h (Int.le_of_lt hp),λh=>Int.mul_lt_mul_of_pos_right h hp⟩
theorem natAbs_pow(c:Int)(D:Nat):(c*2^D).natAbs=c.natAbs*2^D:=by
 rw[Int.natAbs_mul,Int.natAbs_pow];rfl
theorem AQ(a b c:Int)(x y:Datum)(d1 d2:Nat)(hx:x=.number (decide (a<0)) (a.natAbs*2^d1) (-(d1:Int)))(hy:y=.number (decide (b<0)) (b.natAbs*2^d2) (-(d2:Int)))
  (hc:c=a+b) (h:c.natAbs<2^53):(x.sum y).map double.write=some (fl c):=by
 subst hx;subst hy;have hbase:min (-(d1:Int)) (-(d2:Int))=-((max d1 d2:Nat):Int):=by omega
 simp only[Datum.sum,hbase];rw[show(-(d1:Int) - -((max d1 d2:Nat):Int)).toNat=max d1 d2-d1 by omega,show(-(d2:Int) - -((max d1 d2:Nat):Int)).toNat=max d1 d2-d2 by omega];rw[sI,sI,show d1+(max d1 d2-d1)=max d1 d2 by omega,show d2+(max d1 d2-d2)=max d1 d2 by omega,<-Int.add_mul,<-hc];generalize max d1 d2=D;have hp:(0:Int)<2^D:=Int.pow_pos (by decide);simp only[fK,Format.write,natAbs_pow];rw[Jv _ c D h ?_];by_cases h0:c=0
 ·rw[h0]
  simp only[Int.zero_mul,dG];simp;omega
 ·have h1:¬c*2^D=0:=λe=>by rcases Int.mul_eq_zero.1 e with e|e<;>omega
  rw[ai h1];have:=vB c 0 D;simp only[Int.zero_mul]at this;simp[this]
theorem AU(a b:Int)(ha:a.natAbs<2^52)(hb:b.natAbs<2^52):floatBits .add .f64 (fl a) (fl b)=some (fl (a+b)):=by
 obtain⟨d1,e1⟩:=qE a (by omega);obtain⟨d2,e2⟩:=qE b (by omega);exact AQ a b (a+b) _ _ d1 d2 e1 e2 rfl (by omega)
theorem AW(a:Int)(ha:a.natAbs<2^52):floatBits .sub .f64 0 (fl a)=some (fl (-a)):=by
 obtain⟨d2,e2⟩:=qE a (by omega);by_cases h0:a=0
 ·subst h0
  rw[nK]
  decide+kernel
 ·refine AQ 0 (-a) (-a) (double.read 0) ((double.read (fl a)).opposite) 1074 d2 (by decide+kernel) ?_ (by omega) (by omega)
  rw[e2];simp only[Datum.opposite,Int.natAbs_neg]
  congr 1
  rw[bY];simp;omega
theorem Jw(a b:Int)(ha:a.natAbs<2^53)(hb:b.natAbs<2^53):FloatKind.f64.format.order (fl a) (fl b)=some (compare a b):=by
 obtain⟨d1,e1⟩:=qE a ha;obtain⟨d2,e2⟩:=qE b hb;show(double.read (fl a)).order (double.read (fl b))=_;rw[e1,e2];have hbase:min (-(d1:Int)) (-(d2:Int))=-((max d1 d2:Nat):Int):=by omega
 simp only[Datum.order,hbase];rw[show(-(d1:Int) - -((max d1 d2:Nat):Int)).toNat=max d1 d2-d1 by omega,show(-(d2:Int) - -((max d1 d2:Nat):Int)).toNat=max d1 d2-d2 by omega];rw[sI,sI,show d1+(max d1 d2-d1)=max d1 d2 by omega,show d2+(max d1 d2-d2)=max d1 d2 by omega];generalize max d1 d2=D
 congr 1
 have k1:=vB a b D;have k2:=vB b a D;rw[show compare (a*2^D) (b*2^D)=compareOfLessAndEq (a*2^D) (b*2^D)from rfl,show compare a b=compareOfLessAndEq a b from rfl];unfold compareOfLessAndEq;by_cases h1:a<b
 ·rw[au (k1.2 h1),au h1]
 ·rw[ai (λh=>h1 (k1.1 h)),ai h1]
  by_cases h2:a=b
  ·rw[h2]
   simp
  ·have h3:¬a*2^D=b*2^D:=λe=>by
    have h4:b<a:=by omega
    have:=k2.2 h4;omega
   rw[ai h3,ai h2]
theorem vC(a b:Int)(ha:a.natAbs<2^53)(hb:b.natAbs<2^53):(FloatKind.f64.format.order (fl a) (fl b)==some .eq)=decide (a=b):=by
 rw[Jw a b ha hb];rw[show compare a b=compareOfLessAndEq a b from rfl];unfold compareOfLessAndEq;by_cases h1:a<b
 ·rw[au h1]
  have:¬a=b:=by omega
  simp[this]
 ·rw[ai h1]
  by_cases h2:a=b
  ·simp[h2]
  ·rw[ai h2]
   simp[h2]
end
section
set_option maxRecDepth 100000
open Go.RowKit
def cx(a b:Int):Value:=.complex .f64 (floatOfInt .f64 a) (floatOfInt .f64 b)
def pt(s:Bool)(a b:Int):Int:=if s then b else a
theorem vV(a b:Int)(s:Bool)(w:World):
  Calls Tryz.prog 219 #[cx a b,.bool s] w λe w'=>e=.returned (.float .f64 (floatOfInt .f64 (pt s a b)))/\w=w':=by
 have h:=Kg (floatOfInt .f64 a) (floatOfInt .f64 b) s w
 cases s
 ·simp only[parts,bA,dB]at h
  simp only[pt,bA,dB,cx];exact h
 ·simp only[parts,dG]at h
  simp only[pt,dG,cx];exact h
theorem vW:floatOfInt .f64 1=4607182418800017408:=by decide+kernel
theorem vX:floatOfInt .f64 (-1)=13830554455654793216:=by decide+kernel
theorem Kk(q:Int)(h:q.natAbs<2^53):(FloatKind.f64.format.order (floatOfInt .f64 q) 0==some .eq)=decide (q=0):=by
 have:=vC q 0 h (by decide)
 rwa[nK]at this
theorem BU(q:Int)(h:q.natAbs<2^53):(FloatKind.f64.format.order (floatOfInt .f64 q) 4607182418800017408==some .eq)=decide (q=1):=by
 have:=vC q 1 h (by decide)
 rwa[fl,fl,vW]at this
theorem Kl(q:Int)(h:q.natAbs<2^53):(FloatKind.f64.format.order (floatOfInt .f64 q) 13830554455654793216==some .eq)=decide (q=-1):=by
 have:=vC q (-1) h (by decide)
 rwa[fl,fl,vX]at this
def kC(q:Nat->Int)(k:Nat):Bool:=(List.range k).all λi=>q i==0
def j3(q:Nat->Int)(k:Nat):Bool:=(List.range k).all λi=>q i==1||q i==-1
theorem BV(q:Nat->Int)(k:Nat):kC q (k+1)=(kC q k&&q k==0):=by simp[kC,cZ]
theorem BW(q:Nat->Int)(k:Nat):j3 q (k+1)=(j3 q k&&(q k==1||q k==-1)):=by simp[j3,cZ]
def lN(q:Nat->Int)(j i:Nat):Nat:=(List.range i).foldl (λx k=>x ||| (if q (8*j+k)=1 then 128 / 2^k else 0)) 0
def packed(q:Nat->Int)(j:Nat):Int:=(lN q j 8:Nat)
end
section
set_option maxRecDepth 100000
set_option maxHeartbeats 1000000
open Go.RowKit
def kG(n:Int):Int:=if 0<=n/\n<8 then 2^n.toNat else 0
theorem Ez(n:Int):(kG n != 0)=decide (0<=n/\n<8):=by
 unfold kG;by_cases h:0<=n/\n<8
 ·rw[au h,av h,bV,<-nQ]
  have:=gI n.toNat;omega
 ·rw[ai h,aj h];rfl
theorem OQ{m:Nat}(hm:m<256)(n:Int):bits BinOp.or IntKind.i64 (m:Nat) (kG n)=((if 0<=n/\n<8 then ins m n.toNat else m:Nat):Int):=by
 unfold kG;by_cases h:0<=n/\n<8
 ·rw[au h,au h,<-nQ];exact xA hm (by omega)
 ·rw[ai h,ai h];exact OT hm
theorem OU{m:Nat}(hm:m<256)(n:Int):bits BinOp.andNot IntKind.i64 (m:Nat) (kG n)=((if 0<=n/\n<8 then del m n.toNat else m:Nat):Int):=by
 unfold kG;by_cases h:0<=n/\n<8
 ·rw[au h,au h,<-nQ];exact EA hm (by omega)
 ·rw[ai h,ai h];exact OV hm
theorem OW{m:Nat}(hm:m<256)(n:Int):(bits BinOp.and IntKind.i64 (m:Nat) (kG n) != 0)=isB m n:=by
 unfold kG isB;by_cases h:0<=n/\n<8
 ·rw[au h,av h,<-nQ,OX hm (by omega),cK]
  have:=gI n.toNat
  cases m.testBit n.toNat
  ·rfl
  ·rw[au rfl,bV];omega
 ·rw[ai h,aj h,OY hm];rfl
theorem xq(n:Int)(w:World):
  Calls Tryz.prog 64 #[↑n] w λe w'=>e=.returned ↑(w,0)/\TAt 164 w' w ⟨(n%256).toNat,0,0⟩/\Below w w w'/\w'.heap.size=w.heap.size+1:=by
 have HA:=EB n;have hl:=wM n;generalize(n%256).toNat=m at *
 go_enter Tryz.func64,Tryz.ntmps64
 go_wp2;go_ret;exact⟨rfl,⟨aJ _ _ rfl _ _,hl⟩,(ah _ _).alloc lr _,by simp⟩
theorem rI(n:Int)(w:World):
  Calls Tryz.prog 172 #[↑n] w λe w'=>e=.returned ↑(kG n)/\w'=w:=by
 by_cases h1:n<0
 ·rw[show kG n=0 by unfold kG;rw[ai (by omega)]]
  go_enter Tryz.func172,Tryz.ntmps172
  go_wp2;go_ret;exact⟨rfl,rfl⟩
 ·by_cases h2:7<n
  ·rw[show kG n=0 by unfold kG;rw[ai (by omega)]]
   go_enter Tryz.func172,Tryz.ntmps172
   go_wp2;go_ret;exact⟨rfl,rfl⟩
  ·have hU:IntKind.u64.wrap n=n:=by rw[IntKind.wrap_u64];omega
   have hn:kG n=wrap64 ((2:Int)^n.toNat):=by unfold kG;rw[au (by omega),uh (by omega)]
   rw[hn];clear hn;have n1:0<=n:=by omega
   have n2:n<8:=by omega
   go_enter Tryz.func172,Tryz.ntmps172
   go_wp2;go_ret;exact⟨rfl,rfl⟩
theorem uD(g:Nat)(s:TS)(n:Int)(w:World)(h:TAt 164 w g s):
  Calls Tryz.prog 133 #[↑(g,0),↑n] w λe w'=>e=.returned ↑(isB s.m n)/\∃m,w'=w.drewN m:=by
 have HB:=λW=>af (rI n W);have c0:=h.c0;rw[<-OW h.2 n];clear h
 go_enter Tryz.func133,Tryz.ntmps133
 go_wp2_with fail
 go_quiet ((go_at_call 172;exact bI (HB _).o))
 go_wp2;go_ret;exact⟨rfl,_,rfl⟩
theorem ru(g:Nat)(s:TS)(w:World)(h:TAt 164 w g s)(ha:s.a<1000):
  Calls Tryz.prog 171 #[↑(g,0)] w λe w'=>e=.returned ↑(decide (s.f<=s.a))/\∃m,w'=w.drewN m:=by
 have c1:=h.c1;have c2:=h.c2;clear h
 go_enter Tryz.func171,Tryz.ntmps171
 go_wp2_with fail
 go_quiet (fail)
 go_wp2;go_ret;refine⟨?_,_,rfl⟩;rw[show decide (s.f<=s.a)=decide ((s.f:Int)<(s.a:Int)+1) by simp;omega]
 rfl
theorem xE(g:Nat)(s:TS)(n:Int)(w:World)(h:TAt 164 w g s):
  Calls Tryz.prog 115 #[↑(g,0),↑n] w λe w'=>e=.returned (.tuple #[])/\TAt 164 w' g (s.join n)/\Only g w w':=by
 have HB:=λW=>af (rI n W);have c0:=h.c0;have f0:=h.1.frozen 0;have HO:=OQ h.2 n;have hI:(if 0<=n/\n<8 then ins s.m n.toNat else s.m:Nat)<256:=by
  split
  ·exact EC h.2 (by omega)
  ·exact h.2
 have hs:s.join n={s with m:=if 0<=n/\n<8 then ins s.m n.toNat else s.m}:=by
  unfold TS.join;split<;>rfl
 rw[hs];clear hs;generalize(if 0<=n/\n<8 then ins s.m n.toNat else s.m:Nat)=q at *;generalize kG n=b at *
 go_enter Tryz.func115,Tryz.ntmps115
 go_wp2_with fail
 go_region_with (first|(go_at_call 172;refine(HB _).o.mono ?_;rintro _ _ ⟨rfl,rfl⟩))
 all_goals
  go_wp2;exact aD (ax (by rfl) _ _ _) rfl ⟨rfl,(h.m_ _ hI).drew,((aE g _).set 0 _).drew⟩
theorem Ek(g:Nat)(s:TS)(n:Int)(w:World)(h:TAt 164 w g s):
  Calls Tryz.prog 130 #[↑(g,0),↑n] w λe w'=>e=.returned (.tuple #[])/\TAt 164 w' g (s.miss n)/\Only g w w':=by
 have HB:=λW=>af (rI n W);have c0:=h.c0;have f0:=h.1.frozen 0;have HO:=OU h.2 n;have hI:(if 0<=n/\n<8 then del s.m n.toNat else s.m:Nat)<256:=by
  split
  ·exact ED h.2
  ·exact h.2
 have hs:s.miss n={s with m:=if 0<=n/\n<8 then del s.m n.toNat else s.m}:=by
  unfold TS.miss;split<;>rfl
 rw[hs];clear hs;generalize(if 0<=n/\n<8 then del s.m n.toNat else s.m:Nat)=q at *;generalize kG n=b at *
 go_enter Tryz.func130,Tryz.ntmps130
 go_wp2_with fail
 go_region_with (first|(go_at_call 172;refine(HB _).o.mono ?_;rintro _ _ ⟨rfl,rfl⟩))
 all_goals
  go_wp2;exact aD (ax (by rfl) _ _ _) rfl ⟨rfl,(h.m_ _ hI).drew,((aE g _).set 0 _).drew⟩
theorem xJ(g:Nat)(s:TS)(n:Int)(w:World)(h:TAt 164 w g s)(hb:s.a<1000):
  Calls Tryz.prog 128 #[↑(g,0),↑n] w λe w'=>e=.returned (.tuple #[])/\TAt 164 w' g (s.right n)/\Only g w w':=by
 have HB:=λW=>af (rI n W);have HN:=Ez n;by_cases hn:0<=n/\n<8
 ·rw[av hn]at HN
  have hs:s.right n={s.join n with a:=s.a+1}:=by simp[TS.right,TS.join,hn]
  rw[hs];have hf:(s.join n).a=s.a:=by simp[TS.join,hn]
  clear hs;have HJ:=λW(h:TAt 164 W g s)=>af (xE g s n W h);generalize s.join n=u at *;generalize kG n=b at *
  go_enter Tryz.func128,Tryz.ntmps128
  go_wp2_with fail;refine(HB _).o.mono ?_;rintro _ _ ⟨rfl,rfl⟩;go_wp2_with fail;refine(HJ _ h).o.mono ?_;rintro _ w1 ⟨rfl,h1,o1⟩;have c:=h1.c1;rw[hf]at c;have f:=h1.1.frozen 1;have h2:=af (h1.a_ (s.a+1));clear h h1 hf HB HJ;go_wp2;exact aD (ax (by rfl) _ _ _) rfl ⟨rfl,by simpa using h2.o,o1.set 1 _⟩
 ·rw[aj hn]at HN
  have hs:s.right n=s:=by simp[TS.right,hn]
  rw[hs];clear hs;generalize kG n=b at *
  go_enter Tryz.func128,Tryz.ntmps128
  go_wp2_with fail;refine(HB _).o.mono ?_;rintro _ _ ⟨rfl,rfl⟩;go_wp2;exact aD (ax (by rfl) _ _ _) rfl ⟨rfl,h,aE _ _⟩
theorem El(g:Nat)(s:TS)(n:Int)(w:World)(h:TAt 164 w g s)(hb:s.f<1000):
  Calls Tryz.prog 131 #[↑(g,0),↑n] w λe w'=>e=.returned (.tuple #[])/\TAt 164 w' g (s.wrong n)/\Only g w w':=by
 have HB:=λW=>af (rI n W);have HN:=Ez n;by_cases hn:0<=n/\n<8
 ·rw[av hn]at HN
  have hs:s.wrong n={s.miss n with f:=s.f+1}:=by simp[TS.wrong,TS.miss,hn]
  rw[hs];have hf:(s.miss n).f=s.f:=by simp[TS.miss,hn]
  clear hs;have HJ:=λW(h:TAt 164 W g s)=>af (Ek g s n W h);generalize s.miss n=u at *;generalize kG n=b at *
  go_enter Tryz.func131,Tryz.ntmps131
  go_wp2_with fail;refine(HB _).o.mono ?_;rintro _ _ ⟨rfl,rfl⟩;go_wp2_with fail;refine(HJ _ h).o.mono ?_;rintro _ w1 ⟨rfl,h1,o1⟩;have c:=h1.c2;rw[hf]at c;have f:=h1.1.frozen 2;have h2:=af (h1.f_ (s.f+1));clear h h1 hf HB HJ;go_wp2;exact aD (ax (by rfl) _ _ _) rfl ⟨rfl,by simpa using h2.o,o1.set 2 _⟩
 ·rw[aj hn]at HN
  have hs:s.wrong n=s:=by simp[TS.wrong,hn]
  rw[hs];clear hs;generalize kG n=b at *
  go_enter Tryz.func131,Tryz.ntmps131
  go_wp2_with fail;refine(HB _).o.mono ?_;rintro _ _ ⟨rfl,rfl⟩;go_wp2;exact aD (ax (by rfl) _ _ _) rfl ⟨rfl,h,aE _ _⟩
theorem xw(g:Nat)(s:TS)(w:World)(h:TAt 164 w g s):
  Calls Tryz.prog 116 #[↑(g,0)] w λe w'=>e=.returned (.tuple #[])/\TAt 164 w' g s.clear/\Only g w w':=by
 have c1:=h.c1;have c2:=h.c2;have f1:=h.1.frozen 1;have f2:=h.1.frozen 2;have h2:=af ((h.a_ 0).f_ 0);clear h
 go_enter Tryz.func116,Tryz.ntmps116
 go_wp2;exact aD (ax (by rfl) _ _ _) rfl ⟨rfl,h2.o,((aE g _).set 1 _).set 2 _⟩
end
end Go.Proofs.YteadkhigkmijiaaGreat
