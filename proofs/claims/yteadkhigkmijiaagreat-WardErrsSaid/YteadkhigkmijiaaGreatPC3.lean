/- Texts CrcC, TbMath, TbA, TbB, TbC, TbD, BlkA, Ints, ClMath in one. -/
import Derived.Deep.RegionHeld3
import Derived.Deep.RegionLaw
import Derived.RegionTactic
import Derived.BigQuiet
import Derived.Deep.CutBlock
import Derived.BigRegion
import Derived.Laws.AppendOwnNone
import Derived.SizedLaws
import Derived.ProofKit
import Derived.OpenShut
import Derived.ShutString
import Derived.ChangeOld
import Derived.Deep.Slices
import Derived.Deep.Fields
import Derived.Deep.AppendLies
import Derived.Maps.Range
import Derived.Lib.SmallJoins
import Derived.WalkKit
import Derived.Test.YteadkhigkmijiaaGreatPC1
import Derived.Test.YteadkhigkmijiaaGreatPC2
set_option linter.all false
namespace Go.Proofs.YteadkhigkmijiaaGreat
section
open Go.ChangeShapes Go.WideShapes Go.ChangeAt Go.RowKit
end
namespace Tb
structure D where
 sy:Bool
 inf:Bool
 li:Int
 sz:Int
deriving DecidableEq
structure T where
 ns:List D
 dr:Int
 wi:Int
 lm:Int
deriving DecidableEq
instance:Inhabited D:=⟨⟨false,false,0,0⟩⟩
def wi(n a b:Int):Bool:=decide (a<=n)&&decide (n<=b)
def has(l:List D)(k:Nat)(n:Int):Bool:=(l.take k).any λd=>decide (d.li=n)
def ok(l:List D)(k:Nat):Bool:=wi (l.getD k default).li (2*l.length) 200&&wi (l.getD k default).sz 1 8&&!has l k (l.getD k default).li
def syn:List D->Nat->Nat
 |_,0=>0
 |l,k+1=>syn l k+(if(l.getD k default).sy then 1 else 0)
def oks(l:List D)(k:Nat):Bool:=(List.range k).all (ok l)
def are(l:List D):Bool:=wi l.length 4 8&&(oks l l.length&&decide (4<=syn l l.length))
def rest(t:T):Bool:=wi t.dr 0 1000&&(wi t.wi (4*t.dr+2) 1000&&wi t.lm t.wi 1000)
def T.is(t:T):Bool:=are t.ns&&rest t
theorem FH(l:List D)(k:Nat):oks l (k+1)=(oks l k&&ok l k):=by
 simp[oks,cZ]
theorem FI{l:List D}{k:Nat}(hk:k<l.length)(h:ok l k=false):oks l l.length=false:=by
 simp only[oks,List.all_eq_false,cA];exact⟨k,hk,by simp[h]⟩
theorem FE(l:List D)(n:Int):has l 0 n=false:=by simp[has]
theorem FG(l:List D)(k:Nat)(hk:k<l.length)(n:Int):has l (k+1) n=(has l k n||decide ((l.getD k default).li=n)):=by
 have e:l.take (k+1)=l.take k++[l.getD k default]:=by
  rw[gM,aP hk,ay,aP hk]
  rfl
 unfold has;rw[e,List.any_append];simp
theorem Ra{l:List D}{k:Nat}(_hk:k<l.length){n:Int}(h:has l (k+1) n=true):has l l.length n=true:=by
 simp only[has,List.any_eq_true]at h ⊢;obtain⟨d,hd,h⟩:=h;exact⟨d,by rw[dz];exact bM hd,h⟩
theorem Rl{l:List D}{j k:Nat}(hjk:j<=k){n:Int}(h:has l j n=true):has l k n=true:=by
 simp only[has,List.any_eq_true]at h ⊢;obtain⟨d,hd,h⟩:=h;refine⟨d,?_,h⟩;rw[show j=min j k by omega,<-List.take_take]at hd;exact bM hd
theorem Rj(l:List D)(k:Nat)(_hk:k<=l.length)(n:Int):has (l.take k) (l.take k).length n=has l k n:=by
 unfold has;rw[dz]
theorem x9(l:List D):∀k,syn l k<=k
 |0=>aR _
 |k+1=>by have:=x9 l k;unfold syn;split<;>omega
def flag(d:D):Int:=(if d.sy then 1 else 0)+(if d.inf then 2 else 0)
def oZ(d:D):List Int:=[flag d,d.li / 256,d.li%256,d.sz]
def two(n:Int):List Int:=[n / 256,n%256]
def pq(l:List D):List Int:=l.flatMap oZ
def T.bytes(t:T):List Int:=([77,84,82,78,(t.ns.length:Int)]++pq t.ns)++two t.dr++two t.wi++two t.lm
def dOf(a b c d:Int):D:=⟨decide (a%2=1),decide (a / 2%2=1),b*256+c,d⟩
def dAt(l:List Int)(i:Nat):D:=dOf (l.getD i 0) (l.getD (i+1) 0) (l.getD (i+2) 0) (l.getD (i+3) 0)
def uN(l:List Int)(i:Nat):Int:=l.getD i 0*256+l.getD (i+1) 0
def nOf(l:List Int):Nat:=(l.getD 4 0).toNat
def rdN(l:List Int)(k:Nat):List D:=(List.range k).map λi=>dAt l (5+4*i)
def FM(l:List Int):Bool:=decide (5<=l.length)&&decide (l.length=11+4*nOf l)
def rd(l:List Int):T:=⟨rdN l (nOf l),uN l (5+4*nOf l),uN l (7+4*nOf l),uN l (9+4*nOf l)⟩
def zero:T:=⟨[],0,0,0⟩
def good(l:List Int):Bool:=FM l&&((rd l).is&&decide ((rd l).bytes=l))
def res(l:List Int):T:=if good l then rd l else zero
def err(l:List Int):Int:=if good l then 0 else 2
theorem yh(l:List D):(pq l).length=4*l.length:=by
 induction l with
 |nil=>rfl
 |cons d l ih=>simp only[pq,gK,bJ,dM]at ih ⊢;rw[ih];simp[oZ];omega
theorem T.qJ(t:T):t.bytes.length=11+4*t.ns.length:=by
 unfold T.bytes;simp only[bJ,yh,two,dM,fw];omega
theorem Rm(l:List Int)(k:Nat):(rdN l k).length=k:=by simp[rdN]
theorem lC(n a b:Int):wi n a b=true↔a<=n/\n<=b:=by simp[wi]
theorem C9(l:List D)(k:Nat):oks l k=true↔∀i,i<k->ok l i=true:=by simp[oks]
structure May(t:T):Prop where
 n4:4<=t.ns.length
 n8:t.ns.length<=8
 nodes:∀d∈t.ns,(0<=d.li/\d.li<=200)/\1<=d.sz/\d.sz<=8
 dr:0<=t.dr/\t.dr<=1000
 wi:0<=t.wi/\t.wi<=1000
 lm:0<=t.lm/\t.lm<=1000
theorem T.may{t:T}(h:t.is=true):May t:=by
 simp only[T.is,are,rest,bg,lC]at h;obtain⟨⟨⟨h1,h2⟩,h3,-⟩,⟨h4,h5⟩,⟨h6,h7⟩,h8,h9⟩:=h;rw[C9]at h3;refine⟨by omega,by omega,λd hd=>?_,⟨h4,h5⟩,⟨by omega,h7⟩,by omega,h9⟩;obtain⟨i,hi,rfl⟩:=List.mem_iff_getElem.1 hd;have:=h3 i hi;simp only[ok,bg,lC,ay,aP hi,fZ]at this;obtain⟨⟨⟨a,b⟩,c,d⟩,-⟩:=this;exact⟨⟨by omega,b⟩,c,d⟩
theorem nU{α:Type}(l m:List α)(i:Nat)(d:α)(h:i<l.length):(l++m).getD i d=l.getD i d:=by
 simp[ay,fM,h]
theorem yj{α:Type}(l m:List α)(i:Nat)(d:α)(h:l.length<=i):(l++m).getD i d=m.getD (i-l.length) d:=by
 simp[ay,fM,Nat.not_lt.2 h]
theorem Ro(l:List D)(i:Nat)(hi:i<l.length)(j:Nat)(hj:j<4):(pq l).getD (4*i+j) 0=(oZ (l.getD i default)).getD j 0:=by
 induction l generalizing i with
 |nil=>simp at hi
 |cons d l ih=>
  have e:pq (d::l)=oZ d++pq l:=by simp[pq]
  have hl:(oZ d).length=4:=rfl;rw[e]
  cases i with
  |zero=>rw[nU _ _ _ _ (by omega)];simp
  |succ i=>
   rw[yj _ _ _ _ (by omega)];have:=ih i (by simpa using hi);rw[show 4*(i+1)+j-(oZ d).length=4*i+j by omega,this];simp
theorem Rp(d:D)(hl:0<=d.li):dOf (flag d) (d.li / 256) (d.li%256) d.sz=d:=by
 obtain⟨sy,inf,li,sz⟩:=d;simp only at hl;have h2:li / 256*256+li%256=li:=by omega
 have h0:decide (flag ⟨sy,inf,li,sz⟩%2=1)=sy:=by cases sy<;>cases inf<;>simp[flag]
 have h1:decide (flag ⟨sy,inf,li,sz⟩ / 2%2=1)=inf:=by cases sy<;>cases inf<;>simp[flag]
 unfold dOf;rw[h0,h1];simp only[h2]
theorem nR(n:Int):(two n).getD 0 0*256+(two n).getD 1 0=n:=by
 simp only[two,eJ,eP];omega
theorem FP(t:T):t.bytes.getD 4 0=t.ns.length:=by
 unfold T.bytes;rw[nU _ _ _ _ (by simp),nU _ _ _ _ (by simp),nU _ _ _ _ (by simp),nU _ _ _ _ (by simp)]
 rfl
theorem Rq(t:T)(i:Nat)(hi:i<t.ns.length)(j:Nat)(hj:j<4):t.bytes.getD (5+4*i+j) 0=(oZ (t.ns.getD i default)).getD j 0:=by
 have hn:=yh t.ns;unfold T.bytes;have h5:([77,84,82,78,(t.ns.length:Int)]:List Int).length=5:=rfl;rw[nU _ _ _ _ (by simp only[bJ,hn,h5];omega),nU _ _ _ _ (by simp only[bJ,hn,h5];omega),nU _ _ _ _ (by simp only[bJ,hn,h5];omega),
  yj _ _ _ _ (by rw[h5];omega),h5,show 5+4*i+j-5=4*i+j by omega,Ro _ _ hi _ hj]
theorem Rt(t:T)(j:Nat):t.bytes.getD (5+4*t.ns.length+j) 0=(two t.dr++two t.wi++two t.lm).getD j 0:=by
 have hn:=yh t.ns;unfold T.bytes;have h5:([77,84,82,78,(t.ns.length:Int)]:List Int).length=5:=rfl;rw[List.append_assoc,List.append_assoc,yj _ _ _ _ (by simp only[bJ,hn,h5];omega)];simp only[bJ,hn,h5,List.append_assoc];rw[show 5+4*t.ns.length+j-(5+4*t.ns.length)=j by omega]
theorem FQ{t:T}(h:t.is=true):rd t.bytes=t:=by
 have hm:=T.may h;have hN:nOf t.bytes=t.ns.length:=by rw[nOf,FP];simp
 obtain⟨ns,dr,wi,lm⟩:=t;simp only at hN;have h1:rdN (T.bytes ⟨ns,dr,wi,lm⟩) ns.length=ns:=by
  apply fo
  intro i;by_cases hi:i<ns.length
  ·have hd:=hm.nodes (ns[i]) (dS hi)
   have e:=λj hj=>Rq ⟨ns,dr,wi,lm⟩ i hi j hj;have e0:=e 0 (by omega);rw[gC]at e0;have hg:ns.getD i default=ns[i]:=by simp[ay,aP hi]
   simp only[hg]at e e0;rw[rdN,dF,bW hi,aP hi];simp only[fK,dAt];rw[e0,e 1 (by omega),e 2 (by omega),e 3 (by omega)];exact dn some (Rp _ hd.1.1)
  ·rw[aY (by rw[Rm];omega),aY (by omega)]
 have e:=λj=>Rt ⟨ns,dr,wi,lm⟩ j;simp only at e;unfold rd uN;rw[hN,h1,show 7+4*ns.length=5+4*ns.length+2 by omega,show 9+4*ns.length=5+4*ns.length+4 by omega];simp only[fe]at e ⊢;have e0:=e 0;rw[gC]at e0;rw[e0,e,e,e,e,e];have h2:=nR dr;have h3:=nR wi;have h4:=nR lm;simp only[two,eJ,eP]at h2 h3 h4;simp only[two,gA,gJ,eJ,eP,h2,h3,h4,Nat.reduceAdd]
theorem Ru{t:T}(h:t.is=true):good t.bytes=true:=by
 have hb:=FQ h;have hn:nOf t.bytes=t.ns.length:=by rw[nOf,FP];simp
 have hl:=t.qJ;simp only[good,hb,h,FM,hn,hl,cK,bg,bC,gu];omega
theorem back{t:T}(h:t.is=true):res t.bytes=t/\err t.bytes=0:=by
 rw[res,err,Ru h];exact⟨FQ h,rfl⟩
theorem once{l:List Int}(h:err l=0):(res l).is=true/\(res l).bytes=l:=by
 rw[err]at h
 split at h
 ·rename_i hg
  rw[res,hg];simp only[good,bg,bC]at hg;exact⟨hg.2.1,hg.2.2⟩
 ·cases h
end Tb
section
open Go.RowKit
open Tb (D T)
def dc(d:D):List Value:=[↑d.sy,↑d.inf,↑d.li,↑d.sz]
def dV(d:D):Value:=.agg #[↑d.sy,↑d.inf,↑d.li,↑d.sz]
def jW(t:T)(v:Value):Value:=.agg #[v,↑t.dr,↑t.wi,↑t.lm]
structure AtD(w:World)(b off:Nat)(d:D):Prop where
 c0:w.cell? (b,off)=some ↑d.sy
 c1:w.cell? (b,off+1)=some ↑d.inf
 c2:w.cell? (b,off+2)=some ↑d.li
 c3:w.cell? (b,off+3)=some ↑d.sz
def lq(w:World)(B:Nat)(A:Option Addr)(l:List D):Prop:=
 0<l.length->∃b off,A=some ⟨b,off,none⟩/\b<B/\∀k,k<l.length->AtD w b (off+k*4) (l.getD k default)
structure jh(w:World)(B:Nat)(v:Value)(l:List D):Prop where
 at_:∃A c,v=.slice A l.length c/\l.length<=c/\c<=maxLen/\lq w B A l/\(A=none->l.length=0/\c=0)
def jm(w:World)(base:Nat)(v:Value)(l:List D):Prop:=w.ownsRow base 67 4 v l.length (l.flatMap dc)
section
variable {w w':World}{B B' Bs:Nat}{A:Option Addr}{v:Value}{l m:List D}
theorem AtD.keep{b off:Nat}{d:D}(h:AtD w b off d)(hk:∀o,w'.cell? ⟨b,o,none⟩=w.cell? ⟨b,o,none⟩):AtD w' b off d:=
 ⟨(hk _).trans h.c0,(hk _).trans h.c1,(hk _).trans h.c2,(hk _).trans h.c3⟩
theorem lq.keep(h:lq w B A l)(hk:∀b o,b<B->w'.cell? ⟨b,o,none⟩=w.cell? ⟨b,o,none⟩):lq w' B A l:=λh0=>by
 obtain⟨b,off,e,hb,hc⟩:=h h0;exact⟨b,off,e,hb,λk hlt=>(hc k hlt).keep λo=>hk b o hb⟩
theorem lq.below(h:lq w B A l)(hb:Below B w w'):lq w' B A l:=h.keep λb o hp=>hb.cell (p:=(b,o)) hp
theorem lq.more(h:lq w B A l)(hB:B<=B'):lq w B' A l:=λh0=>by
 obtain⟨b,off,e,hb,hc⟩:=h h0;exact⟨b,off,e,by omega,hc⟩
theorem jh.below(h:jh w B v l)(hb:Below B w w'):jh w' B v l:=⟨by
 obtain⟨A,c,rfl,h1,h2,h3,h4⟩:=h.at_;exact⟨A,c,rfl,h1,h2,h3.below hb,h4⟩⟩
theorem jh.more(h:jh w B v l)(hB:B<=B'):jh w B' v l:=⟨by
 obtain⟨A,c,rfl,h1,h2,h3,h4⟩:=h.at_;exact⟨A,c,rfl,h1,h2,h3.more hB,h4⟩⟩
theorem CM(l:List D)(k:Nat)(hk:k<l.length)(j:Nat)(hj:j<4):(l.flatMap dc)[k*4+j]?=(dc (l.getD k default))[j]?:=by
 induction l generalizing k with
 |nil=>simp at hk
 |cons d l ih=>
  have h4:(dc d).length=4:=rfl;rw[gK]
  cases k with
  |zero=>rw[gV (by omega)];simp
  |succ k=>
   rw[gN (by omega),h4,show(k+1)*4+j-4=k*4+j by omega,ih k (by simpa using hk)];simp
theorem CK(l:List D):(l.flatMap dc).length=l.length*4:=by
 induction l with
 |nil=>rfl
 |cons d l ih=>rw[gK,bJ,ih];simp[dc];omega
theorem jm.atD{g n c:Nat}(h:jm w Bs (.slice (some (g,0)) n c) l)(hn:n=l.length)(k:Nat)(hk:k<l.length):AtD w g (k*4) (l.getD k default):=by
 subst hn;have e:=λj(hj:j<4)=>(gO h (k*4+j) (by omega)).trans (CM l k hk j hj);exact⟨by have:=e 0 (by omega);rw[gC]at this;exact this,e 1 (by omega),e 2 (by omega),e 3 (by omega)⟩
theorem jm.form(h:jm w Bs v l):(v=.slice none 0 0/\l.length=0)\/∃g c,v=.slice (some ⟨g,0,none⟩) l.length c/\Bs<=g/\g<w.heap.size/\l.length<=c/\c<=maxLen:=by
 rcases h.2 with h1|⟨g,cap,cur,h1,h2,h3,h4,h5,-⟩
 ·exact .inl h1
 ·exact .inr ⟨g,cap,h1,h2,(bT.1 h3).1,h4,h5⟩
theorem jm.sees(h:jm w Bs v l):jh w w v l:=⟨by
 rcases h.form with⟨rfl,h0⟩|⟨g,c,rfl,h1,h2,h3,h4⟩
 ·exact⟨none,0,by rw[h0],by omega,by unfold maxLen;omega,λh=>absurd h (by omega),λ_=>⟨h0,rfl⟩⟩
 ·exact⟨_,c,rfl,h3,h4,λ_=>⟨g,0,rfl,h2,λk hk=>by rw[bU];exact jm.atD h rfl k hk⟩,λh=>by cases h⟩⟩
theorem jm.nil:jm w Bs (.slice none 0 0) []:=dX _ _ _ _
theorem jm.base(h:jm w Bs v l)(hB:B<=Bs):jm w B v l:=by
 refine⟨h.1,?_⟩;rcases h.2 with h|⟨g,cap,cur,h1,h2,h3⟩
 ·exact .inl h
 ·exact .inr ⟨g,cap,cur,h1,by omega,h3⟩
theorem jm.below(h:jm w Bs v l)(hb:Below B' w w')(hB:w.heap.size<=B'):jm w' Bs v l:=
 cB (row:=none) h ⟨hb.os,hb.tape,hb.output,hb.size,λk hk _=>hb.block k (by omega)⟩ (by
  rcases h.2 with⟨rfl,_⟩|⟨g,cap,cur,rfl,_⟩
  ·exact .inl rfl
  ·exact .inr (by simp[Value.ownBlock]))
theorem jm.alloc(h:jm w Bs v l)(o:Obj):jm (w.alloc o) Bs v l:=eH h o
end
end
section
open Go.RowKit
open Tb (D T)
theorem FC(n a b:Int)(w:World):Calls Tryz.prog 85 #[↑n,↑a,↑b] w λe w'=>e=.returned ↑(Tb.wi n a b)/\w=w':=by
 unfold Tb.wi;by_cases h:a<=n
 all_goals
  go_enter Tryz.func85,Tryz.ntmps85
  go_wp2;go_ret;exact⟨by simp[*]<;>omega,rfl⟩
theorem Q6(n a b:Int)(w:World):Calls Tryz.prog 61 #[↑n,↑a,↑b] w λe w'=>e=.returned ↑(Tb.wi n a b)/\w=w':=by
 unfold Tb.wi;by_cases h:a<=n
 all_goals
  go_enter Tryz.func61,Tryz.ntmps61
  go_wp2;go_ret;exact⟨by simp[*]<;>omega,rfl⟩
theorem Q7(d:D)(n:Int)(q:Nat)(w:World)(hq:w.cell? (q,0)=some ↑n):
  Calls Tryz.prog 188 #[dV d,↑(q,0)] w λe w'=>e=.returned ↑(decide (d.li=n))/\Below w w w':=by
 unfold dV;have hq2:=λo=>bn o hq
 go_enter Tryz.func188,Tryz.ntmps188
 go_wp2;go_ret;exact⟨rfl,(ah _ _).alloc lr _⟩
theorem Q8(A:Option Addr)(c:Nat)(l:List D)(n:Int)(q:Nat)(w:World)(hs:lq w w A l)(hlen:l.length<=c)(hc:c<=maxLen)(hq:w.cell? (q,0)=some ↑n):
  Calls Tryz.prog 214 #[.slice A l.length c,.func (.func 188) #[] #[↑(q,0)]] w λe w'=>
   ∃r:Int,e=.returned ↑r/\decide (0<=r)=Tb.has l l.length n/\Below w w w':=by
 have Q9:=gh w _ hq;unfold maxLen at hc;have h0:=af (Tb.FE l n);have hS:=af (Tb.FG l)
 go_enter Tryz.func214,Tryz.ntmps214
 go_wp2
 go_loopw [8] (λi wr=>∃k:Nat,k<=l.length/\i=↑k/\Hid (Tb.has l k n=false)/\Below w w wr) (λi _=>l.length-(intOf i).toNat)
 case atStart=>exact⟨0,by omega,rfl,h0,ah _ _⟩
 case round=>
  obtain⟨k,hk,rfl,hn,hb⟩:=hrel;by_cases hlt:k<l.length
  ·obtain⟨b,off,rfl,hbb,hd⟩:=hs.below hb (by omega)
   obtain⟨e0,e1,e2,e3⟩:=hd k hlt;have q1:decide ((k:Int)<(l.length:Nat))=true:=by simp;omega
   have hq2:=(hb.cell (p:=(q,0)) Q9).trans hq;have hcall:=af (Q7 (l.getD k default) n q wr hq2);unfold dV at hcall;generalize hdd:l.getD k default=d at *;have hdd:=af hdd
   cases hdn:decide (d.li=n)
   all_goals
    rw[hdn]at hcall;go_wp2_with fail;refine hcall.o.mono ?_;rintro e w1 ⟨rfl,hb1⟩;have hb2:=hb.trans (hb1.mono hb.size);clear hcall;go_wp2
   ·go_roundw
    case rel=>exact⟨k+1,by omega,by go_num,af (by rw[hS.o k hlt,hn.o,hdd.o];exact hdn),hb2⟩
    case measure=>simp[intOf];omega
   ·go_ret
    refine⟨k,rfl,?_,hb2⟩;have hT:Tb.has l (k+1) n=true:=by rw[hS.o k hlt,hdd.o,hdn];simp
    rw[Tb.Ra hlt hT];simp
  ·obtain rfl:k=l.length:=by omega
   have q1:decide ((l.length:Int)<(l.length:Nat))=false:=by simp
   go_wp2;go_ret;exact⟨-1,rfl,by rw[hn.o];decide,hb⟩
theorem Rb(A:Option Addr)(c:Nat)(l:List D)(n:Int)(q:Nat)(w:World)(hs:lq w w A l)(hlen:l.length<=c)(hc:c<=maxLen)(hq:w.cell? (q,0)=some ↑n):
  Calls Tryz.prog 187 #[.slice A l.length c,.func (.func 188) #[] #[↑(q,0)]] w λe w'=>
   e=.returned ↑(Tb.has l l.length n)/\Below w w w':=by
 have hI:=af (Q8 A c l n q w hs hlen hc hq);generalize Tb.has l l.length n=h at *
 go_enter Tryz.func187,Tryz.ntmps187
 go_wp2_with fail;refine hI.o.mono ?_;rintro e w1 ⟨r,rfl,hr,hb⟩;have hr2:decide (r>=0)=h:=by rw[<-hr]
 clear hI;go_wp2;go_ret;exact⟨by simp[<-hr],hb⟩
theorem Rc(A:Option Addr)(c:Nat)(l:List D)(n:Int)(w:World)(hs:lq w w A l)(hlen:l.length<=c)(hc:c<=maxLen):
  Calls Tryz.prog 139 #[.slice A l.length c,↑n] w λe w'=>e=.returned ↑(Tb.has l l.length n)/\Below w w w':=by
 have hb0:=(ah w w).alloc lr (.cells #[↑n] 3);have hI:=Rb A c l n w (w.alloc (.cells #[↑n] 3)) ((hs.below hb0).more (by simp)) hlen hc (by rw[aZ _ _ _ _ rfl];rfl);have hI:=af hI;have hmf:∀(fn:Fn)(first cap:Array Value)(w:World),(Instr.makeFunc fn first cap).run Tryz.prog w=.ok (.func fn first cap) w:=λ_ _ _ _=>rfl;generalize Tb.has l l.length n=h at *
 go_enter Tryz.func139,Tryz.ntmps139
 go_wp2_with fail;refine hI.o.mono ?_;rintro e w1 ⟨rfl,hb⟩;have hb1:=hb0.trans (hb.mono (by simp));clear hI;go_wp2;go_ret;exact⟨rfl,hb1⟩
end
section
set_option maxRecDepth 100000
set_option maxHeartbeats 2000000
open Go.RowKit
open Tb (D T)
structure Rf(w w0:World)(x0 x1 x2 x3:Value):Prop where
 size:w0.heap.size=w.heap.size+1
 below:Below w w w0
 cell:∀W,Below w0 w0 W->w.heap.size<W.heap.size/\W.cell? (w,0)=some x0/\W.cell? (w,1)=some x1/\W.cell? (w,2)=some x2/\W.cell? (w,3)=some x3
theorem Rh{W w1:World}{B:Nat}(hb:Below B W w1):∀b o,b<B->w1.cell? ⟨b,o,none⟩=W.cell? ⟨b,o,none⟩:=λb o h=>hb.cell (p:=⟨b,o,none⟩) h
theorem rL(w:World)(x0 x1 x2 x3:Value)(t:TypeId):Rf w (w.alloc (.cells #[x0,x1,x2,x3] t)) x0 x1 x2 x3:=by
 refine⟨by simp,(ah _ _).alloc lr _,λW hb=>?_⟩;have hz:=hb.size;have hc:=Rh hb;simp only[gy]at hz;refine⟨by omega,?_,?_,?_,?_⟩<;>(rw[hc _ _ (by simp),aZ _ _ _ _ rfl];rfl)
theorem Ri(A:Option Addr)(c:Nat)(l:List D)(w:World)(hs:lq w w A l)(hlen:l.length<=c)(hc:c<=maxLen):
  Calls Tryz.prog 84 #[.slice A l.length c] w λe w'=>e=.returned ↑(Tb.are l)/\Below w w w':=by
 have hin:=λn a b W=>af (FC n a b W);have hli:=λk(_:k<l.length)n W(hb:Below w w W)=>Rc A c (l.take k) n W;have hc':=hc;unfold maxLen at hc;unfold Tb.are
 cases hn:Tb.wi l.length 4 8
 ·have h1:=af hn
  clear hn
  go_enter Tryz.func84,Tryz.ntmps84
  go_wp2_with fail;refine(hin _ _ _ _).o.mono ?_;rintro e w1 ⟨rfl,rfl⟩;rw[h1.o];go_wp2;go_ret;exact⟨by simp,ah _ _⟩
 ·have h1:=af hn
  have hn8:l.length<=8:=by have:=(Tb.lC _ _ _).1 hn;omega
  have hn4:4<=l.length:=by have:=(Tb.lC _ _ _).1 hn;omega
  clear hn
  go_enter Tryz.func84,Tryz.ntmps84
  go_wp2_with fail;refine(hin _ _ _ _).o.mono ?_;rintro e w1 ⟨rfl,rfl⟩;rw[h1.o];go_wp2;have hS:=af (Tb.FH l);have hbad:=λk hk h=>af (Tb.FI (l:=l) (k:=k) hk h);have hsy:=af (Tb.x9 l)
  go_loopw [3,12] (λs i wr=>∃k:Nat,k<=l.length/\i=↑k/\s=↑(Tb.syn l k)/\Hid (Tb.oks l k=true)/\Below w w wr) (λ_ i _=>l.length-(intOf i).toNat)
  case atStart=>exact⟨0,by omega,rfl,rfl,rfl,ah _ _⟩
  case round=>
   obtain⟨k,hk,rfl,rfl,hok,hb⟩:=hrel;have hsk:=hsy.o k;by_cases hlt:k<l.length
   ·obtain⟨b,off,rfl,hbb,hd⟩:=hs.below hb (by omega)
    obtain⟨e0,e1,e2,e3⟩:=hd k hlt;have q1:decide ((k:Int)<(l.length:Nat))=true:=by simp;omega
    have hL:=hli k hlt (l.getD k default).li;have htl:(l.take k).length=k:=by rw[cQ];omega
    have hhas:=Tb.Rj l k (by omega) (l.getD k default).li;rw[htl]at hL hhas;have lW:Tb.ok l k=(Tb.wi (l.getD k default).li (2*l.length) 200&&Tb.wi (l.getD k default).sz 1 8&&!Tb.has l k (l.getD k default).li):=rfl;rw[hhas]at hL;have rM:Tb.syn l (k+1)=Tb.syn l k+(if(l.getD k default).sy then 1 else 0):=rfl;generalize rN:l.getD k default=d at *;have hdd:=af rN;have rO:=af rM;clear hhas rN rM;generalize Tb.has l k d.li=h at *;have iO:=af (rL wr ↑d.sy ↑d.inf ↑d.li ↑d.sz 67);have hb0:=hb.trans (iO.o.below.mono hb.size);have hm2:IntKind.i64.wrap (2*(l.length:Int))=2*l.length:=aO _ (by omega);have hq:∀n a b t,Tb.wi n a b=t->∀W,Hid (Calls Tryz.prog 85 #[.int .i64 n,.int .i64 a,.int .i64 b] W λe w'=>e=.returned (.bool t)/\w'=W):=by
     rintro n a b t rfl W;exact(hin n a b W).o.mono λe w' h=>⟨h.1,h.2.symm⟩
    cases ha:Tb.wi d.li (2*l.length) 200
    ·have hA:=hq _ _ _ _ ha
     have hfin:=hbad k hlt (by rw[lW,ha];rfl);go_wp2_with fail;generalize wr.alloc (.cells #[↑d.sy,↑d.inf,↑d.li,↑d.sz] 67)=w0 at *;obtain⟨hz,c0,c1,c2,c3⟩:=iO.o.cell w0 (ah _ _);clear hs hd hL hli hbad hS hsy iO e0 e1 e2 e3 ha hq hin
     go_quiet (first|(go_at_call 85;refine bI (hA _).o))
     go_wp2;go_ret;exact⟨by rw[hfin.o];simp,aC hb0 _⟩
    ·cases hz:Tb.wi d.sz 1 8
     ·have hA:=hq _ _ _ _ ha
      have hZ:=hq _ _ _ _ hz;have hfin:=hbad k hlt (by rw[lW,ha,hz];rfl);go_wp2_with fail;generalize wr.alloc (.cells #[↑d.sy,↑d.inf,↑d.li,↑d.sz] 67)=w0 at *;obtain⟨hz,c0,c1,c2,c3⟩:=iO.o.cell w0 (ah _ _);clear hs hd hL hli hbad hS hsy iO e0 e1 e2 e3 ha hq hin
      go_quiet (first|(go_at_call 85;first|with_reducible refine bI (hA _).o|refine bI (hZ _).o))
      go_wp2;go_ret;exact⟨by rw[hfin.o];simp,aC hb0 _⟩
     ·have hA:=af ha
      have hZ:=af hz;have rP:=af (show Tb.ok l k=!h by rw[lW,ha,hz];simp);clear ha hz lW hq;go_wp2_with fail;clear e0 e1 e2 e3;generalize wr.alloc (.cells #[↑d.sy,↑d.inf,↑d.li,↑d.sz] 67)=w0 at *;have K:=af (show ∀W,Below w0 w0 W->W.cell? (wr,2)=some ↑d.li/\W.cell? (wr,3)=some ↑d.sz from λW h=>(iO.o.cell W h).2.2.2);have yc:=ah w0 w0;have hL2:∀W,Below w w W->Hid (Calls Tryz.prog 139 #[.slice (some (b,off)) k c,↑d.li] W λe w'=>e=.returned ↑h/\Below W W w'):=λW hbw=>hL W hbw (lq.more (λh0=>by
       obtain⟨b',off',hA',hb',hc'⟩:=(hs.below hbw) (by omega);refine⟨b',off',hA',hb',λj hj=>?_⟩;have:=hc' j (by rw[htl]at hj;omega);rw[htl]at hj;have e:(l.take k).getD j default=l.getD j default:=by simp[ay,hj]
       rw[e];exact this) hbw.size) (by omega) hc'
      clear hL hli hs hd;have q2:(0:Int)<=(k:Nat):=by omega
      have q3:((k:Nat):Int)<=(c:Nat):=by omega
      have q4:IntKind.i64.wrap (k:Nat)=k:=aO _ (by omega)
      cases h
      all_goals
       go_region_held3 (λW=>W.cell? (wr,2)=some ↑d.li/\W.cell? (wr,3)=some ↑d.sz)
        ((refine K.o _ ?_;repeat' (first|exact hb3|exact yc|(with_reducible refine bL ?_))))
        (first
         |((go_at_call 85;refine(hin _ _ _ _).o.mono ?_;rintro e w3 ⟨rfl,rfl⟩;(first|rw[hA.o]|rw[hZ.o])))
         |((go_at_call 139;refine(hL2 _ ?_).o.mono ?_);(repeat' (first|exact hb0|(with_reducible refine bL ?_)));rintro e w3 ⟨rfl,hb⟩;have hb3:=yc.drew.trans (hb.mono yc.size))
         |fail)
      ·have nD:=hS.o k
       rw[hok.o,rP.o]at nD;have nD:=af nD;have c0:=(iO.o.cell _ hb3).2.1;go_wp2_with fail
       all_goals
        refine⟨⟨k+1,by omega,by go_num,?_,af (by rw[nD.o];rfl),hb0.trans (hb3.mono hb0.size)⟩,by simp[intOf];omega⟩;rw[rO.o];simp[*]
      ·have hfin:=hbad k hlt (by rw[rP.o];rfl)
       go_wp2;go_ret;exact⟨by rw[hfin.o];simp,hb0.trans (hb3.mono hb0.size)⟩
   ·obtain rfl:k=l.length:=by omega
    have q1:decide ((l.length:Int)<(l.length:Nat))=false:=by simp
    have hle:=hsy.o l.length;go_wp2;go_ret;exact⟨by rw[hok.o];simp;omega,hb⟩
end
section
open Go.RowKit
open Tb (D T)
section
variable {W W':World}{g:Nat}{cs:Array Value}{t:TypeId}
theorem Blk.ext(h:Blk W g cs t){v v':Value}(hx:Ext W W' v v')(hne:v.ownBlock≠some g):Blk W' g cs t:=(hx.grown.block g h.lt (λe=>hne e.symm)).trans h
end
theorem jm.setOther{W:World}{B:Nat}{v:Value}{l:List D}(h:jm W B v l)(p:Addr)(x:Value)(hp:v.ownBlock≠some p.block):jm (W.setCell p x) B v l:=
 cB (row:=some p.block) h ⟨rfl,rfl,rfl,by simp[World.setCell],λk _ hk=>dR W p x k (λe=>hk (by rw[e]))⟩ (.inr hp)
theorem jm.lt{w:World}{B:Nat}{v:Value}{l:List D}(h:jm w B v l):∀j,v.ownBlock=some j->B<=j/\j<w.heap.size:=dL h
end
section
open Go.ChangeShapes Go.WideShapes Go.ChangeAt Go.RowKit
theorem oh:(Tryz.prog.info? 3).map (λi=>(i.zero,i.size,i.bytes))=some (some ↑(0:Int),1,8):=by kernel_rfl
def iv(l:List Int)(k:Nat):Value:=↑(l.getD k 0)
def jg(w:World)(base:Nat)(v:Value)(l:List Int):Prop:=iP w base 3 v l.length (iv l)
structure ja(w:World)(B:Nat)(v:Value)(l:List Int):Prop where
 at_:∃A c,v=.slice A l.length c/\l.length<=c/\c<=maxLen/\iY w B A l.length (iv l)/\(A=none->l.length=0/\c=0)
section
variable {w w':World}{B B' Bs:Nat}{v:Value}{l m:List Int}
theorem jg.sees(h:jg w Bs v l):ja w w v l:=⟨by
 obtain⟨A,c,rfl,h1,h2,h3,h4⟩:=iP.BP h;exact⟨A,c,rfl,h1,h2,h3,h4⟩⟩
theorem ja.below(h:ja w B v l)(hb:Below B w w'):ja w' B v l:=⟨by
 obtain⟨A,c,rfl,h1,h2,h3,h4⟩:=h.at_;exact⟨A,c,rfl,h1,h2,h3.below hb,h4⟩⟩
theorem ja.more(h:ja w B v l)(hB:B<=B'):ja w B' v l:=⟨by
 obtain⟨A,c,rfl,h1,h2,h3,h4⟩:=h.at_;exact⟨A,c,rfl,h1,h2,h3.more hB,h4⟩⟩
theorem ja.nil:ja w B (.slice none 0 0) []:=⟨none,0,rfl,aR _,bH _,iH,λ_=>⟨rfl,rfl⟩⟩
theorem jg.nil:jg w Bs (.slice none 0 0) []:=dX _ _ _ _
theorem jg.base(h:jg w Bs v l)(hB:B<=Bs):jg w B v l:=by
 refine⟨h.1,?_⟩;rcases h.2 with h|⟨g,cap,cur,h1,h2,h3⟩
 ·exact .inl h
 ·exact .inr ⟨g,cap,cur,h1,by omega,h3⟩
theorem jg.below(h:jg w Bs v l)(hb:Below B' w w')(hB:w.heap.size<=B'):jg w' Bs v l:=iP.BQ h hb hB
theorem jg.alloc(h:jg w Bs v l)(o:Obj):jg (w.alloc o) Bs v l:=eH h o
theorem Ka(l m:List Int)(k:Nat):(if k<l.length then iv l k else iv m (k-l.length))=iv (l++m) k:=by
 unfold iv;simp only[ay,fM]
 split<;>rfl
end
theorem tE(w:World)(e:TypeId)(cs:Array Value)(l:List Int)(hl:cs=(l.map (Value.int .i64)).toArray)(B:Nat)(hB:w.heap.size<B)(hm:l.length<=maxLen)(g n c:Nat)(hg:g=w.heap.size)(hn:n=l.length)(hc:c=l.length):
  ja (w.alloc (.cells cs e)) B (.slice (some (g,0)) n c) l:=⟨some (g,0),c,by rw[hn],by omega,by omega,λ_=>⟨g,0,rfl,by omega,λk hk=>by
  rw[bU,aZ _ _ _ _ hg,hl];unfold iv;simp[ay,hk]⟩,λh=>by cases h⟩
section
variable {w w1 w2:World}{v v1 v2:Value}{B B':Nat}
end
theorem jg.lt{w:World}{B:Nat}{v:Value}{l:List Int}(h:jg w B v l):∀j,v.ownBlock=some j->B<=j/\j<w.heap.size:=dL h
section
variable {P:Program}(w:World){ops:Array Oper}{rest:List Oper}{o:Oper}{a:Act}{K:Act->World->Prop}{Q:Exit->Act->World->Prop}
theorem ja.src{w:World}{B:Nat}{u:Value}{m:List Int}(h:ja w B u m):Src w u 1 m.length ((List.range m.length).map (iv m)):=by
 obtain⟨A,c,rfl,-,-,h3,h4⟩:=h.at_
 cases A with
 |none=>
  obtain⟨h5,h6⟩:=h4 rfl;subst h6;exact .inl ⟨by rw[h5],h5,by rw[h5];rfl⟩
 |some ad=>
  refine .inr ⟨ad,c,rfl,by simp,λj x hj=>?_,λx hx=>?_⟩
  ·rw[dF]at hj
   by_cases hjm:j<m.length
   ·rw[bW hjm]at hj
    simp at hj;subst hj;obtain⟨b,off,he,_,hc⟩:=h3 (by omega);simp only[bB]at he;subst he;have:=hc j hjm;by_cases h1:j=0
    ·subst h1;simpa[Addr.add]using this
    ·simpa[Addr.add,h1]using this
   ·rw[aY (by simpa using hjm)]at hj
    cases hj
  ·obtain⟨k,hk,rfl⟩:=fC.1 hx
   rfl
theorem jg.joined{w:World}{B:Nat}{v:Value}{l m:List Int}(h:w.ownsRow B 3 1 v (l.length+m.length) ((List.range l.length).map (iv l)++(List.range m.length).map (iv m))):jg w B v (l++m):=by
 unfold jg iP;rw[bJ];have e:(List.range (l.length+m.length)).map (iv (l++m))=(List.range l.length).map (iv l)++(List.range m.length).map (iv m):=by
  rw[<-rV];exact dK λk _=>(Ka l m k).symm
 rw[e];exact h
theorem Kb(s x:Operand)(t:TypeId)(ho:o.op=.call {callee:=.builtin .append,args:=#[s,x],argTypes:=#[t,t]})
  (B:Nat) (jM:(P.info? 3).map (λi=>(i.zero,i.size,i.bytes))=some (some ↑(0:Int),1,8)) (ht:P.underlying t=some (.slice 3))
  (v:Value) (l:List Int) (hown:jg w B v l) (hs:a.eval s=v) (Bs:Nat) (u:Value) (m:List Int) (hx:a.eval x=u) (kI:ja w Bs u m)
  (hB:B<=w.heap.size) (hroom:(l.length+m.length)*8<=140737488355328)
  (h:∀v' w',jg w' B v' (l++m)->Ext w w' v v'->K (a.put o.dst v') w'):o.wp P a w K Q:=
 vz w s x t ho B 3 ↑(0:Int) 1 8 jM rfl (by omega) ht v l.length _ hown hs u m.length _ hx kI.src hB (by unfold maxLen;omega) (by omega) λv' w' h1 h2=>h v' w' (jg.joined h1) h2
theorem pE(hgd:o.guard=none)(s x:Operand)(t:TypeId)(ho:o.op=.call {callee:=.builtin .append,args:=#[s,x],argTypes:=#[t,t]})
  (B:Nat) (jM:(P.info? 3).map (λi=>(i.zero,i.size,i.bytes))=some (some ↑(0:Int),1,8)) (ht:P.underlying t=some (.slice 3))
  (v:Value) (l:List Int) (hown:jg w B v l) (hs:a.eval s=v) (Bs:Nat) (u:Value) (m:List Int) (hx:a.eval x=u) (kI:ja w Bs u m)
  (hB:B<=w.heap.size) (hroom:(l.length+m.length)*8<=140737488355328)
  (h:∀v' w',jg w' B v' (l++m)->Ext w w' v v'->wpList P ops Q rest (a.put o.dst v') w'):wpList P ops Q (o::rest) a w:=
 wpList_plain hgd λ_ hK=>Kb w s x t ho B jM ht v l hown hs Bs u m hx kI hB hroom λv' w' h1 h2=>hK _ _ (h v' w' h1 h2)
end
section
variable {P:Program}(w:World){ops:Array Oper}{rest:List Oper}{o:Oper}{a:Act}{K:Act->World->Prop}{Q:Exit->Act->World->Prop}
end
theorem ja.alloc{w:World}{B:Nat}{v:Value}{l:List Int}(h:ja w B v l)(o:Obj):ja (w.alloc o) B v l:=⟨by
 obtain⟨A,c,rfl,h1,h2,h3,h4⟩:=h.at_;refine⟨A,c,rfl,h1,h2,λh0=>?_,h4⟩;obtain⟨b,off,e,hb,hc⟩:=h3 h0;exact⟨b,off,e,hb,λk hk=>bn o (hc k hk)⟩⟩
theorem uV(w:World)(e:TypeId)(he:e=3)(B g:Nat)(hB:B<=w.heap.size)(hg:g=w.heap.size):jg (w.alloc (.cells #[] e)) B (.slice (some (g,0)) 0 0) []:=by
 subst he hg;exact gD w #[] 0 hB (by unfold maxLen;omega) rfl
section
variable {W W':World}{g:Nat}{cs:Array Value}{t:TypeId}
end
theorem jg.cell{w:World}{B g n c:Nat}{l:List Int}(h:jg w B (.slice (some (g,0)) n c) l)(hn:n=l.length){i:Nat}(hi:i<l.length):w.cell? (g,i)=some ↑(l.getD i 0):=by
 subst hn;exact iP.cell h hi
theorem jg.frozen{w:World}{B g n c:Nat}{l:List Int}(h:jg w B (.slice (some (g,0)) n c) l)(hn:n=l.length)(i:Nat):w.frozen? (g,i)=false:=by
 subst hn;exact iP.frozen h i
theorem jg.set{w:World}{B g n c:Nat}{l:List Int}(h:jg w B (.slice (some (g,0)) n c) l)(hn:n=l.length)(i:Nat)(x:Int)(hi:i<l.length):jg (w.setCell (g,i) ↑x) B (.slice (some (g,0)) n c) (l.set i x):=by
 subst hn;have:=iP.j5 h i ↑x (V':=iv (l.set i x)) (by simp[iv,ay,hi]) (λj _ hj=>by simp[iv,ay,dU (dH hj)]);unfold jg;rw[List.length_set];exact this
end
section
namespace Clk
def iM:List Int->Int
 |[]=>0
 |x::l=>x+iM l
def lR:List Int->Int
 |[]=>0
 |x::l=>l.foldl min x
def lS:List Int->Int
 |[]=>0
 |x::l=>l.foldl max x
def avg(l:List Int):Int:=
 if l.length=0 then 0 else if l.length<3 then iM l / (l.length:Int)else(iM l-lR l-lS l) / ((l.length:Int)-2)
def sorted(l:List Int):Prop:=∀p q,p<q->q<l.length->l.getD p 0<=l.getD q 0
theorem qy(l m:List Int):iM (l++m)=iM l+iM m:=by
 induction l with
 |nil=>simp[iM]
 |cons x l ih=>simp[iM,ih];omega
theorem He{l m:List Int}(h:l.Perm m):iM l=iM m:=by
 induction h with
 |nil=>rfl
 |cons x _ ih=>simp[iM,ih]
 |swap x y l=>simp[iM];omega
 |trans _ _ h1 h2=>exact h1.trans h2
theorem Hf(l:List Int)(a:Int):l.foldl min a<=a/\∀x∈l,l.foldl min a<=x:=by
 induction l generalizing a with
 |nil=>simp
 |cons y l ih=>
  obtain⟨h1,h2⟩:=ih (min a y);refine⟨by simp only[dI];omega,λx hx=>?_⟩;simp only[dI];rcases bq.1 hx with rfl|hx
  ·omega
  ·exact h2 x hx
theorem ze(l:List Int)(a:Int):l.foldl min a=a\/l.foldl min a∈l:=by
 induction l generalizing a with
 |nil=>simp
 |cons y l ih=>
  simp only[dI,bq];rcases ih (min a y)with h|h
  ·rw[h];omega
  ·exact .inr (.inr h)
theorem Hg(l:List Int)(a:Int):a<=l.foldl max a/\∀x∈l,x<=l.foldl max a:=by
 induction l generalizing a with
 |nil=>simp
 |cons y l ih=>
  obtain⟨h1,h2⟩:=ih (max a y);refine⟨by simp only[dI];omega,λx hx=>?_⟩;simp only[dI];rcases bq.1 hx with rfl|hx
  ·omega
  ·exact h2 x hx
theorem zf(l:List Int)(a:Int):l.foldl max a=a\/l.foldl max a∈l:=by
 induction l generalizing a with
 |nil=>simp
 |cons y l ih=>
  simp only[dI,bq];rcases ih (max a y)with h|h
  ·rw[h];omega
  ·exact .inr (.inr h)
theorem zl{l:List Int}(h:l≠[]):lR l∈l/\∀x∈l,lR l<=x:=by
 cases l with
 |nil=>exact absurd rfl h
 |cons y l=>
  obtain⟨h1,h2⟩:=Hf l y;refine⟨?_,λx hx=>?_⟩
  ·rcases ze l y with h|h
   ·show l.foldl min y∈y::l;rw[h];simp
   ·exact aT _ h
  ·rcases bq.1 hx with rfl|hx
   ·exact h1
   ·exact h2 x hx
theorem zm{l:List Int}(h:l≠[]):lS l∈l/\∀x∈l,x<=lS l:=by
 cases l with
 |nil=>exact absurd rfl h
 |cons y l=>
  obtain⟨h1,h2⟩:=Hg l y;refine⟨?_,λx hx=>?_⟩
  ·rcases zf l y with h|h
   ·show l.foldl max y∈y::l;rw[h];simp
   ·exact aT _ h
  ·rcases bq.1 hx with rfl|hx
   ·exact h1
   ·exact h2 x hx
theorem Hj{l m:List Int}(h:l.Perm m):lR l=lR m:=by
 by_cases h0:l=[]
 ·subst h0;rw[h.symm.eq_nil]
 have h1:m≠[]:=λe=>h0 (by subst e;exact h.eq_nil);obtain⟨a,b⟩:=zl h0;obtain⟨c,d⟩:=zl h1;have:=b _ (h.symm.mem_iff.1 c);have:=d _ (h.mem_iff.1 a);omega
theorem Hl{l m:List Int}(h:l.Perm m):lS l=lS m:=by
 by_cases h0:l=[]
 ·subst h0;rw[h.symm.eq_nil]
 have h1:m≠[]:=λe=>h0 (by subst e;exact h.eq_nil);obtain⟨a,b⟩:=zm h0;obtain⟨c,d⟩:=zm h1;have:=b _ (h.symm.mem_iff.1 c);have:=d _ (h.mem_iff.1 a);omega
theorem G7{l m:List Int}(h:l.Perm m):avg l=avg m:=by
 unfold avg;rw[He h,Hj h,Hl h,h.length_eq]
def swp(l:List Int)(j:Nat):List Int:=(l.set j (l.getD (j-1) 0)).set (j-1) (l.getD j 0)
theorem zn(l:List Int)(j k:Nat)(h0:0<j)(hj:j<l.length):(swp l j).getD k 0=if k=j-1 then l.getD j 0 else if k=j then l.getD (j-1) 0 else l.getD k 0:=by
 unfold swp;simp only[ay,List.getElem?_set,List.length_set];by_cases h1:k=j-1
 ·subst h1;simp[show j-1<l.length by omega]
 ·rw[ai (λh=>h1 h.symm),ai h1]
  by_cases h2:k=j
  ·subst h2;simp[hj]
  ·rw[ai (λh=>h2 h.symm),ai h2]
theorem GU(l:List Int)(j:Nat)(h0:0<j)(hj:j<l.length):(swp l j).Perm l:=by
 obtain⟨i,rfl⟩:∃i,j=i+1:=⟨j-1,by omega⟩;unfold swp;simp only[Nat.add_sub_cancel]
 induction l generalizing i with
 |nil=>simp at hj
 |cons x l ih=>
  cases i with
  |zero=>
   cases l with
   |nil=>simp at hj
   |cons y l=>simpa using List.Perm.swap x y l
  |succ i=>
   simp only[dM,Nat.add_lt_add_iff_right]at hj;have:=ih i (by omega) hj;simpa using List.Perm.cons x this
def inz(l:List Int)(i j:Nat):Prop:=∀p q,p<q->q<=i->q≠j->l.getD p 0<=l.getD q 0
theorem GQ{l:List Int}{i:Nat}(h:∀p q,p<q->q<i->l.getD p 0<=l.getD q 0):inz l i i:=λp q h1 h2 h3=>h p q h1 (by omega)
theorem yV{l:List Int}{i j:Nat}(h:inz l i j)(hj:j=0\/l.getD (j-1) 0<=l.getD j 0):∀p q,p<q->q<i+1->l.getD p 0<=l.getD q 0:=λp q h1 h2=>by
 by_cases hq:q=j
 ·subst hq
  rcases hj with hj|hj
  ·omega
  ·by_cases hp:p=q-1
   ·subst hp;exact hj
   ·exact Int.le_trans (h p (q-1) (by omega) (by omega) (by omega)) hj
 ·exact h p q h1 (by omega) hq
theorem GR{l:List Int}{i j:Nat}(h:inz l i j)(h0:0<j)(hji:j<=i)(hi:i<l.length)(hlt:l.getD j 0<l.getD (j-1) 0):inz (swp l j) i (j-1):=λp q h1 h2 h3=>by
 rw[zn l j p h0 (by omega),zn l j q h0 (by omega),ai h3];by_cases hq:q=j
 ·rw[au hq]
  by_cases hp:p=j-1
  ·rw[au hp];omega
  ·rw[ai hp,ai (by omega)]
   exact h p (j-1) (by omega) (by omega) (by omega)
 ·rw[ai hq]
  by_cases hp:p=j-1
  ·rw[au hp];exact h j q (by omega) h2 hq
  ·rw[ai hp]
   by_cases hp2:p=j
   ·rw[au hp2];exact h (j-1) q (by omega) h2 hq
   ·rw[ai hp2];exact h p q h1 h2 hq
theorem G6{l:List Int}(hs:sorted l)(h3:3<=l.length)(h4:l.length<=4):avg l=iM ((l.drop 1).take (l.length-2)) / (((l.drop 1).take (l.length-2)).length:Int):=by
 match l,hs,h3,h4 with
 |[a,b,c],hs,_,_=>
  have h1:=hs 0 1 (by omega) (by simp);have h2:=hs 1 2 (by omega) (by simp);simp at h1 h2;simp[avg,iM,lR,lS];omega
 |[a,b,c,d],hs,_,_=>
  have h1:=hs 0 1 (by omega) (by simp);have h2:=hs 1 2 (by omega) (by simp);have h3:=hs 2 3 (by omega) (by simp);simp at h1 h2 h3;simp[avg,iM,lR,lS];omega
theorem G5{l:List Int}(h0:0<l.length)(h:l.length<3):avg l=iM l / (l.length:Int):=by
 unfold avg;rw[ai (by omega),au h]
theorem td1(x:Int):x.tdiv 1=x/\x.tmod 1=0:=by simp
theorem td2(x:Int):x=2*x.tdiv 2+x.tmod 2/\(0<=x->0<=x.tmod 2/\x.tmod 2<=1)/\(x<0->-1<=x.tmod 2/\x.tmod 2<=0):=by
 refine⟨by have:=Int.mul_tdiv_add_tmod x 2;omega,λh=>?_,λh=>?_⟩
 ·have:=dA (b:=2) h;omega
 ·have e:x.tmod 2=-((-x).tmod 2):=by rw[Int.neg_tmod,Int.neg_neg]
  have:=dA (a:=-x) (b:=2) (by omega);omega
theorem zo{l:List Int}{B:Int}(hB:0<=B)(h:∀x∈l,-B<=x/\x<=B)(h4:l.length<=4):-B<=avg l/\avg l<=B:=by
 match l,h4 with
 |[],_=>simp[avg];omega
 |[a],_=>simp at h;simp[avg,iM];omega
 |[a,b],_=>simp at h;simp[avg,iM];omega
 |[a,b,c],_=>simp at h;simp[avg,iM,lR,lS];omega
 |[a,b,c,d],_=>simp at h;simp[avg,iM,lR,lS];omega
end Clk
end
end Go.Proofs.YteadkhigkmijiaaGreat
