/- Texts FrR, SfA, SqD, QmC, QmB in one. -/
import Derived.Test.YteadkhigkmijiaaGreatPD1
import Derived.Test.YteadkhigkmijiaaGreatPD2
import Derived.Test.YteadkhigkmijiaaGreatPD4
import Derived.Test.YteadkhigkmijiaaGreatPD10
import Derived.Test.YteadkhigkmijiaaGreatPD20
import Derived.Test.YteadkhigkmijiaaGreatPD27
set_option linter.all false
namespace Go.Proofs.YteadkhigkmijiaaGreat
section
set_option maxRecDepth 100000
set_option maxHeartbeats 2000000
open Go.RowKit
open Fr (St F)
theorem JZ(f:F)(v:Value)(w:World)(hv:iI w w v f.d)(hd:iK f.d):
  Calls Tryz.prog 173 #[frV f v] w (Enc w f):=by
 have his:=λW(hb:Below w w W)=>Jy f v W w (hv.below hb);obtain⟨A,c,rfl,c1,c2,-,-⟩:=hv.at_
 cases hi:f.is
 ·rw[hi]at his
  have his:=λW hb=>af (his W hb);have hE:mO f=1:=by simp[mO,hi]
  have hR:kJ f=[]:=by simp[kJ,hi]
  unfold Enc;rw[hE,hR];clear hi hE hR hv;unfold frV at his ⊢
  go_enter Tryz.func173,Tryz.ntmps173
  go_wp2_with fail;refine(his _ ((ah _ _).alloc lr _)).o.mono ?_;rintro e w1 ⟨rfl,hb⟩;have hb:=((ah w w).alloc lr _).trans (hb.mono (by simp));go_wp2;go_ret2;exact⟨_,rfl,bR,hb⟩
 ·rw[hi]at his
  have his:=λW hb=>af (his W hb);obtain⟨⟨k1,k3⟩,hmay,hlen⟩:=f.l9.1 hi;have hE:mO f=0:=by simp[mO,hi]
  have hR:kJ f=f.body++Fr.two (Fr.iM f.seed f.body):=by simp[kJ,hi,F.bytes]
  have hbody:=af (F.sM hi hd);have hbl:=f.sN;have hsl:=f.l8;have lU:=λW=>af (A9 f.st W);have pO:=λW=>af (AZ f.st hmay W);have hhl:f.hl<=6:=by unfold F.hl;split<;>omega
  unfold Enc;rw[hE,hR];have pQ:=λ(V:Value)(W:World)(h:iI W W V f.body)=>af (vE V f.body f.seed W h hbody.o (by omega) hsl);obtain⟨k,st,d⟩:=f;by_cases hk:k=1
  ·have hB1:F.body ⟨k,st,d⟩=[1]++[(d.length:Int)]++d:=by simp[F.body,F.head,hk]
   have hS1:F.seed ⟨k,st,d⟩=st.seed:=by simp[F.seed,hk]
   rw[hB1,hS1]at pQ ⊢;subst hk;simp only at hv k1 k3 hmay hlen his lU pO hsl;have hvd:=af hv;have hH:=λV W h=>af (pQ V W h);clear pQ hE hR hB1 hS1 hbody hbl hi hd hv hhl pO hmay;unfold frV at his ⊢;unfold stV at lU
   go_enter Tryz.func173,Tryz.ntmps173
   go_wp2_with fail;have iO:=af (sJ w ↑(1:Int) ↑st.r ↑st.s ↑st.m (.slice A d.length c) 182);generalize w.alloc (.cells #[↑(1:Int),↑st.r,↑st.s,↑st.m,.slice A d.length c] 182)=w0 at *;have hz0:w0.heap.size<=w.heap.size+1/\w.heap.size+1<=w0.heap.size:=by have:=iO.o.size;omega
   refine(his _ iO.o.below).o.mono ?_;rintro e w1 ⟨rfl,hb1⟩;obtain⟨z1,c10,c11,c12,c13,c14⟩:=iO.o.cell w1 hb1;clear his;go_wp2_with fail;refine(lU _).o.mono ?_;rintro e w2 ⟨rfl,hb⟩;have ho2:=(pJ w1 5 rfl #[.int .u8 1] [1] rfl w0 hb1.size (by simp[maxLen]) w1 1 1 rfl rfl rfl).below hb lr;have hb2:=(hb1.alloc hb1.size (.cells #[.int .u8 1] 5)).trans (hb.mono (by simp;have:=hb1.size;omega));obtain⟨z2,c20,c21,c22,c23,c24⟩:=iO.o.cell w2 hb2;have hwr:IntKind.u8.wrap ((d.length:Nat):Int)=d.length:=by rw[fA];omega
   have oL:=hb2.alloc hb2.size (.cells #[.int .u8 (d.length:Int)] 5);have x2:=(iO.o.cell _ oL).2.2.2.2.2;clear c10 c11 c12 c13 c14 hb hb1 lU c21 c22 c23;go_wp2_with fail
   go_region_held3 (λw'=>w'.cell? (w,4)=some (.slice A d.length c)) (first|exact c24|exact x2|exact x3|exact x5|exact x6) (first
    |((refine sL _ rfl (.tmp 24) (.tmp 29) 41 rfl w0 kx Tryz.underlying41 (.slice (some (w1,0)) 1 1) [1] w0 ?_ ?_ rfl (w2.heap.size+1) (.slice (some (w2,0)) 1 1) [(d.length:Int)] rfl ?_ ?_ ?_ ?_);exact(ho2.alloc _).drew;exact oL.drew;exact(oH w2 5 _ [(d.length:Int)] rfl _ (cJ _) (by simp[maxLen]) _ _ _ rfl rfl rfl).drew;exact oL.size;(focus simp);intro v3 w3 ho3 hb3 _;have x3:=(iO.o.cell _ hb3).2.2.2.2.2)
    |((refine sL _ rfl (.tmp 30) (.tmp 32) 41 rfl w0 kx Tryz.underlying41 v3 ([1]++[(d.length:Int)]) w0 ho3 hb3 rfl w (.slice A d.length c) d rfl ?_ ?_ ?_ ?_);exact hvd.o.below (iO.o.below.trans (hb3.mono (by omega)));exact hb3.size;(focus (simp;omega));intro v5 w5 ho5 hb5 _;have x5:=(iO.o.cell _ hb5).2.2.2.2.2)
    |((go_at_call 208;refine(hH v5 _ ?_).o.mono ?_);exact ho5.sees;rintro e w6 ⟨v6,rfl,ho6,hb6⟩;have hb6:=hb5.trans (hb6.mono hb5.size);have x6:=(iO.o.cell _ hb6).2.2.2.2.2))
   have hfin:=ho6.base (B:=w.heap.size) (by have:=hb5.size;omega);have hbf:=iO.o.below.trans (hb6.mono (by omega));clear hwr ho6;go_wp2;go_ret2;exact⟨_,rfl,hfin,hbf⟩
  ·have hB1:F.body ⟨k,st,d⟩=[k]++st.bytes++[(d.length:Int)]++d:=by simp[F.body,F.head,hk]
   have hS1:F.seed ⟨k,st,d⟩=0:=by simp[F.seed,hk]
   rw[hB1,hS1]at pQ ⊢;simp only at hv k1 k3 hmay hlen his lU pO hsl;have hk':(k != 1)=true:=by simpa using hk
   have hvd:=af hv;have hH:=λV W h=>af (pQ V W h);have hsb:st.bytes.length=4:=rfl;clear pQ hE hR hB1 hS1 hbody hbl hi hd hv hhl hmay hk;unfold frV at his ⊢;unfold stV at lU pO;generalize st.bytes=sb at *;have JE:sb.length<=4:=by omega
   clear hsb
   go_enter Tryz.func173,Tryz.ntmps173
   go_wp2_with fail;have iO:=af (sJ w ↑k ↑st.r ↑st.s ↑st.m (.slice A d.length c) 182);generalize w.alloc (.cells #[↑k,↑st.r,↑st.s,↑st.m,.slice A d.length c] 182)=w0 at *;have hz0:w0.heap.size<=w.heap.size+1/\w.heap.size+1<=w0.heap.size:=by have:=iO.o.size;omega
   refine(his _ iO.o.below).o.mono ?_;rintro e w1 ⟨rfl,hb1⟩;obtain⟨z1,c10,c11,c12,c13,c14⟩:=iO.o.cell w1 hb1;clear his;go_wp2_with fail;refine(lU _).o.mono ?_;rintro e w2 ⟨rfl,hb⟩;have ho2:=(pJ w1 5 rfl #[.int .u8 k] [k] rfl w0 hb1.size (by simp[maxLen]) w1 1 1 rfl rfl rfl).below hb lr;have hb2:=(hb1.alloc hb1.size (.cells #[.int .u8 k] 5)).trans (hb.mono (by simp;have:=hb1.size;omega));obtain⟨z2,c20,c21,c22,c23,c24⟩:=iO.o.cell w2 hb2;clear c10 c11 c12 c13 c14 hb lU;go_wp2_with fail;refine(pO _).o.mono ?_;rintro e wa ⟨va,rfl,hoa,hba⟩;have oI:=hb2.trans (hba.mono hb2.size);have hob:=ho2.below hba lr;have qH:=hoa.sees;clear c20 c21 c22 c23 c24 hba hb2 ho2 pO hb1 hoa;go_wp2_with (at_builtin;go_loud (refine lA _ rfl (.tmp 19) (.tmp 22) 41 rfl w0 kx Tryz.underlying41 _ [k] w0 hob oI rfl wa va sb rfl qH oI.size (by simp;omega) ?_));intro vb wb BD hbb;obtain⟨zb,c20,c21,c22,c23,c24⟩:=iO.o.cell wb hbb;obtain⟨Ab,cb,rfl,-,-,-,-⟩:=BD.sees.at_;have hwr:IntKind.u8.wrap ((d.length:Nat):Int)=d.length:=by rw[fA];omega
   have oL:=hbb.alloc hbb.size (.cells #[.int .u8 (d.length:Int)] 5);have x2:=(iO.o.cell _ oL).2.2.2.2.2;clear c20 c21 c22 c23 oI hob qH;go_wp2_with fail
   go_region_held3 (λw'=>w'.cell? (w,4)=some (.slice A d.length c)) (first|exact c24|exact x2|exact x3|exact x5|exact x6) (first
    |((refine sL _ rfl (.tmp 24) (.tmp 29) 41 rfl w0 kx Tryz.underlying41 _ ([k]++sb) w0 ?_ ?_ rfl (wb.heap.size+1) (.slice (some (wb,0)) 1 1) [(d.length:Int)] rfl ?_ ?_ ?_ ?_);exact(BD.alloc _).drew;exact oL.drew;exact(oH wb 5 _ [(d.length:Int)] rfl _ (cJ _) (by simp[maxLen]) _ _ _ rfl rfl rfl).drew;exact oL.size;(focus (simp;omega));intro v3 w3 ho3 hb3 _;have x3:=(iO.o.cell _ hb3).2.2.2.2.2)
    |((refine sL _ rfl (.tmp 30) (.tmp 32) 41 rfl w0 kx Tryz.underlying41 v3 ([k]++sb++[(d.length:Int)]) w0 ho3 hb3 rfl w (.slice A d.length c) d rfl ?_ ?_ ?_ ?_);exact hvd.o.below (iO.o.below.trans (hb3.mono (by omega)));exact hb3.size;(focus (simp;omega));intro v5 w5 ho5 hb5 _;have x5:=(iO.o.cell _ hb5).2.2.2.2.2)
    |((go_at_call 208;refine(hH v5 _ ?_).o.mono ?_);exact ho5.sees;rintro e w6 ⟨v6,rfl,ho6,hb6⟩;have hb6:=hb5.trans (hb6.mono hb5.size);have x6:=(iO.o.cell _ hb6).2.2.2.2.2))
   have hfin:=ho6.base (B:=w.heap.size) (by have:=hb5.size;omega);have hbf:=iO.o.below.trans (hb6.mono (by omega));clear hwr ho6;go_wp2;go_ret2;exact⟨_,rfl,hfin,hbf⟩
end
section
open Go.RowKit
def kV(l:List Int)(a:Int):List Int:=
 if l=[]then l else l.set ((max a (-a)).toNat%(8*l.length) / 8) (((l.getD ((max a (-a)).toNat%(8*l.length) / 8) 0).toNat^^^(128>>>((max a (-a)).toNat%(8*l.length)%8)):Nat):Int)
theorem EJ(l:List Int)(a:Int):(kV l a).length=l.length:=by
 unfold kV
 split
 ·rfl
 ·simp
theorem O0:∀x:Fin 256,∀i j:Fin 8,(x.val^^^(128>>>i.val)).testBit (7-j.val)=(if i=j then !x.val.testBit (7-j.val)else x.val.testBit (7-j.val)):=by decide+kernel
theorem O6:∀x:Fin 256,∀i:Fin 8,x.val^^^(128>>>i.val)<256:=by decide+kernel
theorem bytes_at{l:List Int}(h:iK l)(k:Nat):0<=l.getD k 0/\l.getD k 0<256:=by
 rw[ay];rcases Nat.lt_or_ge k l.length with hk|hk
 ·rw[aP hk]
  exact h _ (dS hk)
 ·rw[aY hk]
  exact⟨by decide,by decide⟩
theorem O7{l:List Int}(a:Int)(h:iK l):iK (kV l a):=by
 unfold kV
 split
 ·exact h
 ·intro x hx
  rcases gW hx with hx|rfl
  ·exact h x hx
  ·have hb:=bytes_at h ((max a (-a)).toNat%(8*l.length) / 8)
   have ht:=O6 ⟨(l.getD ((max a (-a)).toNat%(8*l.length) / 8) 0).toNat,by omega⟩ ⟨(max a (-a)).toNat%(8*l.length)%8,Nat.mod_lt _ (by decide)⟩;simp only at ht;omega
theorem O8(l:List Int)(a:Int):rn (kV l a)=rn l:=by unfold rn;rw[EJ]
theorem O9{l:List Int}(a:Int)(h:iK l)(h50:l.length<=50)(k:Nat)(hk:k<rn l):rq (kV l a) k=gq (rn l) (rq l) a k:=by
 have hn:rn l=8*l.length:=by unfold rn;omega
 rw[hn]at hk ⊢;have h0:l≠[]:=by intro e;subst e;simp at hk
 have hp:0<8*l.length:=by omega
 have ht:max a (-a)%((8*l.length:Nat):Int)=(((max a (-a)).toNat%(8*l.length):Nat):Int):=by
  rw[Int.natCast_emod,fX (by omega)]
 unfold gq turned;rw[ht];unfold kV;rw[ai h0];generalize hT:(max a (-a)).toNat%(8*l.length)=T;have hTl:T<8*l.length:=hT▸Nat.mod_lt _ hp;have hb:=bytes_at h (T / 8);have hbt:=O0 ⟨(l.getD (T / 8) 0).toNat,by omega⟩ ⟨T%8,Nat.mod_lt _ (by decide)⟩ ⟨k%8,Nat.mod_lt _ (by decide)⟩;simp only[Fin.mk.injEq]at hbt;have key:jX ((l.set (T / 8) (((l.getD (T / 8) 0).toNat^^^(128>>>(T%8)):Nat):Int)).getD (k / 8) 0) (k%8)=if k=T then !jX (l.getD (k / 8) 0) (k%8)else jX (l.getD (k / 8) 0) (k%8):=by
  by_cases e:k / 8=T / 8
  ·have eg:(l.set (T / 8) (((l.getD (T / 8) 0).toNat^^^(128>>>(T%8)):Nat):Int)).getD (k / 8) 0=(((l.getD (T / 8) 0).toNat^^^(128>>>(T%8)):Nat):Int):=by
    rw[e,ay,dZ (by omega)]
    rfl
   rw[eg];unfold jX;rw[aQ,hbt,e];by_cases e2:T%8=k%8
   ·rw[au e2,au (show k=T by omega)]
   ·rw[ai e2,ai (show ¬k=T by omega)]
  ·have eg:(l.set (T / 8) (((l.getD (T / 8) 0).toNat^^^(128>>>(T%8)):Nat):Int)).getD (k / 8) 0=l.getD (k / 8) 0:=by
    rw[ay,dU (by omega),<-ay]
   rw[eg,ai (show ¬k=T by intro h';apply e;omega)]
 show(if jX ((l.set (T / 8) (((l.getD (T / 8) 0).toNat^^^(128>>>(T%8)):Nat):Int)).getD (k / 8) 0) (k%8)=true then(1:Int)else -1)=if((k:Nat):Int)=((T:Nat):Int)then -(if jX (l.getD (k / 8) 0) (k%8)=true then(1:Int)else -1)else(if jX (l.getD (k / 8) 0) (k%8)=true then(1:Int)else -1);rw[key];by_cases e:k=T
 ·rw[au e,au (dn _ e)]
  cases jX (l.getD (k / 8) 0) (k%8)<;>rfl
 ·rw[ai e,ai (show ¬((k:Nat):Int)=((T:Nat):Int) by omega)]
structure Db where
 b:List Int
 at_:Int
 df:Bool
def Db.fault(f:Ft)(x:Db):Db:=
 if f.k=1 then {x with b:=[]}
 else if f.k=2 then {x with b:=kV x.b f.a}
 else if f.k=3 then {x with df:=true}
 else if f.k=5 then {x with b:=f.d,at_:=x.at_+f.a}
 else if f.k=6 then {x with at_:=x.at_+f.a}
 else x
structure Sd.Is(s:Sd)(x:Db):Prop where
 n:s.n=rn x.b
 q:∀k,k<s.n->s.q k=rq x.b k
 a:s.at_=x.at_
 d:s.df=x.df
structure Db.Ok(x:Db):Prop where
 b:iK x.b
 l:x.b.length<=50
theorem Db.Ok.fault{x:Db}{f:Ft}(h:x.Ok)(hd:iK f.d)(hl:f.d.length<=24):(x.fault f).Ok:=by
 unfold Db.fault
 repeat' split
 ·exact⟨(λ_ hx=>by cases hx),bH _⟩
 ·exact⟨O7 _ h.b,aW (Nat.le_of_eq (EJ _ _)) h.l⟩
 ·exact⟨h.b,h.l⟩
 ·exact⟨hd,by show f.d.length<=50;omega⟩
 ·exact⟨h.b,h.l⟩
 ·exact h
theorem Sd.Is.strike{s:Sd}{x:Db}(f:Ft)(h:s.Is x)(ho:x.Ok):(s.strike f).Is (x.fault f):=by
 obtain⟨h1,h2,h3,h4⟩:=h;unfold Sd.strike Db.fault
 split
 ·exact⟨rfl,λk hk=>absurd hk (Nat.not_lt_zero _),h3,h4⟩
 split
 ·refine⟨h1.trans (O8 _ _).symm,λk hk=>?_,h3,h4⟩
  have hk:k<s.n:=hk;show gq s.n s.q f.a k=rq (kV x.b f.a) k;rw[O9 f.a ho.b ho.l k (h1▸hk)];unfold gq turned;rw[h1,h2 k hk]
 split
 ·exact⟨h1,h2,h3,rfl⟩
 split
 ·exact⟨rfl,λk _=>rfl,by show s.at_+f.a=x.at_+f.a;rw[h3],h4⟩
 split
 ·exact⟨h1,h2,by show s.at_+f.a=x.at_+f.a;rw[h3],h4⟩
 ·exact⟨h1,h2,h3,h4⟩
structure Air where
 s:Nat->Db
 bl:Nat->Bool
 lk:Nat->Bool
def Air.fault(f:Ft)(x:Air):Air:=
 if f.k=4 then {x with bl:=λi=>x.bl i||decide (f.n=(i:Int))}
 else if f.k=7 then {x with lk:=λi=>x.lk i||decide (f.n=(i:Int))}
 else {x with s:=λi=>if i=f.n.toNat then(x.s i).fault f else x.s i}
structure Air.Ok(x:Air):Prop where
 s:∀i,(x.s i).Ok
theorem Air.Ok.fault{x:Air}{f:Ft}(h:x.Ok)(hd:iK f.d)(hl:f.d.length<=24):(x.fault f).Ok:=by
 unfold Air.fault
 split
 ·exact⟨h.s⟩
 split
 ·exact⟨h.s⟩
 ·refine⟨λi=>?_⟩
  show Db.Ok (if i=f.n.toNat then(x.s i).fault f else x.s i)
  split
  ·exact(h.s i).fault hd hl
  ·exact h.s i
def jU(m:List Sd)(x:Air):Prop:=∀(i:Nat)(s:Sd),m[i]?=some s->s.Is (x.s i)
theorem EK(f:Ft)(s:Sd)(h:f.k=7):s.strike f=s:=by
 unfold Sd.strike;rw[h];simp
theorem jU.strike{m:List Sd}{x:Air}(f:Ft)(h:jU m x)(ho:x.Ok):jU (kS f m) (x.fault f):=by
 unfold kS Air.fault;by_cases h4:f.k=4
 ·rw[au h4,au h4]
  exact h
 rw[ai h4,ai h4];by_cases h7:f.k=7
 ·rw[au h7]
  intro i s hs
  cases e:m[f.n.toNat]? with
  |none=>rw[e]at hs;exact h i s hs
  |some s0=>
   rw[e]at hs;simp only[EK f s0 h7]at hs;by_cases hi:i=f.n.toNat
   ·subst hi
    rw[dZ (fJ.1 e).1]at hs
    cases hs
    exact h _ _ e
   ·rw[dU (dH hi)]at hs
    exact h i s hs
 ·rw[ai h7]
  intro i s hs;show s.Is (if i=f.n.toNat then(x.s i).fault f else x.s i)
  cases e:m[f.n.toNat]? with
  |none=>
   rw[e]at hs;have hi:i≠f.n.toNat:=λhi=>by rw[<-hi,hs]at e;cases e
   rw[ai hi];exact h i s hs
  |some s0=>
   rw[e]at hs;by_cases hi:i=f.n.toNat
   ·subst hi
    rw[au rfl];simp only at hs;rw[dZ (fJ.1 e).1]at hs
    cases hs
    exact(h _ _ e).strike f (ho.s _)
   ·simp only at hs
    rw[dU (dH hi)]at hs;rw[ai hi];exact h i s hs
theorem jU.strikes{fl:List Ft}{m:List Sd}{x:Air}(h:jU m x)(ho:x.Ok)(hf:∀f∈fl,iK f.d/\f.d.length<=24):
  jU (fl.foldl (λm f=>kS f m) m) (fl.foldl (λx f=>x.fault f) x)/\(fl.foldl (λx f=>x.fault f) x).Ok:=by
 induction fl generalizing m x with
 |nil=>exact⟨h,ho⟩
 |cons f fl ih=>
  obtain⟨h1,h2⟩:=hf f (List.mem_cons_self ..);exact ih (h.strike f ho) (ho.fault h1 h2) λg hg=>hf g (aT _ hg)
def Sd.row(s:Sd)(k:Nat):Int:=if k<s.n then s.q k else 0
def Db.row(x:Db)(k:Nat):Int:=if k<rn x.b then rq x.b k else 0
theorem Sd.Is.row{s:Sd}{x:Db}(h:s.Is x)(k:Nat):s.row k=x.row k:=by
 unfold Sd.row Db.row;rw[<-h.n]
 split
 ·exact h.q k (by assumption)
 ·rfl
theorem Sd.Is.sends{s:Sd}{x:Db}(h:s.Is x):decide (0<s.n)=decide (0<x.b.length):=by
 have hn:=h.n;unfold rn at hn;rw[decide_eq_decide];omega
def jw(f:Nat->Nat):Nat->Nat
 |0=>0
 |k+1=>max (jw f k) (f k)
def iU(f:Nat->Nat->Int)(j:Nat):Nat->Int
 |0=>0
 |k+1=>iU f j k+f k j
theorem Pb{f g:Nat->Nat}{k:Nat}(h:∀i,i<k->f i=g i):jw f k=jw g k:=by
 induction k with
 |zero=>rfl
 |succ k ih=>unfold jw;rw[ih λi hi=>h i (by omega),h k (by omega)]
theorem Pf{f g:Nat->Nat->Int}{j k:Nat}(h:∀i,i<k->f i j=g i j):iU f j k=iU g j k:=by
 induction k with
 |zero=>rfl
 |succ k ih=>unfold iU;rw[ih λi hi=>h i (by omega),h k (by omega)]
theorem tX{f:Nat->Nat->Int}{j k:Nat}(h:∀i,i<k->(f i j).natAbs<=1):(iU f j k).natAbs<=k:=by
 induction k with
 |zero=>exact aR _
 |succ k ih=>
  have h1:=ih λi hi=>h i (by omega);have h2:=h k (by omega);unfold iU;omega
theorem wZ{n:Nat->Nat}{f:Nat->Nat->Int}{j k:Nat}(h:∀i,n i<=j->f i j=0)(hj:jw n k<=j):iU f j k=0:=by
 induction k with
 |zero=>rfl
 |succ k ih=>
  unfold jw at hj;unfold iU;rw[ih (by omega),h k (by omega)]
  rfl
structure ChR where
 n:Nat
 q:Nat->Int
 p:Int
def chan(N:Nat)(n:Nat->Nat)(r:Nat->Nat->Int)(first pass:Int)(bl lk:Bool):ChR:=
 if bl then⟨0,λ_=>0,-1⟩
 else if lk then⟨jw n N,λj=>iU r j N,first⟩
 else if pass<0 then⟨0,λ_=>0,-1⟩
 else⟨n pass.toNat,r pass.toNat,pass⟩
theorem Pg{N:Nat}{n n':Nat->Nat}{r r':Nat->Nat->Int}{first pass:Int}{bl lk:Bool}(hn:∀i,i<N->n i=n' i)(hr:∀i,i<N->r i=r' i)(hp:pass<0\/pass.toNat<N):chan N n r first pass bl lk=chan N n' r' first pass bl lk:=by
 unfold chan;rw[Pb hn,show(λj=>iU r j N)=λj=>iU r' j N from funext λj=>Pf λi hi=>by rw[hr i hi]];by_cases h:pass<0
 ·simp only[au h]
 ·have hp:=hp.resolve_left h
  rw[hn _ hp,hr _ hp]
theorem Db.tV(x:Db)(k:Nat):(x.row k).natAbs<=1:=by
 unfold Db.row rq lv;simp only[dG]
 split
 ·split<;>decide
 ·decide
theorem Sd.Is.start(l:List Int)(a:Int):Sd.Is ⟨rn l,rq l,a,false⟩ ⟨l.take 50,a,false⟩:=by
 have hn:rn l=rn (l.take 50):=by unfold rn;rw[cQ];omega
 refine⟨hn,λk hk=>?_,rfl,rfl⟩;have hk:k<rn l:=hk;have h8:k / 8<50:=by unfold rn at hk;omega
 have eg:(l.take 50).getD (k / 8) 0=l.getD (k / 8) 0:=by
  rw[ay,List.getElem?_take_of_lt h8,<-ay]
 show(if jX (l.getD (k / 8) 0) (k%8)=true then(1:Int)else -1)=(if jX ((l.take 50).getD (k / 8) 0) (k%8)=true then(1:Int)else -1);rw[eg]
def Air.start(bs:Nat->List Int)(a:Nat->Int):Air:=⟨λi=>⟨(bs i).take 50,a i,false⟩,λ_=>false,λ_=>false⟩
theorem jU.start(N:Nat)(bs:Nat->List Int)(a:Nat->Int):jU ((List.range N).map λi=>⟨rn (bs i),rq (bs i),a i,false⟩) (Air.start bs a):=by
 intro i s hs;rw[dF]at hs;rcases Nat.lt_or_ge i N with hi|hi
 ·rw[bW hi]at hs
  cases hs
  exact Sd.Is.start _ _
 ·rw[aY (by rw[dW];exact hi)]at hs
  cases hs
theorem Air.Ok.start{bs:Nat->List Int}(a:Nat->Int)(h:∀i,iK (bs i)):(Air.start bs a).Ok:=⟨λi=>⟨λx hx=>h i x (bM hx),by show((bs i).take 50).length<=50;rw[cQ];omega⟩⟩
theorem Air.Ph(f:Ft)(x:Air)(i:Nat):(x.fault f).bl i=(x.bl i||decide (f.k=4/\f.n=(i:Int))):=by
 unfold Air.fault;by_cases h4:f.k=4
 ·simp[h4]
 ·rw[ai h4]
  split<;>simp[h4]
theorem Air.Pj(f:Ft)(x:Air)(i:Nat):(x.fault f).lk i=(x.lk i||decide (f.k=7/\f.n=(i:Int))):=by
 unfold Air.fault;by_cases h4:f.k=4
 ·simp[h4]
 ·rw[ai h4]
  by_cases h7:f.k=7
  ·simp[h7]
  ·simp[h7]
theorem Air.Pk(fl:List Ft)(x:Air)(i:Nat):(fl.foldl (λx f=>x.fault f) x).bl i=(x.bl i||fl.any λf=>decide (f.k=4/\f.n=(i:Int))):=by
 induction fl generalizing x with
 |nil=>simp
 |cons f fl ih=>rw[dI,ih,Air.Ph,List.any_cons,Bool.or_assoc]
theorem Air.Pm(fl:List Ft)(x:Air)(i:Nat):(fl.foldl (λx f=>x.fault f) x).lk i=(x.lk i||fl.any λf=>decide (f.k=7/\f.n=(i:Int))):=by
 induction fl generalizing x with
 |nil=>simp
 |cons f fl ih=>rw[dI,ih,Air.Pj,List.any_cons,Bool.or_assoc]
theorem Db.Pn(f:Ft)(x:Db)(h:-1000<=f.a/\f.a<=1000):x.at_-1000<=(x.fault f).at_/\(x.fault f).at_<=x.at_+1000:=by
 unfold Db.fault
 repeat' split
 all_goals first|omega|(simp only;omega)
theorem Air.vQ(fl:List Ft)(x:Air)(i:Nat)(hf:∀f∈fl,-1000<=f.a/\f.a<=1000):(x.s i).at_-1000*(fl.length:Int)<=((fl.foldl (λx f=>x.fault f) x).s i).at_/\((fl.foldl (λx f=>x.fault f) x).s i).at_<=(x.s i).at_+1000*(fl.length:Int):=by
 induction fl generalizing x with
 |nil=>simp
 |cons f fl ih=>
  have h1:=ih (x.fault f) λg hg=>hf g (aT _ hg);have h2:=Db.Pn f (x.s i) (hf f (List.mem_cons_self ..));have h3:((x.fault f).s i).at_=(x.s i).at_\/((x.fault f).s i).at_=((x.s i).fault f).at_:=by
   unfold Air.fault
   split
   ·exact .inl rfl
   split
   ·exact .inl rfl
   ·show(if i=f.n.toNat then(x.s i).fault f else x.s i).at_=_\/(if i=f.n.toNat then(x.s i).fault f else x.s i).at_=_
    split
    ·exact .inr rfl
    ·exact .inl rfl
  rw[dI,dM];omega
theorem jU.sF_{m:List Sd}{x:Air}(h:jU m x)(i:Nat)(hi:i<m.length):sF m i=decide (0<(x.s i).b.length):=by
 have e:m[i]?=some m[i]:=aP hi;unfold sF;rw[e];exact(h i _ e).sends
theorem jU.sA_{m:List Sd}{x:Air}(h:jU m x)(i:Nat)(hi:i<m.length):sA m i=(x.s i).at_:=by
 have e:m[i]?=some m[i]:=aP hi;unfold sA;rw[e];exact(h i _ e).a
def mN(m:List Sd)(i:Nat):Nat:=match m[i]? with
 |some s=>s.n
 |none=>0
def mR(m:List Sd)(i:Nat):Nat->Int:=match m[i]? with
 |some s=>s.row
 |none=>λ_=>0
def mD(m:List Sd)(i:Nat):Bool:=match m[i]? with
 |some s=>s.df
 |none=>false
theorem jU.mN_{m:List Sd}{x:Air}(h:jU m x)(i:Nat)(hi:i<m.length):mN m i=rn (x.s i).b:=by
 have e:m[i]?=some m[i]:=aP hi;unfold mN;rw[e];exact(h i _ e).n
theorem jU.mR_{m:List Sd}{x:Air}(h:jU m x)(i:Nat)(hi:i<m.length):mR m i=(x.s i).row:=by
 have e:m[i]?=some m[i]:=aP hi;unfold mR;rw[e];exact funext (h i _ e).row
theorem jU.mD_{m:List Sd}{x:Air}(h:jU m x)(i:Nat)(hi:i<m.length):mD m i=(x.s i).df:=by
 have e:m[i]?=some m[i]:=aP hi;unfold mD;rw[e];exact(h i _ e).d
theorem jU.EL{m:List Sd}{x:Air}(h:jU m x)(first pass:Int)(bl lk:Bool)(hp:pass<0\/pass.toNat<m.length):chan m.length (mN m) (mR m) first pass bl lk=chan m.length (λi=>rn (x.s i).b) (λi=>(x.s i).row) first pass bl lk:=
 Pg (λi hi=>h.mN_ i hi) (λi hi=>h.mR_ i hi) hp
end
section
set_option maxRecDepth 100000
set_option maxHeartbeats 4000000
open Go.RowKit
def leaks(f:Ft)(i:Nat):Bool:=decide (f.k=7/\f.n=i)
theorem PY(f:Ft)(m:List Sd)(h:f.k=7):kS f m=m:=by
 unfold kS;rw[ai (by omega)]
 cases e:m[f.n.toNat]? with
 |none=>rfl
 |some s=>exact(dn _ (EK f s h)).trans (EO m _ s e)
theorem PZ(x b:Nat)(l:List (Value×Sd))(c d:Ch)(dv:Value)(f:Ft)(P:List Nat)(w:World)(h:XAt w P x b l c d)(hm:f.may=true)(hs:∀s∈l,wide s.2.at_)(hP:∀i∈P,i<w.heap.size)(hd:iI w w dv f.d)(hy:iK f.d)(hl:l.length<=8):
  Calls Tryz.prog 102 #[↑(x,0),ftV f dv] w λe w'=>e=.returned (.tuple #[])/\∃l':List (Value×Sd),l'.map Prod.snd=kS f (l.map Prod.snd)/\XAt w' P x b l' {c with bl:=c.bl||blocks f 0,lk:=c.lk||leaks f 0} {d with bl:=d.bl||blocks f 1,lk:=d.lk||leaks f 1}/\Kw [x,b] w w':=by
 by_cases h7:f.k=7
 case neg=>
  refine(P5 x b l c d dv f P w h hm h7 hs hP hd hy hl).mono ?_;rintro e w' ⟨rfl,l',h1,h2,h3⟩;have e7:∀i,leaks f i=false:=λi=>by unfold leaks;simp[h7]
  rw[e7,e7,gX,gX];exact⟨rfl,l',h1,h2,h3⟩
 rw[PY f _ h7];obtain⟨fk,fn,fa,fd⟩:=f;unfold Ft.may at hm;rw[nu]at hm;simp only at hm h7 hd hy;subst h7;unfold ftV blocks leaks;simp only;have hb0:=(ah w w).alloc lr (.cells #[↑(7:Int),↑fn,↑fa,dv] 56);have hX:=aJ w _ rfl #[↑(7:Int),↑fn,↑fa,dv] 56;obtain⟨Ad,cd,rfl,-⟩:=hd.at_;have H:=h.below hb0;have kp0:=fG [x,b] hb0;have hz:(w.alloc (.cells #[↑(7:Int),↑fn,↑fa,.slice Ad fd.length cd] 56)).heap.size=w.heap.size+1:=by simp
 have hj:fn=0\/fn=1:=by simp at hm;omega
 rcases hj with rfl|rfl
 ·have x0:=hX.cell 0 (x:=↑(7:Int)) rfl
  have x1:=hX.cell 1 (x:=↑(0:Int)) rfl;have y:=H.blk.cell 2 (x:=↑c.lk) rfl;have fz:=H.blk.frozen 2;have HH:=af ((H.put 2 ↑true (c':={c with lk:=true}) (d':=d) rfl).drew);have KK:=af ((kp0.set (x,2) (by simp) ↑true).drew);clear hX h H hb0 hd kp0
  go_enter Tryz.func102,Tryz.ntmps102
  go_wp2_with fail
  go_region
  go_wp2;exact aD (ax (by rfl) _ _ _) rfl ⟨rfl,l,by simp,by simpa using HH.o,KK.o⟩
 ·have x0:=hX.cell 0 (x:=↑(7:Int)) rfl
  have x1:=hX.cell 1 (x:=↑(1:Int)) rfl;have y:=H.blk.cell 6 (x:=↑d.lk) rfl;have fz:=H.blk.frozen 6;have HH:=af ((H.put 6 ↑true (c':=c) (d':={d with lk:=true}) rfl).drew);have KK:=af ((kp0.set (x,6) (by simp) ↑true).drew);clear hX h H hb0 hd kp0
  go_enter Tryz.func102,Tryz.ntmps102
  go_wp2_with fail
  go_region
  go_wp2;exact aD (ax (by rfl) _ _ _) rfl ⟨rfl,l,by simp,by simpa using HH.o,KK.o⟩
end
section
open Go.RowKit
def jC(V:Nat->Value)(x:Air):Array Value:=#[V 0,V 1,V 2,V 3,V 4,V 5,V 6,V 7,↑(x.s 0).at_,↑(x.s 1).at_,↑(x.s 2).at_,↑(x.s 3).at_,↑(x.s 4).at_,↑(x.s 5).at_,↑(x.s 6).at_,↑(x.s 7).at_,↑(x.s 0).df,↑(x.s 1).df,↑(x.s 2).df,↑(x.s 3).df,↑(x.s 4).df,↑(x.s 5).df,↑(x.s 6).df,↑(x.s 7).df,↑(x.bl 0),↑(x.bl 1),↑(x.lk 0),↑(x.lk 1)]
theorem nN(V:Nat->Value)(x:Air)(k:Nat)(hk:k<8):(jC V x)[k]?=some (V k):=by
 rcases(by omega:k=0\/k=1\/k=2\/k=3\/k=4\/k=5\/k=6\/k=7)with rfl|rfl|rfl|rfl|rfl|rfl|rfl|rfl<;>rfl
theorem nA(V:Nat->Value)(x:Air)(k:Nat)(hk:k<8):(jC V x)[8+k]?=some ↑(x.s k).at_:=by
 rcases(by omega:k=0\/k=1\/k=2\/k=3\/k=4\/k=5\/k=6\/k=7)with rfl|rfl|rfl|rfl|rfl|rfl|rfl|rfl<;>rfl
theorem tQ(V:Nat->Value)(x:Air)(k:Nat)(hk:k<8):(jC V x)[16+k]?=some ↑(x.s k).df:=by
 rcases(by omega:k=0\/k=1\/k=2\/k=3\/k=4\/k=5\/k=6\/k=7)with rfl|rfl|rfl|rfl|rfl|rfl|rfl|rfl<;>rfl
theorem wU(V:Nat->Value)(x:Air)(k:Nat)(hk:k<2):(jC V x)[24+k]?=some ↑(x.bl k):=by
 rcases(by omega:k=0\/k=1)with rfl|rfl<;>rfl
theorem wV(V:Nat->Value)(x:Air)(k:Nat)(hk:k<2):(jC V x)[26+k]?=some ↑(x.lk k):=by
 rcases(by omega:k=0\/k=1)with rfl|rfl<;>rfl
def upV{α:Type}(V:Nat->α)(k:Nat)(u:α)(i:Nat):α:=if i=k then u else V i
theorem qY{V V':Nat->Value}{x x':Air}(h1:∀i,i<8->V i=V' i)(h2:∀i,i<8->(x.s i).at_=(x'.s i).at_)(h3:∀i,i<8->(x.s i).df=(x'.s i).df)(h4:∀i,i<2->x.bl i=x'.bl i)(h5:∀i,i<2->x.lk i=x'.lk i):jC V x=jC V' x':=by
 unfold jC;rw[h1 0 (by omega),h1 1 (by omega),h1 2 (by omega),h1 3 (by omega),h1 4 (by omega),h1 5 (by omega),h1 6 (by omega),h1 7 (by omega),h2 0 (by omega),h2 1 (by omega),h2 2 (by omega),h2 3 (by omega),h2 4 (by omega),h2 5 (by omega),h2 6 (by omega),h2 7 (by omega),h3 0 (by omega),h3 1 (by omega),h3 2 (by omega),h3 3 (by omega),h3 4 (by omega),h3 5 (by omega),h3 6 (by omega),h3 7 (by omega),h4 0 (by omega),h4 1 (by omega),h5 0 (by omega),h5 1 (by omega)]
theorem Dn(V:Nat->Value)(x:Air)(k:Nat)(hk:k<8)(u:Value):(jC V x).setIfInBounds k u=jC (upV V k u) x:=by
 rcases(by omega:k=0\/k=1\/k=2\/k=3\/k=4\/k=5\/k=6\/k=7)with rfl|rfl|rfl|rfl|rfl|rfl|rfl|rfl<;>rfl
theorem Dp(V:Nat->Value)(x:Air)(k:Nat)(hk:k<8)(a:Int):(jC V x).setIfInBounds (8+k) ↑a=jC V {x with s:=upV x.s k {x.s k with at_:=a}}:=by
 rcases(by omega:k=0\/k=1\/k=2\/k=3\/k=4\/k=5\/k=6\/k=7)with rfl|rfl|rfl|rfl|rfl|rfl|rfl|rfl<;>rfl
theorem MZ(V:Nat->Value)(x:Air)(k:Nat)(hk:k<8)(a:Bool):(jC V x).setIfInBounds (16+k) ↑a=jC V {x with s:=upV x.s k {x.s k with df:=a}}:=by
 rcases(by omega:k=0\/k=1\/k=2\/k=3\/k=4\/k=5\/k=6\/k=7)with rfl|rfl|rfl|rfl|rfl|rfl|rfl|rfl<;>rfl
theorem M0(V:Nat->Value)(x:Air)(k:Nat)(hk:k<2)(a:Bool):(jC V x).setIfInBounds (24+k) ↑a=jC V {x with bl:=upV x.bl k a}:=by
 rcases(by omega:k=0\/k=1)with rfl|rfl<;>rfl
theorem M4(V:Nat->Value)(x:Air)(k:Nat)(hk:k<2)(a:Bool):(jC V x).setIfInBounds (26+k) ↑a=jC V {x with lk:=upV x.lk k a}:=by
 rcases(by omega:k=0\/k=1)with rfl|rfl<;>rfl
structure jF(W:World)(ab:Nat)(V:Nat->Value)(x:Air):Prop where
 blk:Blk W ab (jC V x) 201
 dat:∀i,i<8->Dat [ab] W (V i) (x.s i).b
 ok:x.Ok
section
variable {W W':World}{ab:Nat}{V V':Nat->Value}{x x':Air}
theorem jF.lt(h:jF W ab V x):ab<W.heap.size:=h.blk.lt
theorem jF.below(h:jF W ab V x)(b:Below W W W'):jF W' ab V x:=⟨h.blk.below b h.lt,λi hi=>(h.dat i hi).keep (ku b),h.ok⟩
theorem jF.drew(h:jF W ab V x):jF W.drew ab V x:=h.below (ah _ W).drew
theorem jF.form(h:jF W ab V x){i:Nat}(hi:i<8):∃A c,V i=.slice A (x.s i).b.length c:=by
 obtain⟨A,c,e,-⟩:=(h.dat i hi).1.at_;exact⟨A,c,e⟩
theorem jF.wW(h:jF W ab V x){k:Nat}(hk:k<8){u:Value}{l:List Int}(hu:Dat [ab] W u l)(hx':x'={x with s:=upV x.s k {x.s k with b:=l}})(ok:x'.Ok):jF (W.setCell (ab,k) u) ab (upV V k u) x':=by
 have o:Only ab W (W.setCell (ab,k) u):=(aE _ _).set k u;refine⟨(h.blk.set k u).eq ?_,λi hi=>?_,ok⟩
 ·rw[Dn V x k hk u]
  subst hx';refine qY (λ_ _=>rfl) (λi _=>?_) (λi _=>?_) (λ_ _=>rfl) (λ_ _=>rfl)
  ·simp only[upV];split<;>simp_all
  ·simp only[upV];split<;>simp_all
 ·subst hx'
  simp only[upV];by_cases e:i=k
  ·rw[au e,au e]
   exact hu.keep (o.kp (by simp))
  ·rw[ai e,ai e]
   exact(h.dat i hi).keep (o.kp (by simp))
theorem jF.j5(h:jF W ab V x)(k:Nat)(u:Value)(e:(jC V x).setIfInBounds k u=jC V x')(hb:∀i,i<8->(x'.s i).b=(x.s i).b)(ok:x'.Ok):jF (W.setCell (ab,k) u) ab V x':=by
 have o:Only ab W (W.setCell (ab,k) u):=(aE _ _).set k u;exact⟨(h.blk.set k u).eq e,λi hi=>by rw[hb i hi];exact(h.dat i hi).keep (o.kp (by simp)),ok⟩
end
end
section
set_option maxRecDepth 100000
set_option maxHeartbeats 4000000
open Go.RowKit
theorem MU(a:Int)(k:Nat)(ha:0<=a/\a<256)(hk:k<8):bits BinOp.xor IntKind.u8 a (128 / 2^k)=((a.toNat^^^(128>>>k):Nat):Int):=by
 have key:∀x:Fin 256,∀i:Fin 8,bits BinOp.xor IntKind.u8 ((x.val:Nat):Int) (128 / 2^i.val)=((x.val^^^(128>>>i.val):Nat):Int):=by decide+kernel
 have h:=key ⟨a.toNat,by omega⟩ ⟨k,hk⟩;simp only at h
 rwa[fX ha.1]at h
theorem MV{w:World}{B:Nat}{v:Value}{l:List Int}(h:iJ w B v l)(h0:0<l.length):∃g c,v=.slice (some ⟨g,0,none⟩) l.length c/\B<=g/\g<w.heap.size:=by
 obtain⟨g,c,rfl,-⟩:=World.ownsRow.form h h0;exact⟨g,c,rfl,(h.lt g rfl).1,(h.lt g rfl).2⟩
theorem MX(v:Value)(l:List Int)(a:Int)(w:World)(h:iI w w v l)(hl:iK l)(h50:l.length<=50)(ha:-1000<=a/\a<=1000):
  Calls Tryz.prog 174 #[v,↑a] w λe w'=>∃u,e=.returned u/\iI w' w' u (kV l a)/\(kV l a≠[]->∀b,u.ownBlock=some b->w.heap.size<=b)/\Below w w w':=by
 obtain⟨A,c,rfl,v1,v2,v3,v4⟩:=h.at_;unfold maxLen at v2;have H:=af h;by_cases h0:l=[]
 ·subst h0
  have e0:kV [] a=[]:=by unfold kV;rw[au rfl]
  rw[e0];clear h v3 v4 hl;simp only[fw]at H v1 ⊢
  go_enter Tryz.func174,Tryz.ntmps174
  go_wp2;go_ret;exact⟨_,rfl,H.o,λh=>absurd rfl h,ah _ _⟩
 have hp:0<l.length:=aX.2 h0;have hgB:kV l a=l.set ((max a (-a)).toNat%(8*l.length) / 8) (((l.getD ((max a (-a)).toNat%(8*l.length) / 8) 0).toNat^^^(128>>>((max a (-a)).toNat%(8*l.length)%8)):Nat):Int):=by unfold kV;rw[ai h0]
 have hT:(max a (-a)).toNat%(8*l.length)<8*l.length:=Nat.mod_lt _ (by omega);have hme:∀X:Int,X=max a (-a)->Int.tmod X (8*(l.length:Nat))=(((max a (-a)).toNat%(8*l.length):Nat):Int):=by
  rintro X rfl;rw[dA (by omega),Int.natCast_emod,fX (by omega)];simp
 generalize(max a (-a)).toNat%(8*l.length)=T at *;have HB:=af hgB;have hby:=hl.getD (T / 8);have hx:=af (MU (l.getD (T / 8) 0) (T%8) hby (Nat.mod_lt _ (by decide)));have hem:Hid (iJ (w.alloc (.cells #[] 5)) w (.slice (some (w,0)) 0 0) []):=af (mL _ _ rfl _ _ lr rfl);have hvs:Hid (iI (w.alloc (.cells #[] 5)) w (.slice A l.length c) l):=af (h.alloc _);have q0:((l.length:Int)==0)=false:=by rw[aB];omega
 have w8:IntKind.i64.wrap (8*(l.length:Nat))=8*(l.length:Nat):=aO _ (by omega);have wn:IntKind.i64.wrap (-a)=-a:=aO _ (by omega);have n0:¬(8*(l.length:Nat):Int)=0:=by omega
 have dv:Int.tdiv (T:Nat) 8=((T / 8:Nat):Int):=by rw[Int.tdiv_eq_ediv_of_nonneg (by omega)];omega
 have md:Int.tmod (T:Nat) 8=((T%8:Nat):Int):=by rw[dA (by omega)];omega
 have uw:IntKind.u64.wrap ((T%8:Nat):Int)=((T%8:Nat):Int):=by rw[IntKind.wrap_u64];omega
 have i0:((T / 8:Nat):Int)<(l.length:Nat):=by omega
 clear hgB h v3 v4 hl H;have TB:=af hme;have fin:∀X:Int,X=max a (-a)->True:=λ_ _=>trivial;clear fin;by_cases hneg:a<0
 all_goals
  first
   |have q1:decide (a<0)=true:=av hneg
   |have q1:decide (a<0)=false:=aj hneg
  have ht:=hme _ (by omega:(if a<0 then -a else a)=max a (-a))
  first|rw[au hneg]at ht|rw[ai hneg]at ht
  clear hme
  go_enter Tryz.func174,Tryz.ntmps174
  go_wp2_with (at_builtin;go_loud (refine AE _ rfl (.tmp 15) (.tmp 16) 41 rfl w kx Tryz.underlying41 _ [] hem.o rfl w _ l rfl hvs.o (by simp) (by simp;omega) ?_));intro v1 w1 ho1 hx1;have ho2:iJ w1 w v1 l:=by simpa using ho1
  have hb1:Below w w w1:=(((ah w w).alloc lr (.cells #[] 5))).trans (hx1.toBelow (B:=w.heap.size) (by simp) (λj hj=>by simp[Value.ownBlock]at hj;omega));obtain⟨g,cc,rfl,hg1,hg2⟩:=MV ho2 hp;have x0:=iP.cell ho2 (k:=T / 8) (by omega);have f0:=iP.frozen ho2 (T / 8);unfold bv at x0;have hset:=af (iP.j5 ho2 (T / 8) (.int .u8 ((((l.getD (T / 8) 0).toNat^^^(128>>>(T%8)):Nat):Int))) (V':=bv (l.set (T / 8) (((l.getD (T / 8) 0).toNat^^^(128>>>(T%8)):Nat):Int))) (by
   unfold bv;rw[ay,dZ (by omega)]
   rfl) (λi _ hne=>by
   unfold bv;rw[ay,dU (dH hne),<-ay]))
  have hbs:=af (hb1.setCell (p:=(g,T / 8)) hg1 (.int .u8 ((((l.getD (T / 8) 0).toNat^^^(128>>>(T%8)):Nat):Int))));clear ho1 ho2 hx1 hb1 hem hvs;rw[<-hx.o]at hset hbs;generalize l.getD (T / 8) 0=y at *;go_wp2_with fail
  all_goals
   have hb2:=hbs.o;have ho3:=hset.o;go_ret;refine⟨_,rfl,?_,λ_ b e=>?_,hb2⟩
   ·rw[HB.o,<-hx.o]
    exact(show iJ _ w _ (l.set (T / 8) _) by unfold iJ;rw[List.length_set];exact ho3).sees
   ·have e:g=b:=by simpa[Value.ownBlock]using e
    omega
end
end Go.Proofs.YteadkhigkmijiaaGreat
