/- Texts FrMath, TbMath, TbA, TbB, TbC, ClMath in one. -/
import Derived.Deep.RegionHeld3
import Derived.Deep.RegionLaw
import Derived.RegionTactic
import Derived.WalkKit
import Derived.Test.YteadkhigkmijiaaGreatPD1
import Derived.Test.YteadkhigkmijiaaGreatPD2
set_option linter.all false
namespace Go.Proofs.YteadkhigkmijiaaGreat
section
namespace Fr
def iM(s:Nat)(l:List Int):Nat:=l.foldl (λn c=>Cr.kW n c.toNat) s
theorem qy(s:Nat)(l m:List Int):iM s (l++m)=iM (iM s l) m:=fO
theorem pL{s:Nat}(h:s<32768)(l:List Int):iM s l<32768:=by
 induction l generalizing s with
 |nil=>exact h
 |cons x l ih=>exact ih (Cr.pF _ _)
theorem Bu{m n:Nat}(l:List Int)(hm:m<32768)(hn:n<32768)(h:iM m l=iM n l):m=n:=by
 induction l generalizing m n with
 |nil=>exact h
 |cons x l ih=>exact Cr.Im _ hm hn (ih (Cr.pF _ _) (Cr.pF _ _) h)
theorem Bv(s:Nat)(l:List Int):∀k,k<=l.length->Cr.sumTo s (λj=>l.getD j 0) k=iM s (l.take k)
 |0,_=>rfl
 |k+1,h=>by
  have hk:k<l.length:=by omega
  rw[Cr.sumTo,Bv s l k (by omega),fN hk,qy];simp[iM,ay,hk]
theorem sK(s:Nat)(l:List Int):Cr.sumTo s (λj=>l.getD j 0) l.length=iM s l:=by
 rw[Bv s l _ (aR _),dz]
def okL(l:List Int):Prop:=∀x∈l,0<=x/\x<256
theorem okL.append{l m:List Int}(h:okL l)(h':okL m):okL (l++m):=λx hx=>by
 rcases bG.1 hx with hx|hx
 ·exact h x hx
 ·exact h' x hx
theorem okL.take{l:List Int}(h:okL l)(k:Nat):okL (l.take k):=λx hx=>h x (bM hx)
theorem okL.drop{l:List Int}(h:okL l)(k:Nat):okL (l.drop k):=λx hx=>h x (fP hx)
theorem okL.getD{l:List Int}(h:okL l)(k:Nat):0<=l.getD k 0/\l.getD k 0<256:=by
 by_cases hk:k<l.length
 ·rw[ay,aP hk,fZ]
  exact h _ (dS _)
 ·rw[ay,aY (by omega)]
  exact⟨by decide,by decide⟩
theorem JL{s:Nat}(p q:List Int)(x y:Int)(hx:0<=x/\x<256)(hy:0<=y/\y<256)(h:x≠y):iM s (p++x::q)≠iM s (p++y::q):=by
 intro e;rw[qy,qy]at e;have e2:iM (Cr.kW (iM s p) x.toNat) q=iM (Cr.kW (iM s p) y.toNat) q:=e;have:=Cr.Ip (by omega) (by omega) (Bu q (Cr.pF _ _) (Cr.pF _ _) e2);omega
def two(n:Nat):List Int:=[((n / 256:Nat):Int),((n%256:Nat):Int)]
theorem sV{n:Nat}(h:n<65536):okL (two n):=λx hx=>by
 rcases bq.1 hx with rfl|hx
 ·omega
 ·rcases bq.1 hx with rfl|hx
  ·omega
  ·cases hx
theorem Bx{m n:Nat}(h:two m=two n):m=n:=by
 simp only[two,List.cons.injEq,gu]at h;omega
structure St where
 r:Int
 s:Int
 m:Int
def St.may(s:St):Bool:=decide (0<=s.r)&&decide (s.r<=65535)&&decide (0<=s.s)&&decide (s.s<8)&&decide (0<=s.m)&&decide (s.m<=255)
theorem St.mM(s:St):s.may=true↔(0<=s.r/\s.r<=65535)/\(0<=s.s/\s.s<8)/\0<=s.m/\s.m<=255:=by
 simp[St.may,and_assoc]
def St.bytes(s:St):List Int:=[s.r / 256,s.r%256,s.s,s.m]
theorem St.pK{s:St}(h:s.may=true):okL s.bytes:=λx hx=>by
 have:=s.mM.1 h;simp only[St.bytes,bq,cM,fL]at hx;omega
def St.seed(s:St):Nat:=if s.may then iM 32767 s.bytes else 0
theorem St.l8(s:St):s.seed<32768:=by
 unfold St.seed
 split
 ·exact pL (by decide) _
 ·decide
structure F where
 k:Int
 st:St
 d:List Int
def F.is(f:F):Bool:=decide (1<=f.k)&&decide (f.k<=3)&&f.st.may&&decide (f.d.length<=8)
theorem F.l9(f:F):f.is=true↔(1<=f.k/\f.k<=3)/\f.st.may=true/\f.d.length<=8:=by
 simp[F.is,and_assoc]
def F.seed(f:F):Nat:=if f.k=1 then f.st.seed else 0
theorem F.l8(f:F):f.seed<32768:=by
 unfold F.seed
 split
 ·exact St.l8 _
 ·decide
def F.head(f:F):List Int:=(if f.k=1 then [f.k]else f.k::f.st.bytes)++[(f.d.length:Int)]
def F.body(f:F):List Int:=f.head++f.d
def F.bytes(f:F):List Int:=f.body++two (iM f.seed f.body)
def F.hl(f:F):Nat:=if f.k=1 then 2 else 6
theorem F.JM(f:F):f.head.length=f.hl:=by
 unfold F.head F.hl
 split<;>simp[St.bytes]
theorem F.sN(f:F):f.body.length=f.hl+f.d.length:=by rw[F.body,bJ,F.JM]
theorem F.qJ(f:F):f.bytes.length=f.hl+f.d.length+2:=by rw[F.bytes,bJ,F.sN];rfl
theorem F.JN{f:F}(h:f.is=true):okL f.head:=λx hx=>by
 obtain⟨hk,hs,hd⟩:=f.l9.1 h;have hb:=St.pK hs;unfold F.head at hx;rcases bG.1 hx with hx|hx
 ·split at hx
  ·rw[bD]at hx;omega
  ·rcases bq.1 hx with rfl|hx
   ·omega
   ·exact hb x hx
 ·rw[bD]at hx;omega
theorem F.sM{f:F}(h:f.is=true)(hd:okL f.d):okL f.body:=(F.JN h).append hd
theorem F.pK{f:F}(h:f.is=true)(hd:okL f.d):okL f.bytes:=(F.sM h hd).append (sV (gT (pL f.l8 _) (by decide)))
def kd(l:List Int):Int:=l.getD 0 0
def at_(l:List Int):Nat:=if kd l=1 then 1 else 5
def kK(l:List Int)(own:St):St:=if kd l=1 then own else⟨l.getD 1 0*256+l.getD 2 0,l.getD 3 0,l.getD 4 0⟩
def cnt(l:List Int):Int:=l.getD (at_ l) 0
def jI(l:List Int)(own:St):Nat:=if kd l=1 then own.seed else 0
def ji(l:List Int)(own:St):Bool:=
 decide (4<=l.length)&&own.may&&decide (1<=kd l)&&decide (kd l<=3)&&(kd l==1||decide (8<=l.length))&&(kK l own).may&&decide (cnt l<=8)&&decide ((l.length:Int)=at_ l+1+cnt l+2)
def jT(l:List Int)(own:St):Bool:=two (iM (jI l own) (l.take (l.length-2)))==l.drop (l.length-2)
def rd(l:List Int)(own:St):F:=⟨kd l,kK l own,(l.drop (at_ l+1)).take (cnt l).toNat⟩
def err(l:List Int)(own:St):Int:=if ji l own then(if jT l own then 0 else 3)else 2
def zero:F:=⟨0,⟨0,0,0⟩,[]⟩
def res(l:List Int)(own:St):F:=if ji l own&&jT l own then rd l own else zero
theorem sW(p t:List Int)(ht:t.length=2):(p++t).take ((p++t).length-2)=p/\(p++t).drop ((p++t).length-2)=t:=by
 have:(p++t).length-2=p.length:=by rw[bJ];omega
 rw[this,List.take_left,List.drop_left];exact⟨rfl,rfl⟩
theorem JO(d t:List Int)(own:St)(hd:d.length<=8)(ht:t.length=2)(ho:own.may=true):
  ji (1::(d.length:Int)::(d++t)) own=true/\rd (1::(d.length:Int)::(d++t)) own=⟨1,own,d⟩/\jT (1::(d.length:Int)::(d++t)) own=(two (iM own.seed (1::(d.length:Int)::d))==t):=by
 obtain⟨h1,h2⟩:=sW (1::(d.length:Int)::d) t ht;refine⟨?_,?_,?_⟩
 ·simp only[ji,kd,at_,cnt,kK,eJ,dG,eP,ho,dM,bJ,bg,bC,iE,fW,true_or,gu]
  omega
 ·simp only[rd,kd,at_,cnt,kK,eJ,dG,eP,aQ,Nat.reduceAdd,List.drop_succ_cons,List.drop_zero,List.take_left]
 ·show(two (iM (jI (1::(d.length:Int)::(d++t)) own) ((1::(d.length:Int)::d++t).take _))==(1::(d.length:Int)::d++t).drop _)=_
  simp only[gA]at h1 h2 ⊢;rw[h1,h2];simp[jI,kd]
theorem JQ(k:Int)(hk:2<=k/\k<=3)(st:St)(hst:st.may=true)(d t:List Int)(own:St)(hd:d.length<=8)(ht:t.length=2)(ho:own.may=true):
  ji (k::(st.bytes++(d.length:Int)::(d++t))) own=true/\rd (k::(st.bytes++(d.length:Int)::(d++t))) own=⟨k,st,d⟩/\jT (k::(st.bytes++(d.length:Int)::(d++t))) own=(two (iM 0 (k::(st.bytes++(d.length:Int)::d)))==t):=by
 obtain⟨h1,h2⟩:=sW (k::(st.bytes++(d.length:Int)::d)) t ht;have hk1:¬k=1:=by omega
 have hk2:(k==1)=false:=by simpa using hk1
 have hb:=st.mM.1 hst;have mg:(⟨st.r / 256*256+st.r%256,st.s,st.m⟩:St)=st:=by
  have:st.r / 256*256+st.r%256=st.r:=by omega
  rw[this]
 refine⟨?_,?_,?_⟩
 ·simp only[ji,kd,at_,cnt,kK,St.bytes,gA,gJ,eJ,ai hk1,eP,mg,hst,ho,hk2,dM,bJ,bg,bC,iE,bA,false_or,gu]
  omega
 ·simp only[rd,kd,at_,cnt,kK,St.bytes,gA,gJ,eJ,ai hk1,eP,mg,aQ,Nat.reduceAdd,List.drop_succ_cons,List.drop_zero,List.take_left]
 ·have e:k::(st.bytes++(d.length:Int)::(d++t))=k::(st.bytes++(d.length:Int)::d)++t:=by simp
  unfold jT;rw[e,h1,h2];simp[jI,kd,hk1]
theorem F.vO{f:F}(h:f.k=1):f.bytes=1::(f.d.length:Int)::(f.d++two (iM f.st.seed (1::(f.d.length:Int)::f.d))):=by
 simp[F.bytes,F.body,F.head,F.seed,h]
theorem F.vP{f:F}(h:f.k≠1):f.bytes=f.k::(f.st.bytes++(f.d.length:Int)::(f.d++two (iM 0 (f.k::(f.st.bytes++(f.d.length:Int)::f.d))))):=by
 simp[F.bytes,F.body,F.head,F.seed,h]
theorem back{f:F}(h:f.is=true)(own:St)(ho:own.may=true):
  ji f.bytes own=true/\rd f.bytes own=⟨f.k,if f.k=1 then own else f.st,f.d⟩/\(jT f.bytes own=true↔(f.k=1->own.seed=f.st.seed)):=by
 obtain⟨hk,hs,hd⟩:=f.l9.1 h;by_cases h1:f.k=1
 ·obtain⟨a,b,c⟩:=JO f.d (two (iM f.st.seed (1::(f.d.length:Int)::f.d))) own hd rfl ho
  rw[F.vO h1,a,b,c,au h1,h1];refine⟨rfl,rfl,?_⟩;rw[fW];exact⟨λe _=>Bu _ own.l8 f.st.l8 (Bx e),λe=>by rw[e rfl]⟩
 ·obtain⟨a,b,c⟩:=JQ f.k (by omega) f.st hs f.d (two (iM 0 (f.k::(f.st.bytes++(f.d.length:Int)::f.d)))) own hd rfl ho
  rw[F.vP h1,a,b,c,ai h1];exact⟨rfl,rfl,by simp[h1]⟩
theorem JI:∀{l:List Int},l.length=2->∃x y,l=[x,y]
 |[x,y],_=>⟨x,y,rfl⟩
theorem Bz(x:Nat)(rest:List Int)(h:rest.length=x+2):rest.take (rest.length-2)=rest.take x:=by rw[show rest.length-2=x by omega]
theorem once{l:List Int}(hl:okL l){own:St}(h:ji l own=true)(hs:jT l own=true):(rd l own).is=true/\(rd l own).bytes=l/\okL (rd l own).d:=by
 simp only[ji,bg,bC,iE,fW]at h;obtain⟨⟨⟨⟨⟨⟨⟨h4,ho⟩,k1⟩,k3⟩,h8⟩,hst⟩,hc8⟩,hlen⟩:=h;have hc0:0<=cnt l:=(hl.getD _).1;have hdl:(rd l own).d.length=(cnt l).toNat:=by
  simp only[rd,cQ,fF];omega
 have hsb:=eq_of_beq hs;have hL:l.take (l.length-2)++two (iM (jI l own) (l.take (l.length-2)))=l:=by rw[hsb,iB]
 have hbody:(rd l own).body=l.take (l.length-2):=by
  clear hL hsb hs;by_cases hk:kd l=1
  ·match l,hl,h4,hk,hc0,hlen,hdl with
   |a::b::rest,hl,h4,hk,hc0,hlen,hdl=>
    have ha:a=1:=hk;subst ha;have hb:cnt (1::b::rest)=b:=rfl;have hat:at_ (1::b::rest)=1:=rfl;rw[hb]at hc0;rw[hb,hat]at hlen;simp only[dM]at hlen;have hd:(rd (1::b::rest) own).d=rest.take b.toNat:=rfl;have hd2:(rest.take b.toNat).length=b.toNat:=by rw[cQ];omega
    show F.head _++F.d _=_;rw[F.head,hd,hd2,show(rd (1::b::rest) own).k=1 from rfl,au rfl,fX hc0,show(1::b::rest).length-2=(rest.length-2)+2 by simp only[dM];omega,Bz b.toNat rest (by omega) |>.symm]
    rfl
  ·have h8':8<=l.length:=h8.resolve_left hk
   match l,hl,h8',hk,hc0,hlen,hdl with
   |a::b::c::d::e::g::rest,hl,h8',hk,hc0,hlen,hdl=>
    have ha:¬a=1:=hk;have hat:at_ (a::b::c::d::e::g::rest)=5:=ai hk;have hb:cnt (a::b::c::d::e::g::rest)=g:=by rw[cnt,hat];rfl
    rw[hb]at hc0;rw[hb,hat]at hlen;simp only[dM]at hlen;have hd:(rd (a::b::c::d::e::g::rest) own).d=rest.take g.toNat:=by simp only[rd,hb,hat];rfl
    have hd2:(rest.take g.toNat).length=g.toNat:=by rw[cQ];omega
    have hb1:=hl b (by simp);have hb2:=hl c (by simp);have mg:(rd (a::b::c::d::e::g::rest) own).st=⟨b*256+c,d,e⟩:=by simp only[rd,kK,ai hk];rfl
    show F.head _++F.d _=_;rw[F.head,hd,hd2,show(rd (a::b::c::d::e::g::rest) own).k=a from rfl,ai ha,mg,fX hc0,show(a::b::c::d::e::g::rest).length-2=(rest.length-2)+6 by simp only[dM];omega,Bz g.toNat rest (by omega) |>.symm];simp only[St.bytes];rw[show(b*256+c) / 256=b by omega,show(b*256+c)%256=c by omega]
    rfl
 refine⟨(F.l9 _).2 ⟨⟨k1,k3⟩,hst,by omega⟩,?_,(hl.drop _).take _⟩;unfold F.bytes;rw[hbody];have:(rd l own).seed=jI l own:=by
  unfold F.seed jI rd kK;by_cases hk:kd l=1<;>simp[hk]
 rw[this,hL]
theorem JR{l m:List Int}{i:Nat}(h:i<l.length):(l++m).getD i 0=l.getD i 0:=by
 rw[ay,ay,gV h]
theorem JS{l l':List Int}(own:St)(hlen:l'.length=l.length)(h:∀i,i<=at_ l->l'.getD i 0=l.getD i 0):ji l' own=ji l own:=by
 have hk:kd l'=kd l:=h 0 (bH _);have hat:at_ l'=at_ l:=by rw[at_,at_,hk]
 have hc:cnt l'=cnt l:=by rw[cnt,cnt,hat];exact h _ (aR _)
 have hst:kK l' own=kK l own:=by
  unfold kK;rw[hk]
  split
  ·rfl
  ·rename_i hne
   have:at_ l=5:=ai hne;rw[h 1 (by omega),h 2 (by omega),h 3 (by omega),h 4 (by omega)]
 unfold ji;rw[hlen,hk,hat,hc,hst]
theorem getD_set_ne{l:List Int}{i j:Nat}{x:Int}(h:i≠j):(l.set i x).getD j 0=l.getD j 0:=by
 rw[ay,ay,dU h]
theorem F.JU(f:F):at_ f.bytes+1=f.hl:=by
 by_cases h1:f.k=1
 ·have:kd f.bytes=1:=by rw[F.vO h1];rfl
  rw[at_,au this,F.hl,au h1]
 ·have:kd f.bytes=f.k:=by rw[F.vP h1];rfl
  rw[at_,this,ai h1,F.hl,ai h1]
theorem JV{p q:List Int}{i:Nat}(h:i<p.length)(x:Int):(p++q).set i x=p.set i x++q:=List.set_append_left _ _ h
theorem JW{p q:List Int}{i:Nat}(h:p.length<=i)(x:Int):(p++q).set i x=p++q.set (i-p.length) x:=List.set_append_right _ _ h
theorem turned{f:F}(h:f.is=true)(hd:okL f.d)(own:St)(ho:own.may=true)(hown:f.k=1->own.seed=f.st.seed){i:Nat}(hi:f.hl<=i)(hi2:i<f.bytes.length)(x:Int)(hx:0<=x/\x<256)(hne:x≠f.bytes.getD i 0):
  ji (f.bytes.set i x) own=true/\jT (f.bytes.set i x) own=false:=by
 obtain⟨hF,-,hS⟩:=back h own ho;obtain⟨hk,hs,hd8⟩:=f.l9.1 h;have hat:=F.JU f;have hform:ji (f.bytes.set i x) own=true:=by
  rw[JS own (by simp) λj hj=>getD_set_ne (by omega)];exact hF
 refine⟨hform,?_⟩;have hkd:kd (f.bytes.set i x)=kd f.bytes:=getD_set_ne (by omega);have hsd:jI (f.bytes.set i x) own=jI f.bytes own:=by unfold jI;rw[hkd]
 have hsum:jT f.bytes own=true:=hS.2 hown;have hb:f.bytes=f.body++two (iM f.seed f.body):=rfl;have JX:jI f.bytes own=f.seed:=by
  have hkb:kd f.bytes=f.k:=by
   by_cases h1:f.k=1
   ·rw[F.vO h1,h1];rfl
   ·rw[F.vP h1];rfl
  unfold jI F.seed;rw[hkb]
  split
  ·rename_i h1;exact hown h1
  ·rfl
 rw[fu];intro h2;unfold jT at h2;rw[hsd,JX,fW]at h2;have hlen:=F.qJ f;have hbl:=F.sN f;by_cases hib:i<f.body.length
 ·rw[hb,JV hib]at h2
  obtain⟨e1,e2⟩:=sW (f.body.set i x) (two (iM f.seed f.body)) rfl;rw[e1,e2]at h2;have e3:=Bx h2;have hbi:f.bytes.getD i 0=f.body[i]:=by
   rw[hb,JR hib,ay,aP hib,fZ]
  have hpq:f.body=f.body.take i++f.body[i]::f.body.drop (i+1):=by simp
  have JY:f.body.set i x=f.body.take i++x::f.body.drop (i+1):=by
   rw[List.set_eq_take_append_cons_drop,au hib]
  have hby:=F.sM h hd;refine JL (s:=f.seed) (f.body.take i) (f.body.drop (i+1)) x f.body[i] hx (hby _ (dS _)) (by rw[<-hbi];exact hne) ?_;rw[<-JY,<-hpq];exact e3
 ·rw[hb,JW (by omega)]at h2
  obtain⟨e1,e2⟩:=sW f.body ((two (iM f.seed f.body)).set (i-f.body.length) x) (by simp[two]);rw[e1,e2]at h2;refine hne ?_;rw[hb,ay,gN (by omega)];have hi3:i-f.body.length<(two (iM f.seed f.body)).length:=by simp[two];omega
  have e4:=dn (λl=>l[i-f.body.length]?) h2;simp only[dZ hi3]at e4;rw[e4]
  rfl
end Fr
end
namespace Tb
structure D where
 sy:Bool
 inf:Bool
 li:Int
 sz:Int
deriving DecidableEq
structure T where
 ns:List D
 dr:Int
 wi:Int
 lm:Int
deriving DecidableEq
instance:Inhabited D:=⟨⟨false,false,0,0⟩⟩
def wi(n a b:Int):Bool:=decide (a<=n)&&decide (n<=b)
def has(l:List D)(k:Nat)(n:Int):Bool:=(l.take k).any λd=>decide (d.li=n)
def ok(l:List D)(k:Nat):Bool:=wi (l.getD k default).li (2*l.length) 200&&wi (l.getD k default).sz 1 8&&!has l k (l.getD k default).li
def syn:List D->Nat->Nat
 |_,0=>0
 |l,k+1=>syn l k+(if(l.getD k default).sy then 1 else 0)
def oks(l:List D)(k:Nat):Bool:=(List.range k).all (ok l)
def are(l:List D):Bool:=wi l.length 4 8&&(oks l l.length&&decide (4<=syn l l.length))
def rest(t:T):Bool:=wi t.dr 0 1000&&(wi t.wi (4*t.dr+2) 1000&&wi t.lm t.wi 1000)
def T.is(t:T):Bool:=are t.ns&&rest t
theorem FH(l:List D)(k:Nat):oks l (k+1)=(oks l k&&ok l k):=by
 simp[oks,cZ]
theorem FI{l:List D}{k:Nat}(hk:k<l.length)(h:ok l k=false):oks l l.length=false:=by
 simp only[oks,List.all_eq_false,cA];exact⟨k,hk,by simp[h]⟩
theorem FE(l:List D)(n:Int):has l 0 n=false:=by simp[has]
theorem FG(l:List D)(k:Nat)(hk:k<l.length)(n:Int):has l (k+1) n=(has l k n||decide ((l.getD k default).li=n)):=by
 have e:l.take (k+1)=l.take k++[l.getD k default]:=by
  rw[gM,aP hk,ay,aP hk]
  rfl
 unfold has;rw[e,List.any_append];simp
theorem Ra{l:List D}{k:Nat}(_hk:k<l.length){n:Int}(h:has l (k+1) n=true):has l l.length n=true:=by
 simp only[has,List.any_eq_true]at h ⊢;obtain⟨d,hd,h⟩:=h;exact⟨d,by rw[dz];exact bM hd,h⟩
theorem Rl{l:List D}{j k:Nat}(hjk:j<=k){n:Int}(h:has l j n=true):has l k n=true:=by
 simp only[has,List.any_eq_true]at h ⊢;obtain⟨d,hd,h⟩:=h;refine⟨d,?_,h⟩;rw[show j=min j k by omega,<-List.take_take]at hd;exact bM hd
theorem Rj(l:List D)(k:Nat)(_hk:k<=l.length)(n:Int):has (l.take k) (l.take k).length n=has l k n:=by
 unfold has;rw[dz]
theorem x9(l:List D):∀k,syn l k<=k
 |0=>aR _
 |k+1=>by have:=x9 l k;unfold syn;split<;>omega
def flag(d:D):Int:=(if d.sy then 1 else 0)+(if d.inf then 2 else 0)
def oZ(d:D):List Int:=[flag d,d.li / 256,d.li%256,d.sz]
def two(n:Int):List Int:=[n / 256,n%256]
def pq(l:List D):List Int:=l.flatMap oZ
def T.bytes(t:T):List Int:=([77,84,82,78,(t.ns.length:Int)]++pq t.ns)++two t.dr++two t.wi++two t.lm
def dOf(a b c d:Int):D:=⟨decide (a%2=1),decide (a / 2%2=1),b*256+c,d⟩
def dAt(l:List Int)(i:Nat):D:=dOf (l.getD i 0) (l.getD (i+1) 0) (l.getD (i+2) 0) (l.getD (i+3) 0)
def uN(l:List Int)(i:Nat):Int:=l.getD i 0*256+l.getD (i+1) 0
def nOf(l:List Int):Nat:=(l.getD 4 0).toNat
def rdN(l:List Int)(k:Nat):List D:=(List.range k).map λi=>dAt l (5+4*i)
def FM(l:List Int):Bool:=decide (5<=l.length)&&decide (l.length=11+4*nOf l)
def rd(l:List Int):T:=⟨rdN l (nOf l),uN l (5+4*nOf l),uN l (7+4*nOf l),uN l (9+4*nOf l)⟩
def zero:T:=⟨[],0,0,0⟩
def good(l:List Int):Bool:=FM l&&((rd l).is&&decide ((rd l).bytes=l))
def res(l:List Int):T:=if good l then rd l else zero
def err(l:List Int):Int:=if good l then 0 else 2
theorem yh(l:List D):(pq l).length=4*l.length:=by
 induction l with
 |nil=>rfl
 |cons d l ih=>simp only[pq,gK,bJ,dM]at ih ⊢;rw[ih];simp[oZ];omega
theorem T.qJ(t:T):t.bytes.length=11+4*t.ns.length:=by
 unfold T.bytes;simp only[bJ,yh,two,dM,fw];omega
theorem Rm(l:List Int)(k:Nat):(rdN l k).length=k:=by simp[rdN]
theorem lC(n a b:Int):wi n a b=true↔a<=n/\n<=b:=by simp[wi]
theorem C9(l:List D)(k:Nat):oks l k=true↔∀i,i<k->ok l i=true:=by simp[oks]
structure May(t:T):Prop where
 n4:4<=t.ns.length
 n8:t.ns.length<=8
 nodes:∀d∈t.ns,(0<=d.li/\d.li<=200)/\1<=d.sz/\d.sz<=8
 dr:0<=t.dr/\t.dr<=1000
 wi:0<=t.wi/\t.wi<=1000
 lm:0<=t.lm/\t.lm<=1000
theorem T.may{t:T}(h:t.is=true):May t:=by
 simp only[T.is,are,rest,bg,lC]at h;obtain⟨⟨⟨h1,h2⟩,h3,-⟩,⟨h4,h5⟩,⟨h6,h7⟩,h8,h9⟩:=h;rw[C9]at h3;refine⟨by omega,by omega,λd hd=>?_,⟨h4,h5⟩,⟨by omega,h7⟩,by omega,h9⟩;obtain⟨i,hi,rfl⟩:=List.mem_iff_getElem.1 hd;have:=h3 i hi;simp only[ok,bg,lC,ay,aP hi,fZ]at this;obtain⟨⟨⟨a,b⟩,c,d⟩,-⟩:=this;exact⟨⟨by omega,b⟩,c,d⟩
theorem nU{α:Type}(l m:List α)(i:Nat)(d:α)(h:i<l.length):(l++m).getD i d=l.getD i d:=by
 simp[ay,fM,h]
theorem yj{α:Type}(l m:List α)(i:Nat)(d:α)(h:l.length<=i):(l++m).getD i d=m.getD (i-l.length) d:=by
 simp[ay,fM,Nat.not_lt.2 h]
theorem Ro(l:List D)(i:Nat)(hi:i<l.length)(j:Nat)(hj:j<4):(pq l).getD (4*i+j) 0=(oZ (l.getD i default)).getD j 0:=by
 induction l generalizing i with
 |nil=>simp at hi
 |cons d l ih=>
  have e:pq (d::l)=oZ d++pq l:=by simp[pq]
  have hl:(oZ d).length=4:=rfl;rw[e]
  cases i with
  |zero=>rw[nU _ _ _ _ (by omega)];simp
  |succ i=>
   rw[yj _ _ _ _ (by omega)];have:=ih i (by simpa using hi);rw[show 4*(i+1)+j-(oZ d).length=4*i+j by omega,this];simp
theorem Rp(d:D)(hl:0<=d.li):dOf (flag d) (d.li / 256) (d.li%256) d.sz=d:=by
 obtain⟨sy,inf,li,sz⟩:=d;simp only at hl;have h2:li / 256*256+li%256=li:=by omega
 have h0:decide (flag ⟨sy,inf,li,sz⟩%2=1)=sy:=by cases sy<;>cases inf<;>simp[flag]
 have h1:decide (flag ⟨sy,inf,li,sz⟩ / 2%2=1)=inf:=by cases sy<;>cases inf<;>simp[flag]
 unfold dOf;rw[h0,h1];simp only[h2]
theorem nR(n:Int):(two n).getD 0 0*256+(two n).getD 1 0=n:=by
 simp only[two,eJ,eP];omega
theorem FP(t:T):t.bytes.getD 4 0=t.ns.length:=by
 unfold T.bytes;rw[nU _ _ _ _ (by simp),nU _ _ _ _ (by simp),nU _ _ _ _ (by simp),nU _ _ _ _ (by simp)]
 rfl
theorem Rq(t:T)(i:Nat)(hi:i<t.ns.length)(j:Nat)(hj:j<4):t.bytes.getD (5+4*i+j) 0=(oZ (t.ns.getD i default)).getD j 0:=by
 have hn:=yh t.ns;unfold T.bytes;have h5:([77,84,82,78,(t.ns.length:Int)]:List Int).length=5:=rfl;rw[nU _ _ _ _ (by simp only[bJ,hn,h5];omega),nU _ _ _ _ (by simp only[bJ,hn,h5];omega),nU _ _ _ _ (by simp only[bJ,hn,h5];omega),
  yj _ _ _ _ (by rw[h5];omega),h5,show 5+4*i+j-5=4*i+j by omega,Ro _ _ hi _ hj]
theorem Rt(t:T)(j:Nat):t.bytes.getD (5+4*t.ns.length+j) 0=(two t.dr++two t.wi++two t.lm).getD j 0:=by
 have hn:=yh t.ns;unfold T.bytes;have h5:([77,84,82,78,(t.ns.length:Int)]:List Int).length=5:=rfl;rw[List.append_assoc,List.append_assoc,yj _ _ _ _ (by simp only[bJ,hn,h5];omega)];simp only[bJ,hn,h5,List.append_assoc];rw[show 5+4*t.ns.length+j-(5+4*t.ns.length)=j by omega]
theorem FQ{t:T}(h:t.is=true):rd t.bytes=t:=by
 have hm:=T.may h;have hN:nOf t.bytes=t.ns.length:=by rw[nOf,FP];simp
 obtain⟨ns,dr,wi,lm⟩:=t;simp only at hN;have h1:rdN (T.bytes ⟨ns,dr,wi,lm⟩) ns.length=ns:=by
  apply fo
  intro i;by_cases hi:i<ns.length
  ·have hd:=hm.nodes (ns[i]) (dS hi)
   have e:=λj hj=>Rq ⟨ns,dr,wi,lm⟩ i hi j hj;have e0:=e 0 (by omega);rw[gC]at e0;have hg:ns.getD i default=ns[i]:=by simp[ay,aP hi]
   simp only[hg]at e e0;rw[rdN,dF,bW hi,aP hi];simp only[fK,dAt];rw[e0,e 1 (by omega),e 2 (by omega),e 3 (by omega)];exact dn some (Rp _ hd.1.1)
  ·rw[aY (by rw[Rm];omega),aY (by omega)]
 have e:=λj=>Rt ⟨ns,dr,wi,lm⟩ j;simp only at e;unfold rd uN;rw[hN,h1,show 7+4*ns.length=5+4*ns.length+2 by omega,show 9+4*ns.length=5+4*ns.length+4 by omega];simp only[fe]at e ⊢;have e0:=e 0;rw[gC]at e0;rw[e0,e,e,e,e,e];have h2:=nR dr;have h3:=nR wi;have h4:=nR lm;simp only[two,eJ,eP]at h2 h3 h4;simp only[two,gA,gJ,eJ,eP,h2,h3,h4,Nat.reduceAdd]
theorem Ru{t:T}(h:t.is=true):good t.bytes=true:=by
 have hb:=FQ h;have hn:nOf t.bytes=t.ns.length:=by rw[nOf,FP];simp
 have hl:=t.qJ;simp only[good,hb,h,FM,hn,hl,cK,bg,bC,gu];omega
theorem back{t:T}(h:t.is=true):res t.bytes=t/\err t.bytes=0:=by
 rw[res,err,Ru h];exact⟨FQ h,rfl⟩
theorem once{l:List Int}(h:err l=0):(res l).is=true/\(res l).bytes=l:=by
 rw[err]at h
 split at h
 ·rename_i hg
  rw[res,hg];simp only[good,bg,bC]at hg;exact⟨hg.2.1,hg.2.2⟩
 ·cases h
end Tb
section
open Go.RowKit
open Tb (D T)
def dc(d:D):List Value:=[↑d.sy,↑d.inf,↑d.li,↑d.sz]
def dV(d:D):Value:=.agg #[↑d.sy,↑d.inf,↑d.li,↑d.sz]
def jW(t:T)(v:Value):Value:=.agg #[v,↑t.dr,↑t.wi,↑t.lm]
structure AtD(w:World)(b off:Nat)(d:D):Prop where
 c0:w.cell? (b,off)=some ↑d.sy
 c1:w.cell? (b,off+1)=some ↑d.inf
 c2:w.cell? (b,off+2)=some ↑d.li
 c3:w.cell? (b,off+3)=some ↑d.sz
def lq(w:World)(B:Nat)(A:Option Addr)(l:List D):Prop:=
 0<l.length->∃b off,A=some ⟨b,off,none⟩/\b<B/\∀k,k<l.length->AtD w b (off+k*4) (l.getD k default)
structure jh(w:World)(B:Nat)(v:Value)(l:List D):Prop where
 at_:∃A c,v=.slice A l.length c/\l.length<=c/\c<=maxLen/\lq w B A l/\(A=none->l.length=0/\c=0)
def jm(w:World)(base:Nat)(v:Value)(l:List D):Prop:=w.ownsRow base 67 4 v l.length (l.flatMap dc)
section
variable {w w':World}{B B' Bs:Nat}{A:Option Addr}{v:Value}{l m:List D}
theorem AtD.keep{b off:Nat}{d:D}(h:AtD w b off d)(hk:∀o,w'.cell? ⟨b,o,none⟩=w.cell? ⟨b,o,none⟩):AtD w' b off d:=
 ⟨(hk _).trans h.c0,(hk _).trans h.c1,(hk _).trans h.c2,(hk _).trans h.c3⟩
theorem lq.keep(h:lq w B A l)(hk:∀b o,b<B->w'.cell? ⟨b,o,none⟩=w.cell? ⟨b,o,none⟩):lq w' B A l:=λh0=>by
 obtain⟨b,off,e,hb,hc⟩:=h h0;exact⟨b,off,e,hb,λk hlt=>(hc k hlt).keep λo=>hk b o hb⟩
theorem lq.below(h:lq w B A l)(hb:Below B w w'):lq w' B A l:=h.keep λb o hp=>hb.cell (p:=(b,o)) hp
theorem lq.more(h:lq w B A l)(hB:B<=B'):lq w B' A l:=λh0=>by
 obtain⟨b,off,e,hb,hc⟩:=h h0;exact⟨b,off,e,by omega,hc⟩
theorem jh.below(h:jh w B v l)(hb:Below B w w'):jh w' B v l:=⟨by
 obtain⟨A,c,rfl,h1,h2,h3,h4⟩:=h.at_;exact⟨A,c,rfl,h1,h2,h3.below hb,h4⟩⟩
theorem jh.more(h:jh w B v l)(hB:B<=B'):jh w B' v l:=⟨by
 obtain⟨A,c,rfl,h1,h2,h3,h4⟩:=h.at_;exact⟨A,c,rfl,h1,h2,h3.more hB,h4⟩⟩
theorem CM(l:List D)(k:Nat)(hk:k<l.length)(j:Nat)(hj:j<4):(l.flatMap dc)[k*4+j]?=(dc (l.getD k default))[j]?:=by
 induction l generalizing k with
 |nil=>simp at hk
 |cons d l ih=>
  have h4:(dc d).length=4:=rfl;rw[gK]
  cases k with
  |zero=>rw[gV (by omega)];simp
  |succ k=>
   rw[gN (by omega),h4,show(k+1)*4+j-4=k*4+j by omega,ih k (by simpa using hk)];simp
theorem CK(l:List D):(l.flatMap dc).length=l.length*4:=by
 induction l with
 |nil=>rfl
 |cons d l ih=>rw[gK,bJ,ih];simp[dc];omega
theorem jm.atD{g n c:Nat}(h:jm w Bs (.slice (some (g,0)) n c) l)(hn:n=l.length)(k:Nat)(hk:k<l.length):AtD w g (k*4) (l.getD k default):=by
 subst hn;have e:=λj(hj:j<4)=>(gO h (k*4+j) (by omega)).trans (CM l k hk j hj);exact⟨by have:=e 0 (by omega);rw[gC]at this;exact this,e 1 (by omega),e 2 (by omega),e 3 (by omega)⟩
theorem jm.form(h:jm w Bs v l):(v=.slice none 0 0/\l.length=0)\/∃g c,v=.slice (some ⟨g,0,none⟩) l.length c/\Bs<=g/\g<w.heap.size/\l.length<=c/\c<=maxLen:=by
 rcases h.2 with h1|⟨g,cap,cur,h1,h2,h3,h4,h5,-⟩
 ·exact .inl h1
 ·exact .inr ⟨g,cap,h1,h2,(bT.1 h3).1,h4,h5⟩
theorem jm.sees(h:jm w Bs v l):jh w w v l:=⟨by
 rcases h.form with⟨rfl,h0⟩|⟨g,c,rfl,h1,h2,h3,h4⟩
 ·exact⟨none,0,by rw[h0],by omega,by unfold maxLen;omega,λh=>absurd h (by omega),λ_=>⟨h0,rfl⟩⟩
 ·exact⟨_,c,rfl,h3,h4,λ_=>⟨g,0,rfl,h2,λk hk=>by rw[bU];exact jm.atD h rfl k hk⟩,λh=>by cases h⟩⟩
theorem jm.nil:jm w Bs (.slice none 0 0) []:=dX _ _ _ _
theorem jm.base(h:jm w Bs v l)(hB:B<=Bs):jm w B v l:=by
 refine⟨h.1,?_⟩;rcases h.2 with h|⟨g,cap,cur,h1,h2,h3⟩
 ·exact .inl h
 ·exact .inr ⟨g,cap,cur,h1,by omega,h3⟩
theorem jm.below(h:jm w Bs v l)(hb:Below B' w w')(hB:w.heap.size<=B'):jm w' Bs v l:=
 cB (row:=none) h ⟨hb.os,hb.tape,hb.output,hb.size,λk hk _=>hb.block k (by omega)⟩ (by
  rcases h.2 with⟨rfl,_⟩|⟨g,cap,cur,rfl,_⟩
  ·exact .inl rfl
  ·exact .inr (by simp[Value.ownBlock]))
theorem jm.alloc(h:jm w Bs v l)(o:Obj):jm (w.alloc o) Bs v l:=eH h o
end
end
section
open Go.RowKit
open Tb (D T)
theorem FC(n a b:Int)(w:World):Calls Tryz.prog 85 #[↑n,↑a,↑b] w λe w'=>e=.returned ↑(Tb.wi n a b)/\w=w':=by
 unfold Tb.wi;by_cases h:a<=n
 all_goals
  go_enter Tryz.func85,Tryz.ntmps85
  go_wp2;go_ret;exact⟨by simp[*]<;>omega,rfl⟩
theorem Q6(n a b:Int)(w:World):Calls Tryz.prog 61 #[↑n,↑a,↑b] w λe w'=>e=.returned ↑(Tb.wi n a b)/\w=w':=by
 unfold Tb.wi;by_cases h:a<=n
 all_goals
  go_enter Tryz.func61,Tryz.ntmps61
  go_wp2;go_ret;exact⟨by simp[*]<;>omega,rfl⟩
theorem Q7(d:D)(n:Int)(q:Nat)(w:World)(hq:w.cell? (q,0)=some ↑n):
  Calls Tryz.prog 188 #[dV d,↑(q,0)] w λe w'=>e=.returned ↑(decide (d.li=n))/\Below w w w':=by
 unfold dV;have hq2:=λo=>bn o hq
 go_enter Tryz.func188,Tryz.ntmps188
 go_wp2;go_ret;exact⟨rfl,(ah _ _).alloc lr _⟩
theorem Q8(A:Option Addr)(c:Nat)(l:List D)(n:Int)(q:Nat)(w:World)(hs:lq w w A l)(hlen:l.length<=c)(hc:c<=maxLen)(hq:w.cell? (q,0)=some ↑n):
  Calls Tryz.prog 214 #[.slice A l.length c,.func (.func 188) #[] #[↑(q,0)]] w λe w'=>
   ∃r:Int,e=.returned ↑r/\decide (0<=r)=Tb.has l l.length n/\Below w w w':=by
 have Q9:=gh w _ hq;unfold maxLen at hc;have h0:=af (Tb.FE l n);have hS:=af (Tb.FG l)
 go_enter Tryz.func214,Tryz.ntmps214
 go_wp2
 go_loopw [8] (λi wr=>∃k:Nat,k<=l.length/\i=↑k/\Hid (Tb.has l k n=false)/\Below w w wr) (λi _=>l.length-(intOf i).toNat)
 case atStart=>exact⟨0,by omega,rfl,h0,ah _ _⟩
 case round=>
  obtain⟨k,hk,rfl,hn,hb⟩:=hrel;by_cases hlt:k<l.length
  ·obtain⟨b,off,rfl,hbb,hd⟩:=hs.below hb (by omega)
   obtain⟨e0,e1,e2,e3⟩:=hd k hlt;have q1:decide ((k:Int)<(l.length:Nat))=true:=by simp;omega
   have hq2:=(hb.cell (p:=(q,0)) Q9).trans hq;have hcall:=af (Q7 (l.getD k default) n q wr hq2);unfold dV at hcall;generalize hdd:l.getD k default=d at *;have hdd:=af hdd
   cases hdn:decide (d.li=n)
   all_goals
    rw[hdn]at hcall;go_wp2_with fail;refine hcall.o.mono ?_;rintro e w1 ⟨rfl,hb1⟩;have hb2:=hb.trans (hb1.mono hb.size);clear hcall;go_wp2
   ·go_roundw
    case rel=>exact⟨k+1,by omega,by go_num,af (by rw[hS.o k hlt,hn.o,hdd.o];exact hdn),hb2⟩
    case measure=>simp[intOf];omega
   ·go_ret
    refine⟨k,rfl,?_,hb2⟩;have hT:Tb.has l (k+1) n=true:=by rw[hS.o k hlt,hdd.o,hdn];simp
    rw[Tb.Ra hlt hT];simp
  ·obtain rfl:k=l.length:=by omega
   have q1:decide ((l.length:Int)<(l.length:Nat))=false:=by simp
   go_wp2;go_ret;exact⟨-1,rfl,by rw[hn.o];decide,hb⟩
theorem Rb(A:Option Addr)(c:Nat)(l:List D)(n:Int)(q:Nat)(w:World)(hs:lq w w A l)(hlen:l.length<=c)(hc:c<=maxLen)(hq:w.cell? (q,0)=some ↑n):
  Calls Tryz.prog 187 #[.slice A l.length c,.func (.func 188) #[] #[↑(q,0)]] w λe w'=>
   e=.returned ↑(Tb.has l l.length n)/\Below w w w':=by
 have hI:=af (Q8 A c l n q w hs hlen hc hq);generalize Tb.has l l.length n=h at *
 go_enter Tryz.func187,Tryz.ntmps187
 go_wp2_with fail;refine hI.o.mono ?_;rintro e w1 ⟨r,rfl,hr,hb⟩;have hr2:decide (r>=0)=h:=by rw[<-hr]
 clear hI;go_wp2;go_ret;exact⟨by simp[<-hr],hb⟩
theorem Rc(A:Option Addr)(c:Nat)(l:List D)(n:Int)(w:World)(hs:lq w w A l)(hlen:l.length<=c)(hc:c<=maxLen):
  Calls Tryz.prog 139 #[.slice A l.length c,↑n] w λe w'=>e=.returned ↑(Tb.has l l.length n)/\Below w w w':=by
 have hb0:=(ah w w).alloc lr (.cells #[↑n] 3);have hI:=Rb A c l n w (w.alloc (.cells #[↑n] 3)) ((hs.below hb0).more (by simp)) hlen hc (by rw[aZ _ _ _ _ rfl];rfl);have hI:=af hI;have hmf:∀(fn:Fn)(first cap:Array Value)(w:World),(Instr.makeFunc fn first cap).run Tryz.prog w=.ok (.func fn first cap) w:=λ_ _ _ _=>rfl;generalize Tb.has l l.length n=h at *
 go_enter Tryz.func139,Tryz.ntmps139
 go_wp2_with fail;refine hI.o.mono ?_;rintro e w1 ⟨rfl,hb⟩;have hb1:=hb0.trans (hb.mono (by simp));clear hI;go_wp2;go_ret;exact⟨rfl,hb1⟩
end
section
namespace Clk
def iM:List Int->Int
 |[]=>0
 |x::l=>x+iM l
def lR:List Int->Int
 |[]=>0
 |x::l=>l.foldl min x
def lS:List Int->Int
 |[]=>0
 |x::l=>l.foldl max x
def avg(l:List Int):Int:=
 if l.length=0 then 0 else if l.length<3 then iM l / (l.length:Int)else(iM l-lR l-lS l) / ((l.length:Int)-2)
def sorted(l:List Int):Prop:=∀p q,p<q->q<l.length->l.getD p 0<=l.getD q 0
theorem qy(l m:List Int):iM (l++m)=iM l+iM m:=by
 induction l with
 |nil=>simp[iM]
 |cons x l ih=>simp[iM,ih];omega
theorem He{l m:List Int}(h:l.Perm m):iM l=iM m:=by
 induction h with
 |nil=>rfl
 |cons x _ ih=>simp[iM,ih]
 |swap x y l=>simp[iM];omega
 |trans _ _ h1 h2=>exact h1.trans h2
theorem Hf(l:List Int)(a:Int):l.foldl min a<=a/\∀x∈l,l.foldl min a<=x:=by
 induction l generalizing a with
 |nil=>simp
 |cons y l ih=>
  obtain⟨h1,h2⟩:=ih (min a y);refine⟨by simp only[dI];omega,λx hx=>?_⟩;simp only[dI];rcases bq.1 hx with rfl|hx
  ·omega
  ·exact h2 x hx
theorem ze(l:List Int)(a:Int):l.foldl min a=a\/l.foldl min a∈l:=by
 induction l generalizing a with
 |nil=>simp
 |cons y l ih=>
  simp only[dI,bq];rcases ih (min a y)with h|h
  ·rw[h];omega
  ·exact .inr (.inr h)
theorem Hg(l:List Int)(a:Int):a<=l.foldl max a/\∀x∈l,x<=l.foldl max a:=by
 induction l generalizing a with
 |nil=>simp
 |cons y l ih=>
  obtain⟨h1,h2⟩:=ih (max a y);refine⟨by simp only[dI];omega,λx hx=>?_⟩;simp only[dI];rcases bq.1 hx with rfl|hx
  ·omega
  ·exact h2 x hx
theorem zf(l:List Int)(a:Int):l.foldl max a=a\/l.foldl max a∈l:=by
 induction l generalizing a with
 |nil=>simp
 |cons y l ih=>
  simp only[dI,bq];rcases ih (max a y)with h|h
  ·rw[h];omega
  ·exact .inr (.inr h)
theorem zl{l:List Int}(h:l≠[]):lR l∈l/\∀x∈l,lR l<=x:=by
 cases l with
 |nil=>exact absurd rfl h
 |cons y l=>
  obtain⟨h1,h2⟩:=Hf l y;refine⟨?_,λx hx=>?_⟩
  ·rcases ze l y with h|h
   ·show l.foldl min y∈y::l;rw[h];simp
   ·exact aT _ h
  ·rcases bq.1 hx with rfl|hx
   ·exact h1
   ·exact h2 x hx
theorem zm{l:List Int}(h:l≠[]):lS l∈l/\∀x∈l,x<=lS l:=by
 cases l with
 |nil=>exact absurd rfl h
 |cons y l=>
  obtain⟨h1,h2⟩:=Hg l y;refine⟨?_,λx hx=>?_⟩
  ·rcases zf l y with h|h
   ·show l.foldl max y∈y::l;rw[h];simp
   ·exact aT _ h
  ·rcases bq.1 hx with rfl|hx
   ·exact h1
   ·exact h2 x hx
theorem Hj{l m:List Int}(h:l.Perm m):lR l=lR m:=by
 by_cases h0:l=[]
 ·subst h0;rw[h.symm.eq_nil]
 have h1:m≠[]:=λe=>h0 (by subst e;exact h.eq_nil);obtain⟨a,b⟩:=zl h0;obtain⟨c,d⟩:=zl h1;have:=b _ (h.symm.mem_iff.1 c);have:=d _ (h.mem_iff.1 a);omega
theorem Hl{l m:List Int}(h:l.Perm m):lS l=lS m:=by
 by_cases h0:l=[]
 ·subst h0;rw[h.symm.eq_nil]
 have h1:m≠[]:=λe=>h0 (by subst e;exact h.eq_nil);obtain⟨a,b⟩:=zm h0;obtain⟨c,d⟩:=zm h1;have:=b _ (h.symm.mem_iff.1 c);have:=d _ (h.mem_iff.1 a);omega
theorem G7{l m:List Int}(h:l.Perm m):avg l=avg m:=by
 unfold avg;rw[He h,Hj h,Hl h,h.length_eq]
def swp(l:List Int)(j:Nat):List Int:=(l.set j (l.getD (j-1) 0)).set (j-1) (l.getD j 0)
theorem zn(l:List Int)(j k:Nat)(h0:0<j)(hj:j<l.length):(swp l j).getD k 0=if k=j-1 then l.getD j 0 else if k=j then l.getD (j-1) 0 else l.getD k 0:=by
 unfold swp;simp only[ay,List.getElem?_set,List.length_set];by_cases h1:k=j-1
 ·subst h1;simp[show j-1<l.length by omega]
 ·rw[ai (λh=>h1 h.symm),ai h1]
  by_cases h2:k=j
  ·subst h2;simp[hj]
  ·rw[ai (λh=>h2 h.symm),ai h2]
theorem GU(l:List Int)(j:Nat)(h0:0<j)(hj:j<l.length):(swp l j).Perm l:=by
 obtain⟨i,rfl⟩:∃i,j=i+1:=⟨j-1,by omega⟩;unfold swp;simp only[Nat.add_sub_cancel]
 induction l generalizing i with
 |nil=>simp at hj
 |cons x l ih=>
  cases i with
  |zero=>
   cases l with
   |nil=>simp at hj
   |cons y l=>simpa using List.Perm.swap x y l
  |succ i=>
   simp only[dM,Nat.add_lt_add_iff_right]at hj;have:=ih i (by omega) hj;simpa using List.Perm.cons x this
def inz(l:List Int)(i j:Nat):Prop:=∀p q,p<q->q<=i->q≠j->l.getD p 0<=l.getD q 0
theorem GQ{l:List Int}{i:Nat}(h:∀p q,p<q->q<i->l.getD p 0<=l.getD q 0):inz l i i:=λp q h1 h2 h3=>h p q h1 (by omega)
theorem yV{l:List Int}{i j:Nat}(h:inz l i j)(hj:j=0\/l.getD (j-1) 0<=l.getD j 0):∀p q,p<q->q<i+1->l.getD p 0<=l.getD q 0:=λp q h1 h2=>by
 by_cases hq:q=j
 ·subst hq
  rcases hj with hj|hj
  ·omega
  ·by_cases hp:p=q-1
   ·subst hp;exact hj
   ·exact Int.le_trans (h p (q-1) (by omega) (by omega) (by omega)) hj
 ·exact h p q h1 (by omega) hq
theorem GR{l:List Int}{i j:Nat}(h:inz l i j)(h0:0<j)(hji:j<=i)(hi:i<l.length)(hlt:l.getD j 0<l.getD (j-1) 0):inz (swp l j) i (j-1):=λp q h1 h2 h3=>by
 rw[zn l j p h0 (by omega),zn l j q h0 (by omega),ai h3];by_cases hq:q=j
 ·rw[au hq]
  by_cases hp:p=j-1
  ·rw[au hp];omega
  ·rw[ai hp,ai (by omega)]
   exact h p (j-1) (by omega) (by omega) (by omega)
 ·rw[ai hq]
  by_cases hp:p=j-1
  ·rw[au hp];exact h j q (by omega) h2 hq
  ·rw[ai hp]
   by_cases hp2:p=j
   ·rw[au hp2];exact h (j-1) q (by omega) h2 hq
   ·rw[ai hp2];exact h p q h1 h2 hq
theorem G6{l:List Int}(hs:sorted l)(h3:3<=l.length)(h4:l.length<=4):avg l=iM ((l.drop 1).take (l.length-2)) / (((l.drop 1).take (l.length-2)).length:Int):=by
 match l,hs,h3,h4 with
 |[a,b,c],hs,_,_=>
  have h1:=hs 0 1 (by omega) (by simp);have h2:=hs 1 2 (by omega) (by simp);simp at h1 h2;simp[avg,iM,lR,lS];omega
 |[a,b,c,d],hs,_,_=>
  have h1:=hs 0 1 (by omega) (by simp);have h2:=hs 1 2 (by omega) (by simp);have h3:=hs 2 3 (by omega) (by simp);simp at h1 h2 h3;simp[avg,iM,lR,lS];omega
theorem G5{l:List Int}(h0:0<l.length)(h:l.length<3):avg l=iM l / (l.length:Int):=by
 unfold avg;rw[ai (by omega),au h]
theorem td1(x:Int):x.tdiv 1=x/\x.tmod 1=0:=by simp
theorem td2(x:Int):x=2*x.tdiv 2+x.tmod 2/\(0<=x->0<=x.tmod 2/\x.tmod 2<=1)/\(x<0->-1<=x.tmod 2/\x.tmod 2<=0):=by
 refine⟨by have:=Int.mul_tdiv_add_tmod x 2;omega,λh=>?_,λh=>?_⟩
 ·have:=dA (b:=2) h;omega
 ·have e:x.tmod 2=-((-x).tmod 2):=by rw[Int.neg_tmod,Int.neg_neg]
  have:=dA (a:=-x) (b:=2) (by omega);omega
theorem zo{l:List Int}{B:Int}(hB:0<=B)(h:∀x∈l,-B<=x/\x<=B)(h4:l.length<=4):-B<=avg l/\avg l<=B:=by
 match l,h4 with
 |[],_=>simp[avg];omega
 |[a],_=>simp at h;simp[avg,iM];omega
 |[a,b],_=>simp at h;simp[avg,iM];omega
 |[a,b,c],_=>simp at h;simp[avg,iM,lR,lS];omega
 |[a,b,c,d],_=>simp at h;simp[avg,iM,lR,lS];omega
end Clk
end
end Go.Proofs.YteadkhigkmijiaaGreat
