/- Texts FrMath, FrA, FrB, TlMath, TlA, AlR in one. -/
import Derived.Deep.RegionHeld3
import Derived.Deep.RegionLaw
import Derived.RegionTactic
import Derived.BigRegion
import Derived.Test.YteadkhigkmijiaaGreatPC1
import Derived.Test.YteadkhigkmijiaaGreatPC2
import Derived.Test.YteadkhigkmijiaaGreatPC3
set_option linter.all false
namespace Go.Proofs.YteadkhigkmijiaaGreat
section
namespace Fr
def iM(s:Nat)(l:List Int):Nat:=l.foldl (λn c=>Cr.kW n c.toNat) s
theorem qy(s:Nat)(l m:List Int):iM s (l++m)=iM (iM s l) m:=fO
theorem pL{s:Nat}(h:s<32768)(l:List Int):iM s l<32768:=by
 induction l generalizing s with
 |nil=>exact h
 |cons x l ih=>exact ih (Cr.pF _ _)
theorem Bu{m n:Nat}(l:List Int)(hm:m<32768)(hn:n<32768)(h:iM m l=iM n l):m=n:=by
 induction l generalizing m n with
 |nil=>exact h
 |cons x l ih=>exact Cr.Im _ hm hn (ih (Cr.pF _ _) (Cr.pF _ _) h)
theorem Bv(s:Nat)(l:List Int):∀k,k<=l.length->Cr.sumTo s (λj=>l.getD j 0) k=iM s (l.take k)
 |0,_=>rfl
 |k+1,h=>by
  have hk:k<l.length:=by omega
  rw[Cr.sumTo,Bv s l k (by omega),fN hk,qy];simp[iM,ay,hk]
theorem sK(s:Nat)(l:List Int):Cr.sumTo s (λj=>l.getD j 0) l.length=iM s l:=by
 rw[Bv s l _ (aR _),dz]
def okL(l:List Int):Prop:=∀x∈l,0<=x/\x<256
theorem okL.append{l m:List Int}(h:okL l)(h':okL m):okL (l++m):=λx hx=>by
 rcases bG.1 hx with hx|hx
 ·exact h x hx
 ·exact h' x hx
theorem okL.take{l:List Int}(h:okL l)(k:Nat):okL (l.take k):=λx hx=>h x (bM hx)
theorem okL.drop{l:List Int}(h:okL l)(k:Nat):okL (l.drop k):=λx hx=>h x (fP hx)
theorem okL.getD{l:List Int}(h:okL l)(k:Nat):0<=l.getD k 0/\l.getD k 0<256:=by
 by_cases hk:k<l.length
 ·rw[ay,aP hk,fZ]
  exact h _ (dS _)
 ·rw[ay,aY (by omega)]
  exact⟨by decide,by decide⟩
theorem JL{s:Nat}(p q:List Int)(x y:Int)(hx:0<=x/\x<256)(hy:0<=y/\y<256)(h:x≠y):iM s (p++x::q)≠iM s (p++y::q):=by
 intro e;rw[qy,qy]at e;have e2:iM (Cr.kW (iM s p) x.toNat) q=iM (Cr.kW (iM s p) y.toNat) q:=e;have:=Cr.Ip (by omega) (by omega) (Bu q (Cr.pF _ _) (Cr.pF _ _) e2);omega
def two(n:Nat):List Int:=[((n / 256:Nat):Int),((n%256:Nat):Int)]
theorem sV{n:Nat}(h:n<65536):okL (two n):=λx hx=>by
 rcases bq.1 hx with rfl|hx
 ·omega
 ·rcases bq.1 hx with rfl|hx
  ·omega
  ·cases hx
theorem Bx{m n:Nat}(h:two m=two n):m=n:=by
 simp only[two,List.cons.injEq,gu]at h;omega
structure St where
 r:Int
 s:Int
 m:Int
def St.may(s:St):Bool:=decide (0<=s.r)&&decide (s.r<=65535)&&decide (0<=s.s)&&decide (s.s<8)&&decide (0<=s.m)&&decide (s.m<=255)
theorem St.mM(s:St):s.may=true↔(0<=s.r/\s.r<=65535)/\(0<=s.s/\s.s<8)/\0<=s.m/\s.m<=255:=by
 simp[St.may,and_assoc]
def St.bytes(s:St):List Int:=[s.r / 256,s.r%256,s.s,s.m]
theorem St.pK{s:St}(h:s.may=true):okL s.bytes:=λx hx=>by
 have:=s.mM.1 h;simp only[St.bytes,bq,cM,fL]at hx;omega
def St.seed(s:St):Nat:=if s.may then iM 32767 s.bytes else 0
theorem St.l8(s:St):s.seed<32768:=by
 unfold St.seed
 split
 ·exact pL (by decide) _
 ·decide
structure F where
 k:Int
 st:St
 d:List Int
def F.is(f:F):Bool:=decide (1<=f.k)&&decide (f.k<=3)&&f.st.may&&decide (f.d.length<=8)
theorem F.l9(f:F):f.is=true↔(1<=f.k/\f.k<=3)/\f.st.may=true/\f.d.length<=8:=by
 simp[F.is,and_assoc]
def F.seed(f:F):Nat:=if f.k=1 then f.st.seed else 0
theorem F.l8(f:F):f.seed<32768:=by
 unfold F.seed
 split
 ·exact St.l8 _
 ·decide
def F.head(f:F):List Int:=(if f.k=1 then [f.k]else f.k::f.st.bytes)++[(f.d.length:Int)]
def F.body(f:F):List Int:=f.head++f.d
def F.bytes(f:F):List Int:=f.body++two (iM f.seed f.body)
def F.hl(f:F):Nat:=if f.k=1 then 2 else 6
theorem F.JM(f:F):f.head.length=f.hl:=by
 unfold F.head F.hl
 split<;>simp[St.bytes]
theorem F.sN(f:F):f.body.length=f.hl+f.d.length:=by rw[F.body,bJ,F.JM]
theorem F.qJ(f:F):f.bytes.length=f.hl+f.d.length+2:=by rw[F.bytes,bJ,F.sN];rfl
theorem F.JN{f:F}(h:f.is=true):okL f.head:=λx hx=>by
 obtain⟨hk,hs,hd⟩:=f.l9.1 h;have hb:=St.pK hs;unfold F.head at hx;rcases bG.1 hx with hx|hx
 ·split at hx
  ·rw[bD]at hx;omega
  ·rcases bq.1 hx with rfl|hx
   ·omega
   ·exact hb x hx
 ·rw[bD]at hx;omega
theorem F.sM{f:F}(h:f.is=true)(hd:okL f.d):okL f.body:=(F.JN h).append hd
theorem F.pK{f:F}(h:f.is=true)(hd:okL f.d):okL f.bytes:=(F.sM h hd).append (sV (gT (pL f.l8 _) (by decide)))
def kd(l:List Int):Int:=l.getD 0 0
def at_(l:List Int):Nat:=if kd l=1 then 1 else 5
def kK(l:List Int)(own:St):St:=if kd l=1 then own else⟨l.getD 1 0*256+l.getD 2 0,l.getD 3 0,l.getD 4 0⟩
def cnt(l:List Int):Int:=l.getD (at_ l) 0
def jI(l:List Int)(own:St):Nat:=if kd l=1 then own.seed else 0
def ji(l:List Int)(own:St):Bool:=
 decide (4<=l.length)&&own.may&&decide (1<=kd l)&&decide (kd l<=3)&&(kd l==1||decide (8<=l.length))&&(kK l own).may&&decide (cnt l<=8)&&decide ((l.length:Int)=at_ l+1+cnt l+2)
def jT(l:List Int)(own:St):Bool:=two (iM (jI l own) (l.take (l.length-2)))==l.drop (l.length-2)
def rd(l:List Int)(own:St):F:=⟨kd l,kK l own,(l.drop (at_ l+1)).take (cnt l).toNat⟩
def err(l:List Int)(own:St):Int:=if ji l own then(if jT l own then 0 else 3)else 2
def zero:F:=⟨0,⟨0,0,0⟩,[]⟩
def res(l:List Int)(own:St):F:=if ji l own&&jT l own then rd l own else zero
theorem sW(p t:List Int)(ht:t.length=2):(p++t).take ((p++t).length-2)=p/\(p++t).drop ((p++t).length-2)=t:=by
 have:(p++t).length-2=p.length:=by rw[bJ];omega
 rw[this,List.take_left,List.drop_left];exact⟨rfl,rfl⟩
theorem JO(d t:List Int)(own:St)(hd:d.length<=8)(ht:t.length=2)(ho:own.may=true):
  ji (1::(d.length:Int)::(d++t)) own=true/\rd (1::(d.length:Int)::(d++t)) own=⟨1,own,d⟩/\jT (1::(d.length:Int)::(d++t)) own=(two (iM own.seed (1::(d.length:Int)::d))==t):=by
 obtain⟨h1,h2⟩:=sW (1::(d.length:Int)::d) t ht;refine⟨?_,?_,?_⟩
 ·simp only[ji,kd,at_,cnt,kK,eJ,dG,eP,ho,dM,bJ,bg,bC,iE,fW,true_or,gu]
  omega
 ·simp only[rd,kd,at_,cnt,kK,eJ,dG,eP,aQ,Nat.reduceAdd,List.drop_succ_cons,List.drop_zero,List.take_left]
 ·show(two (iM (jI (1::(d.length:Int)::(d++t)) own) ((1::(d.length:Int)::d++t).take _))==(1::(d.length:Int)::d++t).drop _)=_
  simp only[gA]at h1 h2 ⊢;rw[h1,h2];simp[jI,kd]
theorem JQ(k:Int)(hk:2<=k/\k<=3)(st:St)(hst:st.may=true)(d t:List Int)(own:St)(hd:d.length<=8)(ht:t.length=2)(ho:own.may=true):
  ji (k::(st.bytes++(d.length:Int)::(d++t))) own=true/\rd (k::(st.bytes++(d.length:Int)::(d++t))) own=⟨k,st,d⟩/\jT (k::(st.bytes++(d.length:Int)::(d++t))) own=(two (iM 0 (k::(st.bytes++(d.length:Int)::d)))==t):=by
 obtain⟨h1,h2⟩:=sW (k::(st.bytes++(d.length:Int)::d)) t ht;have hk1:¬k=1:=by omega
 have hk2:(k==1)=false:=by simpa using hk1
 have hb:=st.mM.1 hst;have mg:(⟨st.r / 256*256+st.r%256,st.s,st.m⟩:St)=st:=by
  have:st.r / 256*256+st.r%256=st.r:=by omega
  rw[this]
 refine⟨?_,?_,?_⟩
 ·simp only[ji,kd,at_,cnt,kK,St.bytes,gA,gJ,eJ,ai hk1,eP,mg,hst,ho,hk2,dM,bJ,bg,bC,iE,bA,false_or,gu]
  omega
 ·simp only[rd,kd,at_,cnt,kK,St.bytes,gA,gJ,eJ,ai hk1,eP,mg,aQ,Nat.reduceAdd,List.drop_succ_cons,List.drop_zero,List.take_left]
 ·have e:k::(st.bytes++(d.length:Int)::(d++t))=k::(st.bytes++(d.length:Int)::d)++t:=by simp
  unfold jT;rw[e,h1,h2];simp[jI,kd,hk1]
theorem F.vO{f:F}(h:f.k=1):f.bytes=1::(f.d.length:Int)::(f.d++two (iM f.st.seed (1::(f.d.length:Int)::f.d))):=by
 simp[F.bytes,F.body,F.head,F.seed,h]
theorem F.vP{f:F}(h:f.k≠1):f.bytes=f.k::(f.st.bytes++(f.d.length:Int)::(f.d++two (iM 0 (f.k::(f.st.bytes++(f.d.length:Int)::f.d))))):=by
 simp[F.bytes,F.body,F.head,F.seed,h]
theorem back{f:F}(h:f.is=true)(own:St)(ho:own.may=true):
  ji f.bytes own=true/\rd f.bytes own=⟨f.k,if f.k=1 then own else f.st,f.d⟩/\(jT f.bytes own=true↔(f.k=1->own.seed=f.st.seed)):=by
 obtain⟨hk,hs,hd⟩:=f.l9.1 h;by_cases h1:f.k=1
 ·obtain⟨a,b,c⟩:=JO f.d (two (iM f.st.seed (1::(f.d.length:Int)::f.d))) own hd rfl ho
  rw[F.vO h1,a,b,c,au h1,h1];refine⟨rfl,rfl,?_⟩;rw[fW];exact⟨λe _=>Bu _ own.l8 f.st.l8 (Bx e),λe=>by rw[e rfl]⟩
 ·obtain⟨a,b,c⟩:=JQ f.k (by omega) f.st hs f.d (two (iM 0 (f.k::(f.st.bytes++(f.d.length:Int)::f.d)))) own hd rfl ho
  rw[F.vP h1,a,b,c,ai h1];exact⟨rfl,rfl,by simp[h1]⟩
theorem JI:∀{l:List Int},l.length=2->∃x y,l=[x,y]
 |[x,y],_=>⟨x,y,rfl⟩
theorem Bz(x:Nat)(rest:List Int)(h:rest.length=x+2):rest.take (rest.length-2)=rest.take x:=by rw[show rest.length-2=x by omega]
theorem once{l:List Int}(hl:okL l){own:St}(h:ji l own=true)(hs:jT l own=true):(rd l own).is=true/\(rd l own).bytes=l/\okL (rd l own).d:=by
 simp only[ji,bg,bC,iE,fW]at h;obtain⟨⟨⟨⟨⟨⟨⟨h4,ho⟩,k1⟩,k3⟩,h8⟩,hst⟩,hc8⟩,hlen⟩:=h;have hc0:0<=cnt l:=(hl.getD _).1;have hdl:(rd l own).d.length=(cnt l).toNat:=by
  simp only[rd,cQ,fF];omega
 have hsb:=eq_of_beq hs;have hL:l.take (l.length-2)++two (iM (jI l own) (l.take (l.length-2)))=l:=by rw[hsb,iB]
 have hbody:(rd l own).body=l.take (l.length-2):=by
  clear hL hsb hs;by_cases hk:kd l=1
  ·match l,hl,h4,hk,hc0,hlen,hdl with
   |a::b::rest,hl,h4,hk,hc0,hlen,hdl=>
    have ha:a=1:=hk;subst ha;have hb:cnt (1::b::rest)=b:=rfl;have hat:at_ (1::b::rest)=1:=rfl;rw[hb]at hc0;rw[hb,hat]at hlen;simp only[dM]at hlen;have hd:(rd (1::b::rest) own).d=rest.take b.toNat:=rfl;have hd2:(rest.take b.toNat).length=b.toNat:=by rw[cQ];omega
    show F.head _++F.d _=_;rw[F.head,hd,hd2,show(rd (1::b::rest) own).k=1 from rfl,au rfl,fX hc0,show(1::b::rest).length-2=(rest.length-2)+2 by simp only[dM];omega,Bz b.toNat rest (by omega) |>.symm]
    rfl
  ·have h8':8<=l.length:=h8.resolve_left hk
   match l,hl,h8',hk,hc0,hlen,hdl with
   |a::b::c::d::e::g::rest,hl,h8',hk,hc0,hlen,hdl=>
    have ha:¬a=1:=hk;have hat:at_ (a::b::c::d::e::g::rest)=5:=ai hk;have hb:cnt (a::b::c::d::e::g::rest)=g:=by rw[cnt,hat];rfl
    rw[hb]at hc0;rw[hb,hat]at hlen;simp only[dM]at hlen;have hd:(rd (a::b::c::d::e::g::rest) own).d=rest.take g.toNat:=by simp only[rd,hb,hat];rfl
    have hd2:(rest.take g.toNat).length=g.toNat:=by rw[cQ];omega
    have hb1:=hl b (by simp);have hb2:=hl c (by simp);have mg:(rd (a::b::c::d::e::g::rest) own).st=⟨b*256+c,d,e⟩:=by simp only[rd,kK,ai hk];rfl
    show F.head _++F.d _=_;rw[F.head,hd,hd2,show(rd (a::b::c::d::e::g::rest) own).k=a from rfl,ai ha,mg,fX hc0,show(a::b::c::d::e::g::rest).length-2=(rest.length-2)+6 by simp only[dM];omega,Bz g.toNat rest (by omega) |>.symm];simp only[St.bytes];rw[show(b*256+c) / 256=b by omega,show(b*256+c)%256=c by omega]
    rfl
 refine⟨(F.l9 _).2 ⟨⟨k1,k3⟩,hst,by omega⟩,?_,(hl.drop _).take _⟩;unfold F.bytes;rw[hbody];have:(rd l own).seed=jI l own:=by
  unfold F.seed jI rd kK;by_cases hk:kd l=1<;>simp[hk]
 rw[this,hL]
theorem JR{l m:List Int}{i:Nat}(h:i<l.length):(l++m).getD i 0=l.getD i 0:=by
 rw[ay,ay,gV h]
theorem JS{l l':List Int}(own:St)(hlen:l'.length=l.length)(h:∀i,i<=at_ l->l'.getD i 0=l.getD i 0):ji l' own=ji l own:=by
 have hk:kd l'=kd l:=h 0 (bH _);have hat:at_ l'=at_ l:=by rw[at_,at_,hk]
 have hc:cnt l'=cnt l:=by rw[cnt,cnt,hat];exact h _ (aR _)
 have hst:kK l' own=kK l own:=by
  unfold kK;rw[hk]
  split
  ·rfl
  ·rename_i hne
   have:at_ l=5:=ai hne;rw[h 1 (by omega),h 2 (by omega),h 3 (by omega),h 4 (by omega)]
 unfold ji;rw[hlen,hk,hat,hc,hst]
theorem getD_set_ne{l:List Int}{i j:Nat}{x:Int}(h:i≠j):(l.set i x).getD j 0=l.getD j 0:=by
 rw[ay,ay,dU h]
theorem F.JU(f:F):at_ f.bytes+1=f.hl:=by
 by_cases h1:f.k=1
 ·have:kd f.bytes=1:=by rw[F.vO h1];rfl
  rw[at_,au this,F.hl,au h1]
 ·have:kd f.bytes=f.k:=by rw[F.vP h1];rfl
  rw[at_,this,ai h1,F.hl,ai h1]
theorem JV{p q:List Int}{i:Nat}(h:i<p.length)(x:Int):(p++q).set i x=p.set i x++q:=List.set_append_left _ _ h
theorem JW{p q:List Int}{i:Nat}(h:p.length<=i)(x:Int):(p++q).set i x=p++q.set (i-p.length) x:=List.set_append_right _ _ h
theorem turned{f:F}(h:f.is=true)(hd:okL f.d)(own:St)(ho:own.may=true)(hown:f.k=1->own.seed=f.st.seed){i:Nat}(hi:f.hl<=i)(hi2:i<f.bytes.length)(x:Int)(hx:0<=x/\x<256)(hne:x≠f.bytes.getD i 0):
  ji (f.bytes.set i x) own=true/\jT (f.bytes.set i x) own=false:=by
 obtain⟨hF,-,hS⟩:=back h own ho;obtain⟨hk,hs,hd8⟩:=f.l9.1 h;have hat:=F.JU f;have hform:ji (f.bytes.set i x) own=true:=by
  rw[JS own (by simp) λj hj=>getD_set_ne (by omega)];exact hF
 refine⟨hform,?_⟩;have hkd:kd (f.bytes.set i x)=kd f.bytes:=getD_set_ne (by omega);have hsd:jI (f.bytes.set i x) own=jI f.bytes own:=by unfold jI;rw[hkd]
 have hsum:jT f.bytes own=true:=hS.2 hown;have hb:f.bytes=f.body++two (iM f.seed f.body):=rfl;have JX:jI f.bytes own=f.seed:=by
  have hkb:kd f.bytes=f.k:=by
   by_cases h1:f.k=1
   ·rw[F.vO h1,h1];rfl
   ·rw[F.vP h1];rfl
  unfold jI F.seed;rw[hkb]
  split
  ·rename_i h1;exact hown h1
  ·rfl
 rw[fu];intro h2;unfold jT at h2;rw[hsd,JX,fW]at h2;have hlen:=F.qJ f;have hbl:=F.sN f;by_cases hib:i<f.body.length
 ·rw[hb,JV hib]at h2
  obtain⟨e1,e2⟩:=sW (f.body.set i x) (two (iM f.seed f.body)) rfl;rw[e1,e2]at h2;have e3:=Bx h2;have hbi:f.bytes.getD i 0=f.body[i]:=by
   rw[hb,JR hib,ay,aP hib,fZ]
  have hpq:f.body=f.body.take i++f.body[i]::f.body.drop (i+1):=by simp
  have JY:f.body.set i x=f.body.take i++x::f.body.drop (i+1):=by
   rw[List.set_eq_take_append_cons_drop,au hib]
  have hby:=F.sM h hd;refine JL (s:=f.seed) (f.body.take i) (f.body.drop (i+1)) x f.body[i] hx (hby _ (dS _)) (by rw[<-hbi];exact hne) ?_;rw[<-JY,<-hpq];exact e3
 ·rw[hb,JW (by omega)]at h2
  obtain⟨e1,e2⟩:=sW f.body ((two (iM f.seed f.body)).set (i-f.body.length) x) (by simp[two]);rw[e1,e2]at h2;refine hne ?_;rw[hb,ay,gN (by omega)];have hi3:i-f.body.length<(two (iM f.seed f.body)).length:=by simp[two];omega
  have e4:=dn (λl=>l[i-f.body.length]?) h2;simp only[dZ hi3]at e4;rw[e4]
  rfl
end Fr
end
section
open Go.RowKit
open Fr (St F)
def stV(s:St):Value:=.agg #[↑s.r,↑s.s,↑s.m]
def frV(f:F)(v:Value):Value:=.agg #[↑f.k,↑f.st.r,↑f.st.s,↑f.st.m,v]
theorem vD(s:St)(w:World):Calls Tryz.prog 213 #[stV s] w λe w'=>e=.returned ↑s.may/\Below w w w':=by
 obtain⟨r,s,m⟩:=s;unfold stV
 go_enter Tryz.func213,Tryz.ntmps213
 go_wp2
 all_goals
  go_ret;exact⟨by simp[St.may, *]<;>omega,(ah _ _).alloc lr _⟩
theorem AZ(s:St)(hs:s.may=true)(w:World):
  Calls Tryz.prog 207 #[stV s] w λe w'=>∃v,e=.returned v/\iJ w' w v s.bytes/\Below w w w':=by
 obtain⟨⟨h1,h2⟩,⟨h3,h4⟩,h5,h6⟩:=s.mM.1 hs;obtain⟨r,s,m⟩:=s;simp only at h1 h2 h3 h4 h5 h6;unfold stV;clear hs
 go_enter Tryz.func207,Tryz.ntmps207
 go_wp2;go_ret;exact⟨_,rfl,pJ _ _ rfl _ [r / 256,r%256,s,m] rfl _ (by simp) (by simp[maxLen]) _ _ _ (by simp) rfl rfl,((ah _ _).alloc lr _).alloc (by simp) _⟩
theorem jE{W w1:World}{B:Nat}(hb:Below B W w1):∀b o,b<B->w1.cell? ⟨b,o,none⟩=W.cell? ⟨b,o,none⟩:=λb o h=>hb.cell (p:=⟨b,o,none⟩) h
structure Jx(w w0:World)(x0 x1 x2 x3 x4:Value):Prop where
 size:w0.heap.size=w.heap.size+1
 below:Below w w w0
 cell:∀W,Below w0 w0 W->w.heap.size<W.heap.size/\W.cell? (w,0)=some x0/\W.cell? (w,1)=some x1/\W.cell? (w,2)=some x2/\W.cell? (w,3)=some x3/\W.cell? (w,4)=some x4
theorem sJ(w:World)(x0 x1 x2 x3 x4:Value)(t:TypeId):Jx w (w.alloc (.cells #[x0,x1,x2,x3,x4] t)) x0 x1 x2 x3 x4:=by
 refine⟨by simp,(ah _ _).alloc lr _,λW hb=>?_⟩;have hz:=hb.size;have hc:=jE hb;simp only[gy]at hz;refine⟨by omega,?_,?_,?_,?_,?_⟩<;>(rw[hc _ _ (by simp),aZ _ _ _ _ rfl];rfl)
theorem Jy(f:F)(v:Value)(w:World)(B:Nat)(hv:iI w B v f.d):
  Calls Tryz.prog 205 #[frV f v] w λe w'=>e=.returned ↑f.is/\Below w w w':=by
 obtain⟨A,c,rfl,h1,h2,-,-⟩:=hv.at_;unfold maxLen at h2;obtain⟨k,⟨r,s,m⟩,d⟩:=f;simp only at h1;have hm:=λW=>vD ⟨r,s,m⟩ W;have hr:∀b:Bool,b=(⟨r,s,m⟩:St).may->F.is ⟨k,⟨r,s,m⟩,d⟩=(decide (1<=k)&&decide (k<=3)&&b&&decide (d.length<=8)):=λb hb=>by rw[hb];rfl
 generalize(⟨r,s,m⟩:St).may=b at *;rw[hr b rfl];clear hr;unfold frV;generalize d.length=n at *;by_cases h0:1<=k<;>by_cases h3:k<=3<;>cases b
 all_goals try (exfalso;omega)
 all_goals
  go_enter Tryz.func205,Tryz.ntmps205
  go_wp2_with (go_at_call 213;refine(hm _).mono ?_;rintro e w1 ⟨rfl,hb⟩;have hc:=jE hb;have hb:=((ah w w).alloc lr _).trans (hb.mono (by simp)));go_ret
  first
   |exact⟨by simp[*]<;>omega,hb⟩
   |exact⟨by simp[*]<;>omega,(ah _ _).alloc lr _⟩
theorem A9(s:St)(w:World):Calls Tryz.prog 206 #[stV s] w λe w'=>e=.returned ↑(s.seed:Nat)/\Below w w w':=by
 have hm:=λW=>vD s W;have hst:=λh W=>AZ s h W;have hsd:s.may=true->s.seed=Fr.iM 32767 s.bytes:=λh=>by rw[St.seed,au h]
 have oG:s.may=false->s.seed=0:=λh=>by rw[St.seed,ai (by rw[h];decide)]
 have hok:s.may=true->∀k,0<=s.bytes.getD k 0/\s.bytes.getD k 0<256:=λh k=>(St.pK h).getD k;have hsum:=λA c W B(h:iY W B A s.bytes.length (bv s.bytes))hz=>zC A s.bytes.length c B (λk=>s.bytes.getD k 0) 32767 W h hz (by simp[St.bytes,maxLen]);have h32:Cr.sd 32767=32767:=by decide
 simp only[Fr.sK,h32]at hsum
 cases hb:s.may
 ·rw[hb]at hm
  rw[oG hb];clear hst hsd oG hok hsum h32 hb;have hm:=λW=>af (hm W);unfold stV at hm ⊢
  go_enter Tryz.func206,Tryz.ntmps206
  go_wp2_with (go_at_call 213;refine(hm _).o.mono ?_;rintro e w1 ⟨rfl,hb⟩;have hb:=((ah w w).alloc lr _).trans (hb.mono (by simp)));go_ret;exact⟨rfl,hb⟩
 ·rw[hb]at hm
  have hm:=λW=>af (hm W);have hst:=λW=>af (hst hb W);have hok:=af (hok hb);have hsum:=λA c W B h hz=>af (hsum A c W B h hz);rw[hsd hb];generalize s.bytes=l at *;clear hsd oG h32 hb;unfold stV at hm hst ⊢
  go_enter Tryz.func206,Tryz.ntmps206
  go_wp2_with (go_at_call 213;refine(hm _).o.mono ?_;rintro e w1 ⟨rfl,hb⟩;have hc:=jE hb;have hz:=hb.size;simp only[gy]at hz;have hb:=((ah w w).alloc lr _).trans (hb.mono (by simp)));clear hm;refine(hst _).o.mono ?_;rintro e w2 ⟨v,rfl,ho,hb2⟩;have hb:=hb.trans (hb2.mono hb.size);obtain⟨A,c,rfl,-,-,g,-⟩:=ho.sees.at_;clear ho hst hc hb2;go_wp2_with fail;refine(hsum A c w2 _ g (λk _=>hok.o k)).o.mono ?_;rintro e w3 ⟨rfl,rfl⟩;go_wp2;go_ret;exact⟨rfl,hb⟩
theorem vE(v:Value)(l:List Int)(n:Nat)(w:World)(hv:iI w w v l)(hl:iK l)(hlen:l.length<=100000)(hn:n<32768):
  Calls Tryz.prog 208 #[v,↑n] w λe w'=>∃v',e=.returned v'/\iJ w' w v' (l++Fr.two (Fr.iM n l))/\Below w w w':=by
 have hS:=Fr.pL hn l;obtain⟨A,c,hvA,h1,h2,h3,h4⟩:=hv.at_;have hsum:=zC A l.length c w (λk=>l.getD k 0) n w h3 (λk _=>hl.getD k) (by unfold maxLen;omega);rw[Fr.sK,Cr.zK hn]at hsum;have hsum:=af hsum;have hv:=af hv;generalize hSS:Fr.iM n l=S at *;have q1:S<=32767:=by omega
 clear h4 h3 hSS hS hl;subst hvA
 go_enter Tryz.func208,Tryz.ntmps208
 go_wp2_with fail;refine hsum.o.mono ?_;rintro e w1 ⟨rfl,rfl⟩;clear hsum;go_wp2_with (at_builtin;refine lA _ rfl (.tmp 9) (.tmp 10) 41 rfl w kx Tryz.underlying41 _ [] w (mL w _ rfl _ _ lr rfl) ((ah _ _).alloc lr _) rfl _ _ l rfl (hv.o.below ((ah _ _).alloc lr _)) (by simp) (by simp only[fw];omega) ?_);intro v' w1 ho hb;go_wp2_with (at_builtin;go_loud (refine lA _ rfl (.tmp 11) (.tmp 17) 41 rfl w kx Tryz.underlying41 v' l w (ho.alloc _) (hb.alloc hb.size _) rfl _ _ (Fr.two S) rfl (oH w1 _ _ _ (by simp[Fr.two]) _ (cJ _) (by simp[Fr.two,maxLen]) _ _ _ rfl rfl rfl) (by simp;have:=hb.size;omega) (by simp[Fr.two];omega) ?_));intro v2 w2 ho2 hb2;go_wp2;go_ret;exact⟨_,rfl,ho2,hb2⟩
theorem sL{P:Program}(w:World){ops:Array Oper}{o:Oper}{a:Act}{K:Act->World->Prop}{Q:Exit->Act->World->Prop}{E:Prop}(hgd:o.guard=none)(s x:Operand)(t:TypeId)
  (ho:o.op=.call {callee:=.builtin .append,args:=#[s,x],argTypes:=#[t,t]})
  (B:Nat) (jM:(P.info? 5).map (λi=>(i.zero,i.size,i.bytes))=some (some (.int .u8 0),1,1)) (ht:P.underlying t=some (.slice 5))
  (v:Value) (l:List Int) (W:World) (hown:iJ w B v l) (hbel:Below B W w) (hs:a.eval s=v)
  (Bs:Nat) (u:Value) (m:List Int) (hx:a.eval x=u) (kI:iI w Bs u m)
  (hB:B<=w.heap.size) (hroom:l.length+m.length<=140737488355328)
  (h:∀v' w',iJ w' B v' (l++m)->Below B W w'->w.grownBy w' v.ownBlock->K (a.put o.dst v') w'):if Region.wanted o (yielded ops a.tmps)=true then Oper.wp P o a w K Q else E:=by
 have hw:Region.wanted o (yielded ops a.tmps)=true:=by simp[Region.wanted,hgd]
 rw[au hw];obtain⟨A,c,rfl,-,-,h3,h4⟩:=kI.at_
 cases A with
 |none=>
  obtain⟨hm,rfl⟩:=h4 rfl;have hm':m=[]:=dx.1 hm;subst hm';obtain⟨i0,hi,hz0,hz1,hz2⟩:=fV jM;have hrun:=run_append_owned_none (P:=P) (w:=w) B t o.type 5 i0 1 ht hi v l.length _ hown;unfold Oper.wp;simp only[fw]at hx;simp[execOp,ho,resolve,invoke,builtin,hs,hx,hrun,Result.andThen];refine h v w ?_ hbel (World.grownBy.refl _ _);rw[List.append_nil];exact hown
 |some ad=>
  obtain⟨i0,hi,hz0,hz1,hz2⟩:=fV jM;refine wp_append_own _ s x t ho B 5 i0 (.int .u8 0) 1 1 ht hi hz0 hz1 hz2 rfl (by omega) v l.length _ hs hown ad m.length c ((List.range m.length).map (bv m)) hx (by simp) ?_ ?_ (by unfold maxLen;omega) (by omega) hB ?_
  ·intro j u hj
   rw[dF]at hj;by_cases hjm:j<m.length
   ·rw[bW hjm]at hj
    simp at hj;subst hj;obtain⟨b,off,he,_,hc⟩:=h3 (by omega);simp only[bB]at he;subst he;have:=hc j hjm;by_cases h1:j=0
    ·subst h1;simpa[Addr.add]using this
    ·simpa[Addr.add,h1]using this
   ·rw[aY (by simpa using hjm)]at hj
    cases hj
  ·intro u hu
   obtain⟨k,hk,rfl⟩:=fC.1 hu
   rfl
  ·intro v' w' h1 h2 h3
   refine h v' w' ?_ (hbel.grown h2 hB (λg h=>(dL hown g h).1)) h2;unfold iJ iP;rw[bJ];have e:(List.range (l.length+m.length)).map (bv (l++m))=(List.range l.length).map (bv l)++(List.range m.length).map (bv m):=by
    rw[<-rV];exact dK λk _=>(vA l m k).symm
   rw[e];exact h1
def kJ(f:F):List Int:=if f.is then f.bytes else []
def mO(f:F):Int:=if f.is then 0 else 1
def Enc(w:World)(f:F)(e:Ending)(w':World):Prop:=∃v,e=.returned (.tuple #[v,↑(mO f)])/\iJ w' w v (kJ f)/\Below w w w'
end
section
open Go.RowKit
def ins(m k:Nat):Nat:=m ||| 2^k
def del(m k:Nat):Nat:=if m.testBit k then m-2^k else m
theorem EC{m k:Nat}(hm:m<256)(hk:k<8):ins m k<256:=by
 have:∀(a:Fin 256)(b:Fin 8),ins a.val b.val<256:=by decide+kernel
 exact this ⟨m,hm⟩ ⟨k,hk⟩
theorem ED{m k:Nat}(hm:m<256):del m k<256:=by
 unfold del;split
 ·exact gG (Nat.sub_le _ _) hm
 ·exact hm
theorem xA{m k:Nat}(hm:m<256)(hk:k<8):bits BinOp.or IntKind.i64 (m:Nat) ((2^k:Nat):Int)=(ins m k:Nat):=by
 have:∀(a:Fin 256)(b:Fin 8),bits BinOp.or IntKind.i64 (a.val:Nat) ((2^b.val:Nat):Int)=(ins a.val b.val:Nat):=by decide+kernel
 exact this ⟨m,hm⟩ ⟨k,hk⟩
theorem EA{m k:Nat}(hm:m<256)(hk:k<8):bits BinOp.andNot IntKind.i64 (m:Nat) ((2^k:Nat):Int)=(del m k:Nat):=by
 have:∀(a:Fin 256)(b:Fin 8),bits BinOp.andNot IntKind.i64 (a.val:Nat) ((2^b.val:Nat):Int)=(del a.val b.val:Nat):=by decide+kernel
 exact this ⟨m,hm⟩ ⟨k,hk⟩
theorem OT{m:Nat}(hm:m<256):bits BinOp.or IntKind.i64 (m:Nat) 0=(m:Nat):=by
 have:∀(a:Fin 256),bits BinOp.or IntKind.i64 (a.val:Nat) 0=(a.val:Nat):=by decide+kernel
 exact this ⟨m,hm⟩
theorem OV{m:Nat}(hm:m<256):bits BinOp.andNot IntKind.i64 (m:Nat) 0=(m:Nat):=by
 have:∀(a:Fin 256),bits BinOp.andNot IntKind.i64 (a.val:Nat) 0=(a.val:Nat):=by decide+kernel
 exact this ⟨m,hm⟩
theorem OY{m:Nat}(hm:m<256):bits BinOp.and IntKind.i64 (m:Nat) 0=0:=by
 have:∀(a:Fin 256),bits BinOp.and IntKind.i64 (a.val:Nat) 0=0:=by decide+kernel
 exact this ⟨m,hm⟩
theorem OX{m k:Nat}(hm:m<256)(hk:k<8):bits BinOp.and IntKind.i64 (m:Nat) ((2^k:Nat):Int)=if m.testBit k then((2^k:Nat):Int)else 0:=by
 have:∀(a:Fin 256)(b:Fin 8),bits BinOp.and IntKind.i64 (a.val:Nat) ((2^b.val:Nat):Int)=if a.val.testBit b.val then((2^b.val:Nat):Int)else 0:=by decide+kernel
 exact this ⟨m,hm⟩ ⟨k,hk⟩
theorem EB(a:Int):bits BinOp.and IntKind.i64 a 255=((a%256).toNat:Nat):=by
 have h8:(BitVec.ofInt 64 255).toNat=2^8-1:=by decide
 show IntKind.i64.wrap (((BitVec.ofInt 64 a) &&& (BitVec.ofInt 64 255)).toNat:Int)=_;rw[eX,h8,cF,cG,dJ];omega
theorem Rv(a:Int):bits BinOp.and IntKind.i64 a 1=a%2:=by
 have h8:(BitVec.ofInt 64 1).toNat=2^1-1:=by decide
 show IntKind.i64.wrap (((BitVec.ofInt 64 a) &&& (BitVec.ofInt 64 1)).toNat:Int)=_;rw[eX,h8,cF,cG,dJ];omega
theorem nQ(k:Nat):((2^k:Nat):Int)=(2:Int)^k:=by simp
theorem uh{k:Nat}(hk:k<8):wrap64 ((2:Int)^k)=(2:Int)^k:=by
 have:∀(b:Fin 8),wrap64 ((2:Int)^b.val)=(2:Int)^b.val:=by decide+kernel
 exact this ⟨k,hk⟩
theorem wN{m k:Nat}(hm:m<256)(hk:k<8):bits BinOp.or IntKind.i64 (m:Nat) (wrap64 ((2:Int)^k))=(ins m k:Nat):=by
 rw[uh hk,<-nQ];exact xA hm hk
theorem Rw{m k:Nat}(hm:m<256)(hk:k<8):bits BinOp.andNot IntKind.i64 (m:Nat) (wrap64 ((2:Int)^k))=(del m k:Nat):=by
 rw[uh hk,<-nQ];exact EA hm hk
theorem Rx(m k:Nat):(bits BinOp.and IntKind.i64 ((m:Int) / (2:Int)^k) 1==1)=m.testBit k:=by
 rw[Rv,<-nQ,<-Int.natCast_ediv,dY];by_cases h:m / 2^k%2=1
 ·rw[av h,fW];omega
 ·rw[aj h,aB];omega
theorem wM(a:Int):(a%256).toNat<256:=by omega
structure TS where
 m:Nat
 a:Nat
 f:Nat
deriving DecidableEq
def TS.join(s:TS)(n:Int):TS:=if 0<=n/\n<8 then {s with m:=ins s.m n.toNat}else s
def TS.miss(s:TS)(n:Int):TS:=if 0<=n/\n<8 then {s with m:=del s.m n.toNat}else s
def TS.right(s:TS)(n:Int):TS:=if 0<=n/\n<8 then⟨ins s.m n.toNat,s.a+1,s.f⟩else s
def TS.wrong(s:TS)(n:Int):TS:=if 0<=n/\n<8 then⟨del s.m n.toNat,s.a,s.f+1⟩else s
def TS.clear(s:TS):TS:={s with a:=0,f:=0}
def isB(m:Nat)(n:Int):Bool:=decide (0<=n/\n<8)&&m.testBit n.toNat
end
section
set_option maxRecDepth 100000
set_option maxHeartbeats 1000000
open Go.RowKit
def TAt(t:TypeId)(W:World)(g:Nat)(s:TS):Prop:=Blk W g #[↑(s.m:Nat),↑(s.a:Nat),↑(s.f:Nat)] t/\s.m<256
section
variable {t:TypeId}{W W':World}{g:Nat}{s:TS}
theorem TAt.below(h:TAt t W g s){B:Nat}(hb:Below B W W')(hg:g<B):TAt t W' g s:=⟨h.1.below hb hg,h.2⟩
theorem TAt.only{g':Nat}(h:TAt t W g s)(hb:Only g' W W')(hg:g≠g'):TAt t W' g s:=⟨h.1.only hb hg,h.2⟩
theorem TAt.lt(h:TAt t W g s):g<W.heap.size:=h.1.lt
theorem TAt.drew(h:TAt t W g s):TAt t W.drew g s:=h
theorem TAt.c0(h:TAt t W g s):W.cell? (g,0)=some ↑(s.m:Nat):=h.1.cell 0 rfl
theorem TAt.c1(h:TAt t W g s):W.cell? (g,1)=some ↑(s.a:Nat):=h.1.cell 1 rfl
theorem TAt.c2(h:TAt t W g s):W.cell? (g,2)=some ↑(s.f:Nat):=h.1.cell 2 rfl
theorem TAt.m_(h:TAt t W g s)(n:Nat)(hn:n<256):TAt t (W.setCell (g,0) ↑(n:Nat)) g {s with m:=n}:=⟨(h.1.set 0 _).eq (by simp),hn⟩
theorem TAt.a_(h:TAt t W g s)(n:Nat):TAt t (W.setCell (g,1) ↑(n:Nat)) g {s with a:=n}:=⟨(h.1.set 1 _).eq (by simp),h.2⟩
theorem TAt.f_(h:TAt t W g s)(n:Nat):TAt t (W.setCell (g,2) ↑(n:Nat)) g {s with f:=n}:=⟨(h.1.set 2 _).eq (by simp),h.2⟩
end
theorem CH(n:Int)(w:World):
  Calls Tryz.prog 88 #[↑n] w λe w'=>e=.returned ↑(w,0)/\TAt 131 w' w ⟨(n%256).toNat,0,0⟩/\Below w w w'/\w'.heap.size=w.heap.size+1:=by
 have HA:=EB n;have hl:=wM n;generalize(n%256).toNat=m at *
 go_enter Tryz.func88,Tryz.ntmps88
 go_wp2;go_ret;exact⟨rfl,⟨aJ _ _ rfl _ _,hl⟩,(ah _ _).alloc lr _,by simp⟩
end
section
set_option maxRecDepth 100000
set_option maxHeartbeats 4000000
open Go.RowKit
instance:Inhabited R4:=⟨⟨0,0,0,0⟩⟩
def rc(r:R4):List Value:=[↑r.n,↑r.lo,↑r.hi,↑r.st]
structure mJ(w:World)(b off:Nat)(d:R4):Prop where
 c0:w.cell? (b,off)=some ↑d.n
 c1:w.cell? (b,off+1)=some ↑d.lo
 c2:w.cell? (b,off+2)=some ↑d.hi
 c3:w.cell? (b,off+3)=some ↑d.st
def lG(w:World)(B:Nat)(A:Option Addr)(l:List R4):Prop:=
 0<l.length->∃b off,A=some ⟨b,off,none⟩/\b<B/\∀k,k<l.length->mJ w b (off+k*4) (l.getD k default)
structure jl(w:World)(B:Nat)(v:Value)(l:List R4):Prop where
 at_:∃A c,v=.slice A l.length c/\l.length<=c/\c<=maxLen/\lG w B A l/\(A=none->l.length=0/\c=0)
def kH(w:World)(base:Nat)(v:Value)(l:List R4):Prop:=w.ownsRow base 69 4 v l.length (l.flatMap rc)
section
variable {w w':World}{B B' Bs:Nat}{A:Option Addr}{v:Value}{l m:List R4}
theorem mJ.keep{b off:Nat}{d:R4}(h:mJ w b off d)(hk:∀o,w'.cell? ⟨b,o,none⟩=w.cell? ⟨b,o,none⟩):mJ w' b off d:=
 ⟨(hk _).trans h.c0,(hk _).trans h.c1,(hk _).trans h.c2,(hk _).trans h.c3⟩
theorem lG.keep(h:lG w B A l)(hk:∀b o,b<B->w'.cell? ⟨b,o,none⟩=w.cell? ⟨b,o,none⟩):lG w' B A l:=λh0=>by
 obtain⟨b,off,e,hb,hc⟩:=h h0;exact⟨b,off,e,hb,λk hlt=>(hc k hlt).keep λo=>hk b o hb⟩
theorem lG.below(h:lG w B A l)(hb:Below B w w'):lG w' B A l:=h.keep λb o hp=>hb.cell (p:=(b,o)) hp
theorem lG.more(h:lG w B A l)(hB:B<=B'):lG w B' A l:=λh0=>by
 obtain⟨b,off,e,hb,hc⟩:=h h0;exact⟨b,off,e,by omega,hc⟩
theorem lG.nil:lG w B A []:=λh=>absurd h (by simp)
theorem jl.below(h:jl w B v l)(hb:Below B w w'):jl w' B v l:=⟨by
 obtain⟨A,c,rfl,h1,h2,h3,h4⟩:=h.at_;exact⟨A,c,rfl,h1,h2,h3.below hb,h4⟩⟩
theorem jl.more(h:jl w B v l)(hB:B<=B'):jl w B' v l:=⟨by
 obtain⟨A,c,rfl,h1,h2,h3,h4⟩:=h.at_;exact⟨A,c,rfl,h1,h2,h3.more hB,h4⟩⟩
theorem jl.nil:jl w B (.slice none 0 0) []:=⟨none,0,rfl,aR _,bH _,lG.nil,λ_=>⟨rfl,rfl⟩⟩
theorem yP(l:List R4)(k:Nat)(hk:k<l.length)(j:Nat)(hj:j<4):(l.flatMap rc)[k*4+j]?=(rc (l.getD k default))[j]?:=by
 induction l generalizing k with
 |nil=>simp at hk
 |cons d l ih=>
  have h4:(rc d).length=4:=rfl;rw[gK]
  cases k with
  |zero=>rw[gV (by omega)];simp
  |succ k=>
   rw[gN (by omega),h4,show(k+1)*4+j-4=k*4+j by omega,ih k (by simpa using hk)];simp
theorem yQ(l:List R4):(l.flatMap rc).length=l.length*4:=by
 induction l with
 |nil=>rfl
 |cons d l ih=>rw[gK,bJ,ih];simp[rc];omega
theorem kH.atD{g n c:Nat}(h:kH w Bs (.slice (some (g,0)) n c) l)(hn:n=l.length)(k:Nat)(hk:k<l.length):mJ w g (k*4) (l.getD k default):=by
 subst hn;have e:=λj(hj:j<4)=>(gO h (k*4+j) (by omega)).trans (yP l k hk j hj);exact⟨by have:=e 0 (by omega);rw[gC]at this;exact this,e 1 (by omega),e 2 (by omega),e 3 (by omega)⟩
theorem kH.form(h:kH w Bs v l):(v=.slice none 0 0/\l.length=0)\/∃g c,v=.slice (some ⟨g,0,none⟩) l.length c/\Bs<=g/\g<w.heap.size/\l.length<=c/\c<=maxLen:=by
 rcases h.2 with h1|⟨g,cap,cur,h1,h2,h3,h4,h5,-⟩
 ·exact .inl h1
 ·exact .inr ⟨g,cap,h1,h2,(bT.1 h3).1,h4,h5⟩
theorem kH.sees(h:kH w Bs v l):jl w w v l:=⟨by
 rcases h.form with⟨rfl,h0⟩|⟨g,c,rfl,h1,h2,h3,h4⟩
 ·exact⟨none,0,by rw[h0],by omega,by unfold maxLen;omega,λh=>absurd h (by omega),λ_=>⟨h0,rfl⟩⟩
 ·exact⟨_,c,rfl,h3,h4,λ_=>⟨g,0,rfl,h2,λk hk=>by rw[bU];exact kH.atD h rfl k hk⟩,λh=>by cases h⟩⟩
theorem kH.nil:kH w Bs (.slice none 0 0) []:=dX _ _ _ _
theorem kH.below(h:kH w Bs v l)(hb:Below B' w w')(hB:w.heap.size<=B'):kH w' Bs v l:=
 cB (row:=none) h ⟨hb.os,hb.tape,hb.output,hb.size,λk hk _=>hb.block k (by omega)⟩ (by
  rcases h.2 with⟨rfl,_⟩|⟨g,cap,cur,rfl,_⟩
  ·exact .inl rfl
  ·exact .inr (by simp[Value.ownBlock]))
theorem kH.alloc(h:kH w Bs v l)(o:Obj):kH (w.alloc o) Bs v l:=eH h o
end
theorem Gz:(Tryz.prog.info? 69).map (λi=>(i.zero,i.size,i.bytes))=some (some (.agg #[↑(0:Int),↑(0:Int),↑(0:Int),↑(0:Int)]),4,32):=by kernel_rfl
theorem jl.src{w:World}{B:Nat}{u:Value}{m:List R4}(h:jl w B u m):Src w u 4 m.length (m.flatMap rc):=by
 obtain⟨A,c,rfl,-,-,h3,h4⟩:=h.at_
 cases A with
 |none=>
  obtain⟨h5,h6⟩:=h4 rfl;subst h6;have:=dx.1 h5;subst this;exact .inl ⟨rfl,rfl,rfl⟩
 |some ad=>
  refine .inr ⟨ad,c,rfl,yQ m,λj x hj=>?_,λx hx=>?_⟩
  ·by_cases hjm:j<m.length*4
   ·obtain⟨b,off,he,_,hc⟩:=h3 (by omega)
    simp only[bB]at he;subst he;have h6:=hc (j / 4) (by omega);have e1:=yP m (j / 4) (by omega) (j%4) (by omega);rw[show j / 4*4+j%4=j by omega,hj]at e1;have e2:w.cell? (b,off+j)=(rc (m.getD (j / 4) default))[j%4]?:=by
     rcases(by omega:j%4=0\/j%4=1\/j%4=2\/j%4=3)with h|h|h|h<;>rw[h]
     ·rw[show off+j=off+j / 4*4 by omega];exact h6.c0
     ·rw[show off+j=off+j / 4*4+1 by omega];exact h6.c1
     ·rw[show off+j=off+j / 4*4+2 by omega];exact h6.c2
     ·rw[show off+j=off+j / 4*4+3 by omega];exact h6.c3
    rw[<-e1]at e2;by_cases h1:j=0
    ·subst h1;simpa[Addr.add]using e2
    ·simpa[Addr.add,h1]using e2
   ·rw[aY (by rw[yQ];omega)]at hj
    cases hj
  ·obtain⟨r,-,hr⟩:=fY.1 hx
   simp only[rc,bq,cM,fL]at hr;rcases hr with rfl|rfl|rfl|rfl<;>rfl
theorem GA(w:World)(e:TypeId)(he:e=69)(B g:Nat)(hB:B<=w.heap.size)(hg:g=w.heap.size):kH (w.alloc (.cells #[] e)) B (.slice (some (g,0)) 0 0) []:=by
 subst he hg;exact gD w #[] 0 hB (by unfold maxLen;omega) rfl
theorem jl.alloc{w:World}{B:Nat}{v:Value}{l:List R4}(h:jl w B v l)(o:Obj):jl (w.alloc o) B v l:=⟨by
 obtain⟨A,c,rfl,h1,h2,h3,h4⟩:=h.at_;refine⟨A,c,rfl,h1,h2,λh0=>?_,h4⟩;obtain⟨b,off,e,hb,hc⟩:=h3 h0;exact⟨b,off,e,hb,λk hk=>⟨bn o (hc k hk).c0,bn o (hc k hk).c1,bn o (hc k hk).c2,bn o (hc k hk).c3⟩⟩⟩
theorem GD{n m:Nat}(h:n+m<=100000):n+m<=maxLen/\(n+m)*32<=140737488355328:=⟨by unfold maxLen;omega,by omega⟩
theorem Gm(l:List R4)(v:Value)(w:World)(B:Nat)(hv:jl w B v l)(h4:l.length<=1000):
  Calls Tryz.prog 87 #[v] w λe w'=>∃v',e=.returned v'/\kH w' w v' l/\Below w w w':=by
 obtain⟨A,c,rfl,h1,h2,h3,h4'⟩:=hv.at_
 cases A with
 |none=>
  obtain⟨hl,rfl⟩:=h4' rfl;have hl':=dx.1 hl;subst hl';clear h1 h2 h3 h4 h4' hl hv;have hq:=dw (P:=Tryz.prog) w 35 69 none 0 0 0 0 Tryz.underlying35
  go_enter Tryz.func87,Tryz.ntmps87
  go_wp2;go_ret;exact⟨_,rfl,kH.nil,ah _ _⟩
 |some a=>
  have H:=af (GA w 69 rfl w w lr rfl);have hs:=af ((hv.alloc (.cells #[] 69)));have q0:=dw (P:=Tryz.prog) w 35 69 (some a) l.length c 0 0 Tryz.underlying35;have hR:=GD (n:=0) (m:=l.length) (by omega);clear hv h3 h4'
  go_enter Tryz.func87,Tryz.ntmps87
  go_wp2_with (at_builtin;go_loud (refine og _ rfl (.tmp 5) (.tmp 6) 35 rfl w 69 _ 4 32 Gz rfl (by omega) Tryz.underlying35 _ 0 _ H.o rfl _ l.length _ rfl hs.o.src (by simp) hR.1 hR.2 ?_));intro v' w' ho he;have ho:kH w' w v' l:=by
   unfold kH;simpa using ho
  have hb:=((ah w w).alloc lr (.cells #[] 69)).trans (he.toBelow (by simp) (λj hj=>by simp[Value.ownBlock]at hj;omega));go_wp2;go_ret;exact⟨_,rfl,ho,hb⟩
end
end Go.Proofs.YteadkhigkmijiaaGreat
