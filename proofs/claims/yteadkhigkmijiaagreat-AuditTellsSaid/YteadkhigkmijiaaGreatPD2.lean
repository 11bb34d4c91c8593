/- Texts Open, Bytes, Text, Lists, Ext, Mem, StM, AlM in one. -/
import Derived.ProofKit
import Derived.OpenShut
import Derived.ShutString
import Derived.ChangeOld
import Derived.Deep.Slices
import Derived.Deep.Fields
import Derived.Laws.AppendOwnNone
import Derived.SizedLaws
import Derived.Laws.BytesString
import Derived.Laws.Cells
import Derived.Deep.AppendLies
import Derived.Maps.Range
import Derived.Deep.RegionHeld3
import Derived.Deep.RegionLaw
import Derived.RegionTactic
import Derived.Lib.SlBytesConst
import Derived.Lib.SmallJoins
import Derived.Test.YteadkhigkmijiaaGreatPD1
set_option linter.all false
namespace Go.Proofs.YteadkhigkmijiaaGreat
section
open Go.ChangeShapes Go.WideShapes Go.ChangeAt Go.RowKit
theorem uS{w:World}{a:Addr}{v:Value}(h:w.cell? (a.add 0)=some v):∃b off,a=⟨b,off,none⟩/\b<w.heap.size:=by
 obtain⟨b,off,spot⟩:=a;have h':w.cell? ⟨b,off,spot⟩=some v:=by simpa[Addr.add]using h
 have hs:spot=none:=World.cell?_spot h';subst hs;exact⟨b,off,rfl,gh w _ h'⟩
section
variable {H:Type}{enc:TypeId×Value->H}{P:Program}{w:World}{base:Nat}{spare:Nat->Bool}{held:Bool}
end
end
section
open Go.ChangeShapes Go.WideShapes Go.ChangeAt Go.RowKit
theorem rV(n m:Nat)(V U:Nat->Value):(List.range (n+m)).map (λk=>if k<n then V k else U (k-n))=(List.range n).map V++(List.range m).map U:=by
 apply fo
 intro i;rw[fM];simp only[dF,dQ,dW];by_cases hi:i<n
 ·rw[au hi,bW hi,bW (show i<n+m by omega)]
  simp[hi]
 ·rw[ai hi]
  by_cases hj:i-n<m
  ·rw[bW hj,bW (show i<n+m by omega)]
   simp[hi]
  ·rw[aY (by simp;omega),aY (by simp;omega)]
   rfl
theorem GI{P:Program}(w:World){ops:Array Oper}{rest:List Oper}{o:Oper}{a:Act}{Q:Exit->Act->World->Prop}(hgd:o.guard=none)(s x:Operand)(t:TypeId)
  (ho:o.op=.call {callee:=.builtin .append,args:=#[s,x],argTypes:=#[t,t]})
  (B:Nat) (e:TypeId) (z:Value) (bytes:Nat) (jM:(P.info? e).map (λi=>(i.zero,i.size,i.bytes))=some (some z,1,bytes)) (hzs:z.cells.size=1) (ht:P.underlying t=some (.slice e))
  (v:Value) (n:Nat) (V:Nat->Value) (W:World) (hown:iP w B e v n V) (hbel:Below B W w) (hs:a.eval s=v)
  (Bs:Nat) (A:Option Addr) (m c:Nat) (U:Nat->Value) (hx:a.eval x=.slice A m c) (hnil:A=none->m=0/\c=0) (kI:iY w Bs A m U) (hU:∀k,k<m->(U k).oneCell'=true)
  (hB:B<=w.heap.size) (h63:n+m<=maxLen) (hroom:(n+m)*bytes<=140737488355328)
  (h:∀v' w',iP w' B e v' (n+m) (λk=>if k<n then V k else U (k-n))->Below B W w'->(v'=.slice none 0 0->v=.slice none 0 0/\m=0)->wpList P ops Q rest (a.put o.dst v') w'):wpList P ops Q (o::rest) a w:=by
 obtain⟨i0,hi,hz0,hz1,hz2⟩:=fV jM
 cases A with
 |none=>
  obtain⟨rfl,rfl⟩:=hnil rfl;refine wpList_append_own_none hgd s x t ho B e i0 1 ht hi v n _ hs hown hx ?_;refine h v w ?_ hbel (λh=>⟨h,rfl⟩);exact hown.alike λk hk=>by rw[au hk]
 |some ad=>
  refine wpList_append_own _ hgd s x t ho B e i0 z 1 bytes ht hi hz0 hz1 hz2 hzs (by omega) v n _ hs hown ad m c ((List.range m).map U) hx (by simp) ?_ ?_ h63 hroom hB ?_
  ·intro j u hj
   rw[dF]at hj;by_cases hjm:j<m
   ·rw[bW hjm]at hj
    simp at hj;subst hj;obtain⟨b,off,he,_,hc⟩:=kI (by omega);simp only[bB]at he;subst he;have:=hc j hjm;by_cases h1:j=0
    ·subst h1;simpa[Addr.add]using this
    ·simpa[Addr.add,h1]using this
   ·rw[aY (by simpa using hjm)]at hj
    cases hj
  ·intro u hu
   obtain⟨k,hk,rfl⟩:=fC.1 hu;exact hU k (cA.1 hk)
  ·intro v' w' h1 h2 h3
   refine h v' w' ?_ (hbel.grown h2 hB (λg h=>(dL hown g h).1)) (λh=>h3.1 h);unfold iP;rw[rV];exact h1
theorem kx:(Tryz.prog.info? 5).map (λi=>(i.zero,i.size,i.bytes))=some (some (.int .u8 0),1,1):=by kernel_rfl
section
variable {H:Type}{enc:TypeId×Value->H}{P:Program}{w:World}{base:Nat}{spare:Nat->Bool}{held:Bool}
end
end
section
open Go.RowKit
theorem iP.BP{w:World}{B n:Nat}{e:TypeId}{v:Value}{V:Nat->Value}(h:iP w B e v n V):∃A c,v=.slice A n c/\n<=c/\c<=maxLen/\iY w w.heap.size A n V/\(A=none->n=0/\c=0):=by
 obtain⟨A,c,rfl,h1,h2,h3⟩:=iP.form h;refine⟨A,c,rfl,h1,h2,h3,λhA=>?_⟩;subst hA;rcases h.2 with⟨h4,_⟩|⟨g,cap,cur,h4,_⟩
 ·simp only[fq]at h4
  exact⟨h4.2.1,h4.2.2⟩
 ·simp at h4
def textOf(z:Nat->Int)(n:Nat):ByteArray:=((List.range n).map z).foldl (λr n=>r.push (UInt8.ofNat n.toNat)) ByteArray.empty
theorem KT{w:World}{B n c:Nat}{A:Option Addr}{z:Nat->Int}(h:iY w B A n λk=>.int .u8 (z k))(hnil:A=none->n=0/\c=0):
  (convert 41 9 (.slice A n c)).run Tryz.prog w=.ok (.string (textOf z n)) w:=by
 cases A with
 |none=>
  obtain⟨rfl,rfl⟩:=hnil rfl;rw[run_convert_bytes_string w _ _ 5 _ _ _ Tryz.underlying41 Tryz.underlying5 Tryz.underlying9]
  rfl
 |some ad=>
  rw[run_convert_bytes_string w _ _ 5 _ _ _ Tryz.underlying41 Tryz.underlying5 Tryz.underlying9];refine run_bytesToString w _ _ _ ((List.range n).map z) ?_;rw[run_loadCells w ad n (λk=>.int .u8 (z k)) (λj hj=>?_)]
  ·rw[List.map_map];rfl
  ·obtain⟨b,off,he,-,hc⟩:=h (by omega)
   simp only[bB]at he;subst he;have:=hc j hj;by_cases h0:j=0
   ·subst h0;simpa[Addr.add]using this
   ·simpa[Addr.add,h0]using this
end
section
open Go.RowKit
def bv(l:List Int)(k:Nat):Value:=.int .u8 (l.getD k 0)
def iK(l:List Int):Prop:=∀x∈l,0<=x/\x<256
theorem iK.getD{l:List Int}(h:iK l)(k:Nat):0<=l.getD k 0/\l.getD k 0<256:=by
 by_cases hk:k<l.length
 ·rw[ay,aP hk,fZ]
  exact h _ (dS _)
 ·rw[ay,aY (by omega)]
  exact⟨by decide,by decide⟩
def lst(z:Nat->Int)(n:Nat):List Int:=(List.range n).map z
theorem KR(l:List Int):lst (λk=>l.getD k 0) l.length=l:=by
 apply fo
 intro i;by_cases hi:i<l.length
 ·simp[lst,hi,ay]
 ·rw[aY (by simp[lst];omega),aY (by omega)]
def iJ(w:World)(base:Nat)(v:Value)(l:List Int):Prop:=iP w base 5 v l.length (bv l)
structure iI(w:World)(B:Nat)(v:Value)(l:List Int):Prop where
 at_:∃A c,v=.slice A l.length c/\l.length<=c/\c<=maxLen/\iY w B A l.length (bv l)/\(A=none->l.length=0/\c=0)
section
variable {w w':World}{B B' Bs:Nat}{v:Value}{l m:List Int}
theorem iJ.sees(h:iJ w Bs v l):iI w w.heap.size v l:=⟨by
 obtain⟨A,c,rfl,h1,h2,h3,h4⟩:=iP.BP h;exact⟨A,c,rfl,h1,h2,h3,h4⟩⟩
theorem iI.below(h:iI w B v l)(hb:Below B w w'):iI w' B v l:=⟨by
 obtain⟨A,c,rfl,h1,h2,h3,h4⟩:=h.at_;exact⟨A,c,rfl,h1,h2,h3.below hb,h4⟩⟩
theorem iI.more(h:iI w B v l)(hB:B<=B'):iI w B' v l:=⟨by
 obtain⟨A,c,rfl,h1,h2,h3,h4⟩:=h.at_;exact⟨A,c,rfl,h1,h2,h3.more hB,h4⟩⟩
theorem iI.drew(h:iI w B v l):iI w.drew B v l:=⟨by
 obtain⟨A,c,rfl,h1,h2,h3,h4⟩:=h.at_;exact⟨A,c,rfl,h1,h2,h3,h4⟩⟩
theorem iJ.drew(h:iJ w Bs v l):iJ w.drew Bs v l:=h
theorem iI.nil:iI w B (.slice none 0 0) []:=⟨none,0,rfl,aR _,bH _,iH,λ_=>⟨rfl,rfl⟩⟩
abbrev gR:=@iI.nil
theorem iJ.nil:iJ w Bs (.slice none 0 0) []:=dX _ _ _ _
abbrev bR:=@iJ.nil
theorem iJ.base(h:iJ w Bs v l)(hB:B<=Bs):iJ w B v l:=by
 refine⟨h.1,?_⟩;rcases h.2 with h|⟨g,cap,cur,h1,h2,h3⟩
 ·exact .inl h
 ·exact .inr ⟨g,cap,cur,h1,by omega,h3⟩
theorem iP.BQ{n:Nat}{e:TypeId}{V:Nat->Value}(h:iP w B e v n V)(hb:Below B' w w')(hB:w.heap.size<=B'):iP w' B e v n V:=
 cB (row:=none) h ⟨hb.os,hb.tape,hb.output,hb.size,λk hk _=>hb.block k (by omega)⟩ (by
  rcases h.2 with⟨rfl,_⟩|⟨g,cap,cur,rfl,_⟩
  ·exact .inl rfl
  ·exact .inr (by simp[Value.ownBlock]))
theorem iJ.below(h:iJ w Bs v l)(hb:Below B' w w')(hB:w.heap.size<=B'):iJ w' Bs v l:=iP.BQ h hb hB
theorem iJ.alloc(h:iJ w Bs v l)(o:Obj):iJ (w.alloc o) Bs v l:=eH h o
theorem vA(l m:List Int)(k:Nat):(if k<l.length then bv l k else bv m (k-l.length))=bv (l++m) k:=by
 unfold bv;simp only[ay,fM]
 split<;>rfl
end
section
variable {P:Program}
theorem lA(w:World){ops:Array Oper}{rest:List Oper}{o:Oper}{a:Act}{Q:Exit->Act->World->Prop}(hgd:o.guard=none)(s x:Operand)(t:TypeId)
  (ho:o.op=.call {callee:=.builtin .append,args:=#[s,x],argTypes:=#[t,t]})
  (B:Nat) (jM:(P.info? 5).map (λi=>(i.zero,i.size,i.bytes))=some (some (.int .u8 0),1,1)) (ht:P.underlying t=some (.slice 5))
  (v:Value) (l:List Int) (W:World) (hown:iJ w B v l) (hbel:Below B W w) (hs:a.eval s=v)
  (Bs:Nat) (u:Value) (m:List Int) (hx:a.eval x=u) (kI:iI w Bs u m)
  (hB:B<=w.heap.size) (hroom:l.length+m.length<=140737488355328)
  (h:∀v' w',iJ w' B v' (l++m)->Below B W w'->wpList P ops Q rest (a.put o.dst v') w'):wpList P ops Q (o::rest) a w:=by
 obtain⟨A,c,rfl,-,-,h3,h4⟩:=kI.at_;refine GI w hgd s x t ho B 5 (.int .u8 0) 1 jM rfl ht v l.length (bv l) W hown hbel hs Bs A m.length c (bv m) hx h4 h3 (λ_ _=>rfl) hB (by unfold maxLen;omega) (by omega) ?_;intro v' w' h5 h6 _;refine h v' w' ?_ h6;unfold iJ;rw[bJ];exact h5.alike λk _=>vA l m k
end
theorem oH(w:World)(e:TypeId)(cs:Array Value)(l:List Int)(hl:cs=(l.map (Value.int .u8)).toArray)(B:Nat)(hB:w.heap.size<B)(hm:l.length<=maxLen)(g n c:Nat)(hg:g=w.heap.size)(hn:n=l.length)(hc:c=l.length):
  iI (w.alloc (.cells cs e)) B (.slice (some ⟨g,0,none⟩) n c) l:=⟨some ⟨g,0,none⟩,c,by rw[hn],by omega,by omega,λ_=>⟨g,0,rfl,by omega,λk hk=>by
  rw[bU,aZ _ _ _ _ hg,hl];unfold bv;simp[ay,hk]⟩,λh=>by cases h⟩
theorem pJ(w:World)(e:TypeId)(he:e=5)(cs:Array Value)(l:List Int)(hl:cs=(l.map (Value.int .u8)).toArray)(B:Nat)(hB:B<=w.heap.size)(hm:l.length<=maxLen)(g n c:Nat)(hg:g=w.heap.size)(hn:n=l.length)(hc:c=l.length):
  iJ (w.alloc (.cells cs e)) B (.slice (some ⟨g,0,none⟩) n c) l:=by
 subst he hn hc hg;have:=World.ownsRow_lit (base:=B) (e:=5) (size:=1) w cs l.length hB hm (by rw[hl];simp);unfold iJ iP;have e:(List.range l.length).map (bv l)=cs.toList:=by
  rw[hl]
  apply fo
  intro i;by_cases hi:i<l.length
  ·simp[hi,bv,ay]
  ·rw[aY (by simp;omega),aY (by simp;omega)]
 rw[e];exact this
def jV(l:List Int):ByteArray:=l.foldl (λr n=>r.push (UInt8.ofNat n.toNat)) ByteArray.empty
theorem Cy(l:List Int)(b:ByteArray):(l.foldl (λr n=>r.push (UInt8.ofNat n.toNat)) b).data.toList=b.data.toList++l.map λn=>UInt8.ofNat n.toNat:=by
 induction l generalizing b with
 |nil=>simp
 |cons x l ih=>rw[dI,ih];simp[ByteArray.push]
theorem vN{l m:List Int}(hl:iK l)(hm:iK m)(h:jV l=jV m):l=m:=by
 have e:(jV l).data.toList=(jV m).data.toList:=by rw[h]
 unfold jV at e;rw[Cy,Cy]at e;simp only[show(ByteArray.empty.data.toList:List UInt8)=[]from rfl,gJ]at e;clear h
 induction l generalizing m with
 |nil=>
  cases m with
  |nil=>rfl
  |cons y m=>simp at e
 |cons x l ih=>
  cases m with
  |nil=>simp at e
  |cons y m=>
   simp only[List.map_cons,List.cons.injEq]at e;have hx:=hl x (by simp);have hy:=hm y (by simp);have e1:=dn UInt8.toNat e.1;simp only[UInt8.toNat_ofNat']at e1;have hxy:x=y:=by omega
   rw[hxy,ih (λz hz=>hl z (aT _ hz)) (λz hz=>hm z (aT _ hz)) e.2]
theorem mV{w:World}{B:Nat}{v:Value}{l:List Int}(h:iI w B v l):(convert 41 9 v).run Tryz.prog w=.ok (.string (jV l)) w:=by
 obtain⟨A,c,rfl,-,-,h3,h4⟩:=h.at_;have:=KT (c:=c) (z:=λk=>l.getD k 0) h3 h4;rw[this];unfold textOf jV;have e:=KR l;unfold lst at e;rw[e]
theorem sU{w:World}{B:Nat}{v:Value}{l:List Int}(h:iI w B v l):(convert 41 9 v).run Tryz.prog w.drew=.ok (.string (jV l)) w.drew:=by
 obtain⟨A,c,rfl,h1,h2,h3,h4⟩:=h.at_;exact mV (w:=w.drew) ⟨A,c,rfl,h1,h2,h3,h4⟩
end
section
open Go.RowKit
structure Ext(w w':World)(v v':Value):Prop where
 grown:w.grownBy w' v.ownBlock
 lies:∀j,v'.ownBlock=some j->w.heap.size<=j\/v.ownBlock=some j
section
variable {w w1 w2:World}{v v1 v2:Value}{B B':Nat}
theorem Ext.refl(w:World)(v:Value):Ext w w v v:=⟨World.grownBy.refl _ _,λ_ h=>.inr h⟩
theorem Ext.trans(h:Ext w w1 v v1)(k:Ext w1 w2 v1 v2):Ext w w2 v v2:=
 ⟨h.grown.andThen k.grown h.lies,λj hj=>by
  rcases k.lies j hj with h1|h1
  ·exact .inl (aW h.grown.size h1)
  ·exact h.lies j h1⟩
theorem Ext.below(h:Ext w w1 v v1)(k:Below w1 w1 w2):Ext w w2 v v1:=
 ⟨h.grown.andThen (row':=none) ⟨k.os,k.tape,k.output,k.size,λi hi _=>k.block i hi⟩ (λ_ h=>by cases h),h.lies⟩
theorem Ext.alloc(h:Ext w w1 v v1)(o:Obj):Ext w (w1.alloc o) v v1:=h.below ((ah _ _).alloc lr o)
theorem Ext.toBelow(h:Ext w w1 v v1)(hB:B<=w.heap.size)(hv:∀j,v.ownBlock=some j->B<=j):Below B w w1:=
 ⟨h.grown.os,h.grown.tape,h.grown.output,h.grown.size,λi hi=>h.grown.block i (by omega) (λe=>by have:=hv i e.symm;omega)⟩
theorem Ext.cell(h:Ext w w1 v v1){p:Addr}{x:Value}(hx:w.cell? p=some x)(hne:v.ownBlock≠some p.block):w1.cell? p=some x:=h.grown.cell hx (λe=>hne e.symm)
theorem Ext.size(h:Ext w w1 v v1):w.heap.size<=w1.heap.size:=h.grown.size
end
theorem iJ.lt{w:World}{B:Nat}{v:Value}{l:List Int}(h:iJ w B v l):∀j,v.ownBlock=some j->B<=j/\j<w.heap.size:=dL h
def Src(w:World)(u:Value)(size m:Nat)(news:List Value):Prop:=
 (u=.slice none 0 0/\m=0/\news=[])\/(∃ad c,u=.slice (some ad) m c/\news.length=m*size/\(∀j x,news[j]?=some x->w.cell? (ad.add j)=some x)/\∀x∈news,x.oneCell'=true)
section
variable {P:Program}(w:World){ops:Array Oper}{rest:List Oper}{o:Oper}{a:Act}{K:Act->World->Prop}{Q:Exit->Act->World->Prop}
theorem vz(s x:Operand)(t:TypeId)(ho:o.op=.call {callee:=.builtin .append,args:=#[s,x],argTypes:=#[t,t]})
  (B:Nat) (e:TypeId) (z:Value) (size bytes:Nat) (jM:(P.info? e).map (λi=>(i.zero,i.size,i.bytes))=some (some z,size,bytes)) (hzs:z.cells.size=size) (hsz:0<size) (ht:P.underlying t=some (.slice e))
  (v:Value) (n:Nat) (xs:List Value) (hown:w.ownsRow B e size v n xs) (hs:a.eval s=v)
  (u:Value) (m:Nat) (news:List Value) (hx:a.eval x=u) (hsrc:Src w u size m news)
  (hB:B<=w.heap.size) (h63:n+m<=maxLen) (hroom:(n+m)*bytes<=140737488355328)
  (h:∀v' w',w'.ownsRow B e size v' (n+m) (xs++news)->Ext w w' v v'->K (a.put o.dst v') w'):o.wp P a w K Q:=by
 obtain⟨i,hi,hz0,hz1,hz2⟩:=fV jM;rcases hsrc with⟨rfl,rfl,rfl⟩|⟨ad,c,rfl,hl,hn,h1⟩
 ·have hrun:=run_append_owned_none (P:=P) (w:=w) B t o.type e i size ht hi v n _ hown
  unfold Oper.wp;simp[execOp,ho,resolve,invoke,builtin,hs,hx,hrun,Result.andThen];refine h v w ?_ (Ext.refl _ _);simpa using hown
 ·obtain⟨v',w',hr,h2,h3,-,h5⟩:=run_append_own_at (P:=P) w B t o.type e i z size bytes ht hi hz0 hz1 hz2 hzs hsz v n xs hown ad m c news hl hn h1 h63 hroom hB
  unfold Oper.wp execOp;simp only[ho,resolve,invoke,builtin,iG,iA,fR,List.map_toArray,List.map_cons,List.map_nil,hs,hx,hr];exact h v' w' h2 ⟨h3,λj hj=>by
   rcases h5 with h5|h5
   ·exact .inr (h5▸hj)
   ·rw[h5]at hj
    cases hj
    exact .inl lr⟩
theorem og(hgd:o.guard=none)(s x:Operand)(t:TypeId)(ho:o.op=.call {callee:=.builtin .append,args:=#[s,x],argTypes:=#[t,t]})
  (B:Nat) (e:TypeId) (z:Value) (size bytes:Nat) (jM:(P.info? e).map (λi=>(i.zero,i.size,i.bytes))=some (some z,size,bytes)) (hzs:z.cells.size=size) (hsz:0<size) (ht:P.underlying t=some (.slice e))
  (v:Value) (n:Nat) (xs:List Value) (hown:w.ownsRow B e size v n xs) (hs:a.eval s=v)
  (u:Value) (m:Nat) (news:List Value) (hx:a.eval x=u) (hsrc:Src w u size m news)
  (hB:B<=w.heap.size) (h63:n+m<=maxLen) (hroom:(n+m)*bytes<=140737488355328)
  (h:∀v' w',w'.ownsRow B e size v' (n+m) (xs++news)->Ext w w' v v'->wpList P ops Q rest (a.put o.dst v') w'):wpList P ops Q (o::rest) a w:=
 wpList_plain hgd λ_ hK=>vz w s x t ho B e z size bytes jM hzs hsz ht v n xs hown hs u m news hx hsrc hB h63 hroom λv' w' h1 h2=>hK _ _ (h v' w' h1 h2)
theorem iI.src{w:World}{B:Nat}{u:Value}{m:List Int}(h:iI w B u m):Src w u 1 m.length ((List.range m.length).map (bv m)):=by
 obtain⟨A,c,rfl,-,-,h3,h4⟩:=h.at_
 cases A with
 |none=>
  obtain⟨h5,h6⟩:=h4 rfl;subst h6;exact .inl ⟨by rw[h5],h5,by rw[h5];rfl⟩
 |some ad=>
  refine .inr ⟨ad,c,rfl,by simp,λj x hj=>?_,λx hx=>?_⟩
  ·rw[dF]at hj
   by_cases hjm:j<m.length
   ·rw[bW hjm]at hj
    simp at hj;subst hj;obtain⟨b,off,he,_,hc⟩:=h3 (by omega);simp only[bB]at he;subst he;have:=hc j hjm;by_cases h1:j=0
    ·subst h1;simpa[Addr.add]using this
    ·simpa[Addr.add,h1]using this
   ·rw[aY (by simpa using hjm)]at hj
    cases hj
  ·obtain⟨k,hk,rfl⟩:=fC.1 hx
   rfl
theorem iJ.joined{w:World}{B:Nat}{v:Value}{l m:List Int}(h:w.ownsRow B 5 1 v (l.length+m.length) ((List.range l.length).map (bv l)++(List.range m.length).map (bv m))):iJ w B v (l++m):=by
 unfold iJ iP;rw[bJ];have e:(List.range (l.length+m.length)).map (bv (l++m))=(List.range l.length).map (bv l)++(List.range m.length).map (bv m):=by
  rw[<-rV];exact dK λk _=>(vA l m k).symm
 rw[e];exact h
theorem AB(s x:Operand)(t:TypeId)(ho:o.op=.call {callee:=.builtin .append,args:=#[s,x],argTypes:=#[t,t]})
  (B:Nat) (jM:(P.info? 5).map (λi=>(i.zero,i.size,i.bytes))=some (some (.int .u8 0),1,1)) (ht:P.underlying t=some (.slice 5))
  (v:Value) (l:List Int) (hown:iJ w B v l) (hs:a.eval s=v) (Bs:Nat) (u:Value) (m:List Int) (hx:a.eval x=u) (kI:iI w Bs u m)
  (hB:B<=w.heap.size) (hroom:l.length+m.length<=140737488355328)
  (h:∀v' w',iJ w' B v' (l++m)->Ext w w' v v'->K (a.put o.dst v') w'):o.wp P a w K Q:=
 vz w s x t ho B 5 (.int .u8 0) 1 1 jM rfl (by omega) ht v l.length _ hown hs u m.length _ hx kI.src hB (by unfold maxLen;omega) (by omega) λv' w' h1 h2=>h v' w' (iJ.joined h1) h2
theorem AE(hgd:o.guard=none)(s x:Operand)(t:TypeId)(ho:o.op=.call {callee:=.builtin .append,args:=#[s,x],argTypes:=#[t,t]})
  (B:Nat) (jM:(P.info? 5).map (λi=>(i.zero,i.size,i.bytes))=some (some (.int .u8 0),1,1)) (ht:P.underlying t=some (.slice 5))
  (v:Value) (l:List Int) (hown:iJ w B v l) (hs:a.eval s=v) (Bs:Nat) (u:Value) (m:List Int) (hx:a.eval x=u) (kI:iI w Bs u m)
  (hB:B<=w.heap.size) (hroom:l.length+m.length<=140737488355328)
  (h:∀v' w',iJ w' B v' (l++m)->Ext w w' v v'->wpList P ops Q rest (a.put o.dst v') w'):wpList P ops Q (o::rest) a w:=
 wpList_plain hgd λ_ hK=>AB w s x t ho B jM ht v l hown hs Bs u m hx kI hB hroom λv' w' h1 h2=>hK _ _ (h v' w' h1 h2)
theorem Jp{E:Prop}(hgd:o.guard=none)(s x:Operand)(t:TypeId)(ho:o.op=.call {callee:=.builtin .append,args:=#[s,x],argTypes:=#[t,t]})
  (B:Nat) (jM:(P.info? 5).map (λi=>(i.zero,i.size,i.bytes))=some (some (.int .u8 0),1,1)) (ht:P.underlying t=some (.slice 5))
  (v:Value) (l:List Int) (hown:iJ w B v l) (hs:a.eval s=v) (Bs:Nat) (u:Value) (m:List Int) (hx:a.eval x=u) (kI:iI w Bs u m)
  (hB:B<=w.heap.size) (hroom:l.length+m.length<=140737488355328)
  (h:∀v' w',iJ w' B v' (l++m)->Ext w w' v v'->K (a.put o.dst v') w'):if Region.wanted o (yielded ops a.tmps)=true then Oper.wp P o a w K Q else E:=by
 have hw:Region.wanted o (yielded ops a.tmps)=true:=by simp[Region.wanted,hgd]
 rw[au hw];exact AB w s x t ho B jM ht v l hown hs Bs u m hx kI hB hroom h
end
section
variable {P:Program}(w:World){ops:Array Oper}{rest:List Oper}{o:Oper}{a:Act}{K:Act->World->Prop}{Q:Exit->Act->World->Prop}
end
theorem iI.alloc{w:World}{B:Nat}{v:Value}{l:List Int}(h:iI w B v l)(o:Obj):iI (w.alloc o) B v l:=⟨by
 obtain⟨A,c,rfl,h1,h2,h3,h4⟩:=h.at_;refine⟨A,c,rfl,h1,h2,λh0=>?_,h4⟩;obtain⟨b,off,e,hb,hc⟩:=h3 h0;exact⟨b,off,e,hb,λk hk=>bn o (hc k hk)⟩⟩
theorem mL(w:World)(e:TypeId)(he:e=5)(B g:Nat)(hB:B<=w.heap.size)(hg:g=w.heap.size):iJ (w.alloc (.cells #[] e)) B (.slice (some (g,0)) 0 0) []:=by
 subst he hg;exact gD w #[] 0 hB (by unfold maxLen;omega) rfl
end
section
open Go.RowKit
def Blk(W:World)(g:Nat)(cs:Array Value)(t:TypeId):Prop:=W.heap[g]?=some (.cells cs t (0,0))
section
variable {W W':World}{g:Nat}{cs:Array Value}{t:TypeId}
theorem Blk.lt(h:Blk W g cs t):g<W.heap.size:=(bT.1 h).1
theorem Blk.cell(h:Blk W g cs t)(i:Nat){x:Value}(hx:cs[i]?=some x):W.cell? (g,i)=some x:=by
 rw[<-hx];simp[World.cell?,show W.heap[g]?=_ from h]
theorem Blk.frozen(h:Blk W g cs t)(i:Nat):W.frozen? (g,i)=false:=by simp[World.frozen?,show W.heap[g]?=_ from h]
theorem Blk.new(W:World)(g:Nat)(hg:g=W.heap.size)(cs:Array Value)(t:TypeId):Blk (W.alloc (.cells cs t)) g cs t:=by
 subst hg;exact heap_alloc_new W _
abbrev aJ:=@Blk.new
theorem Blk.below(h:Blk W g cs t){B:Nat}(hb:Below B W W')(hB:g<B):Blk W' g cs t:=(hb.block g hB).trans h
abbrev iy:=@Blk.below
theorem Blk.alloc(h:Blk W g cs t)(o:Obj):Blk (W.alloc o) g cs t:=(Below.heap_alloc W o g h.lt).trans h
theorem Blk.drew(h:Blk W g cs t):Blk W.drew g cs t:=h
theorem Blk.drewN(h:Blk W g cs t)(n:Nat):Blk (W.drewN n) g cs t:=h.below (aC (ah (g+1) W) n) (cJ _)
theorem Blk.set(h:Blk W g cs t)(i:Nat)(x:Value):Blk (W.setCell (g,i) x) g (cs.setIfInBounds i x) t:=Joins.block_setCell h x
theorem Blk.eq{cs':Array Value}(h:Blk W g cs t)(e:cs=cs'):Blk W g cs' t:=e▸h
theorem Blk.other(h:Blk W g cs t)(p:Addr)(hp:g≠p.block)(x:Value):Blk (W.setCell p x) g cs t:=(dR W p x g hp).trans h
end
def Only(g:Nat)(w w':World):Prop:=w.grownBy w' (some g)
section
variable {g:Nat}{w w1 w2:World}
theorem Only.refl(g:Nat)(w:World):Only g w w:=World.grownBy.refl _ _
abbrev aE:=@Only.refl
theorem Only.set(h:Only g w w1)(i:Nat)(x:Value):Only g w (w1.setCell (g,i) x):=⟨h.os,h.tape,h.output,by simpa[World.setCell]using h.size,λk hk hne=>(dR w1 (g,i) x k (λe=>hne (by rw[e]))).trans (h.block k hk hne)⟩
theorem Only.drew(h:Only g w w1):Only g w w1.drew:=⟨h.os,h.tape,h.output,h.size,h.block⟩
theorem Only.trans(h:Only g w w1)(k:Only g w1 w2):Only g w w2:=⟨k.os.trans h.os,k.tape.trans h.tape,k.output.trans h.output,aW h.size k.size,λi hi hne=>(k.block i (aN hi h.size) hne).trans (h.block i hi hne)⟩
theorem Only.below{B:Nat}(h:Only g w w1)(hB:B<=g)(hg:g<w.heap.size):Below B w w1:=⟨h.os,h.tape,h.output,h.size,λi hi=>h.block i (by omega) (by intro e;cases e;omega)⟩
theorem iQ(g:Nat)(h:Below w w w1):Only g w w1:=⟨h.os,h.tape,h.output,h.size,λi hi _=>h.block i hi⟩
theorem Blk.only{g':Nat}{cs:Array Value}{t:TypeId}(h:Blk w g' cs t)(k:Only g w w1)(hne:g'≠g):Blk w1 g' cs t:=(k.block g' h.lt (by intro e;cases e;exact hne rfl)).trans h
end
end
section
open Go.RowKit
theorem j4{fn:Func}{p:Tmp}{ty:TypeId}(h:fn.results=#[.cell p ty])(tmps:Array Value)(P:Program)(w:World):
  (results fn tmps).run P w=((asAddr (tmps.getD p undef)).run P w).andThen λa w₁=>(loadVar ty a).run P w₁:=by
 simp only[results,h];simp[iG,Result.andThen]
structure MS where
 d:Nat->List Int
 a:Nat->Int
 g:Nat->Bool
def upd{α:Type}(f:Nat->α)(i:Nat)(x:α):Nat->α:=λk=>if k=i then x else f k
def MS.new:MS:=⟨λ_=>[],λ_=>-1,λ_=>false⟩
def isN(n:Int):Prop:=0<=n/\n<8
instance (n:Int):Decidable (isN n):=inferInstanceAs (Decidable (_/\_))
def MS.put(s:MS)(n:Int)(l:List Int):MS:=if isN n/\l.length<=8 then⟨upd s.d n.toNat l,upd s.a n.toNat 0,s.g⟩else s
def MS.member(s:MS)(n:Int)(b:Bool):MS:=if isN n then {s with g:=upd s.g n.toNat b}else s
def older(a:Int):Int:=if 0<=a then min (a+1) 65535 else a
def MS.age(s:MS):MS:={s with a:=λi=>older (s.a i)}
def MS.gd(s:MS)(n:Int):List Int:=if isN n then s.d n.toNat else []
def MS.ga(s:MS)(n:Int):Int:=if isN n then s.a n.toNat else -1
def MS.gg(s:MS)(n:Int):Bool:=if isN n then s.g n.toNat else false
structure MS.ok(s:MS):Prop where
 len:∀i,i<8->(s.d i).length<=8
 byt:∀i,i<8->iK (s.d i)
 lo:∀i,i<8->-1<=s.a i
 hi:∀i,i<8->s.a i<=65535
theorem Ev{a:Int}(h:-1<=a)(h':a<=65535):-1<=older a/\older a<=65535:=by
 unfold older
 split<;>omega
theorem MS.ok.gd{s:MS}(h:s.ok)(n:Int):(s.gd n).length<=8/\iK (s.gd n):=by
 unfold MS.gd
 split
 ·rename_i hn
  unfold isN at hn;exact⟨h.len _ (by omega),h.byt _ (by omega)⟩
 ·exact⟨by simp,λx hx=>by simp at hx⟩
def stc(V:Nat->Value)(a:Nat->Int)(g:Nat->Bool):Array Value:=#[V 0,↑(a 0),↑(g 0),V 1,↑(a 1),↑(g 1),V 2,↑(a 2),↑(g 2),V 3,↑(a 3),↑(g 3),V 4,↑(a 4),↑(g 4),V 5,↑(a 5),↑(g 5),V 6,↑(a 6),↑(g 6),V 7,↑(a 7),↑(g 7)]
theorem lu{p:Nat->Prop}{i:Nat}(hi:i<8)(h0:p 0)(h1:p 1)(h2:p 2)(h3:p 3)(h4:p 4)(h5:p 5)(h6:p 6)(h7:p 7):p i:=by
 rcases(by omega:i=0\/i=1\/i=2\/i=3\/i=4\/i=5\/i=6\/i=7)with rfl|rfl|rfl|rfl|rfl|rfl|rfl|rfl<;>assumption
section
variable (V:Nat->Value)(a:Nat->Int)(g:Nat->Bool){i:Nat}(hi:i<8)
include hi
theorem Eo:(stc V a g)[i*3]?=some (V i):=lu (p:=λi=>(stc V a g)[i*3]?=some (V i)) hi rfl rfl rfl rfl rfl rfl rfl rfl
theorem Ep:(stc V a g)[i*3+1]?=some ↑(a i):=lu (p:=λi=>(stc V a g)[i*3+1]?=some ↑(a i)) hi rfl rfl rfl rfl rfl rfl rfl rfl
theorem Er:(stc V a g)[i*3+2]?=some ↑(g i):=lu (p:=λi=>(stc V a g)[i*3+2]?=some ↑(g i)) hi rfl rfl rfl rfl rfl rfl rfl rfl
theorem Es(x:Value):(stc V a g).setIfInBounds (i*3) x=stc (upd V i x) a g:=lu (p:=λi=>(stc V a g).setIfInBounds (i*3) x=stc (upd V i x) a g) hi rfl rfl rfl rfl rfl rfl rfl rfl
theorem Et(x:Int):(stc V a g).setIfInBounds (i*3+1) ↑x=stc V (upd a i x) g:=lu (p:=λi=>(stc V a g).setIfInBounds (i*3+1) ↑x=stc V (upd a i x) g) hi rfl rfl rfl rfl rfl rfl rfl rfl
theorem Eu(x:Bool):(stc V a g).setIfInBounds (i*3+2) ↑x=stc V a (upd g i x):=lu (p:=λi=>(stc V a g).setIfInBounds (i*3+2) ↑x=stc V a (upd g i x)) hi rfl rfl rfl rfl rfl rfl rfl rfl
end
theorem En{V V':Nat->Value}{a a':Nat->Int}{g g':Nat->Bool}(h1:∀i,i<8->V i=V' i)(h2:∀i,i<8->a i=a' i)(h3:∀i,i<8->g i=g' i):stc V a g=stc V' a' g':=by
 unfold stc;rw[h1 0 (by omega),h1 1 (by omega),h1 2 (by omega),h1 3 (by omega),h1 4 (by omega),h1 5 (by omega),h1 6 (by omega),h1 7 (by omega),
  h2 0 (by omega),h2 1 (by omega),h2 2 (by omega),h2 3 (by omega),h2 4 (by omega),h2 5 (by omega),h2 6 (by omega),h2 7 (by omega),
  h3 0 (by omega),h3 1 (by omega),h3 2 (by omega),h3 3 (by omega),h3 4 (by omega),h3 5 (by omega),h3 6 (by omega),h3 7 (by omega)]
structure Kp(F:List Nat)(w w':World):Prop where
 size:w.heap.size<=w'.heap.size
 block:∀k,k<w.heap.size->k∉F->w'.heap[k]?=w.heap[k]?
section
variable {F:List Nat}{w w1 w2:World}{g:Nat}
theorem Kp.refl(F:List Nat)(w:World):Kp F w w:=⟨aR _,λ_ _ _=>rfl⟩
theorem Kp.trans(h:Kp F w w1)(k:Kp F w1 w2):Kp F w w2:=⟨aW h.size k.size,λi hi hn=>(k.block i (aN hi h.size) hn).trans (h.block i hi hn)⟩
theorem Only.kp(h:Only g w w1)(hg:g∈F):Kp F w w1:=⟨h.size,λi hi hn=>h.block i hi (by intro e;cases e;exact hn hg)⟩
theorem ku(h:Below w w w1):Kp F w w1:=⟨h.size,λi hi _=>h.block i hi⟩
end
def Dat(F:List Nat)(W:World)(v:Value)(l:List Int):Prop:=iI W W v l/\∀f,f∈F->l≠[]->v.ownBlock≠some f
section
variable {F:List Nat}{W W':World}{v:Value}{l:List Int}
theorem Dat.keep(h:Dat F W v l)(k:Kp F W W'):Dat F W' v l:=⟨⟨by
 obtain⟨⟨A,c,rfl,h1,h2,h3,h4⟩,hF⟩:=h.1,h.2;refine⟨A,c,rfl,h1,h2,λh0=>?_,h4⟩;obtain⟨b,off,rfl,hb,hc⟩:=h3 h0;refine⟨b,off,rfl,aN hb k.size,λj hj=>?_⟩;have hn:b∉F:=λhm=>hF b hm (aX.1 h0) rfl;rw[<-hc j hj];simp only[World.cell?,k.block b hb hn]⟩,h.2⟩
theorem Dat.nil:Dat F W (.slice none 0 0) []:=⟨gR,λ_ _ h=>absurd rfl h⟩
theorem Dat.more(h:Dat F W v l)(k:Below W W W'){f:Nat}(hf:W.heap.size<=f):Dat (f::F) W' v l:=⟨(h.keep (ku k)).1,λx hx hl=>by
 rcases bq.1 hx with rfl|hx
 ·obtain⟨A,c,rfl,-,-,h3,-⟩:=h.1.at_
  obtain⟨b,off,rfl,hb,-⟩:=h3 (aX.2 hl);simp only[Value.ownBlock];intro e
  cases e
  omega
 ·exact h.2 x hx hl⟩
theorem iJ.dat{B:Nat}(h:iJ W B v l)(hF:∀f,f∈F->f<B):Dat F W v l:=⟨h.sees,λf hf _ e=>by
 have:=(h.lt f e).1;have:=hF f hf;omega⟩
end
theorem iJ.iN{W:World}{B:Nat}{v:Value}{l:List Int}(h:iJ W B v l)(p:Addr)(x:Value)(hp:p.block<B):iJ (W.setCell p x) B v l:=
 cB (row:=some p.block) h ⟨rfl,rfl,rfl,by simp[World.setCell],λk _ hk=>dR W p x k (λe=>hk (by rw[e]))⟩ (.inr (λe=>by
  have:=(h.lt p.block e).1;omega))
def SAt(t:TypeId)(F:List Nat)(W:World)(g:Nat)(s:MS):Prop:=(∃V,Blk W g (stc V s.a s.g) t/\∀i,i<8->Dat F W (V i) (s.d i))/\s.ok
section
variable {t:TypeId}{F:List Nat}{W W':World}{g g':Nat}{s s':MS}
theorem SAt.lt(h:SAt t F W g s):g<W.heap.size:=by
 obtain⟨⟨V,hB,-⟩,-⟩:=h;exact hB.lt
theorem SAt.below(h:SAt t F W g s)(k:Below W W W'):SAt t F W' g s:=by
 obtain⟨⟨V,hB,hD⟩,hk⟩:=h;exact⟨⟨V,hB.below k hB.lt,λi hi=>(hD i hi).keep (ku k)⟩,hk⟩
theorem SAt.more(h:SAt t F W g s)(k:Below W W W'){f:Nat}(hf:W.heap.size<=f):SAt t (f::F) W' g s:=by
 obtain⟨⟨V,hB,hD⟩,hk⟩:=h;exact⟨⟨V,hB.below k hB.lt,λi hi=>(hD i hi).more k hf⟩,hk⟩
theorem SAt.frozen(h:SAt t F W g s)(o:Nat):W.frozen? (g,o)=false:=by
 obtain⟨⟨V,hB,hD⟩,-⟩:=h;exact hB.frozen _
end
theorem Ey{F:List Nat}{w W:World}{v:Value}{l:List Int}(h:Dat F w v l)(hb:Below w w W):iI W W v l/\Below w w W:=⟨(h.keep (ku hb)).1,hb⟩
def MS.clr(s:MS)(k:Nat):MS:=⟨λi=>if i<k then []else s.d i,λi=>if i<k then -1 else s.a i,λi=>if i<k then false else s.g i⟩
def MS.agd(s:MS)(k:Nat):MS:={s with a:=λi=>if i<k then older (s.a i)else s.a i}
theorem nX(i k:Nat):i<k\/i=k\/k<i:=by omega
theorem qm(s:MS)(k:Nat):(∀i,upd (s.clr k).d k [] i=(s.clr (k+1)).d i)/\(∀i,upd (s.clr k).a k (-1) i=(s.clr (k+1)).a i)/\(∀i,upd (s.clr k).g k false i=(s.clr (k+1)).g i):=by
 refine⟨λi=>?_,λi=>?_,λi=>?_⟩<;>simp only[upd,MS.clr]<;>rcases nX i k with h|h|h
 all_goals first
  |(rw[ai (by omega),au (by omega),au (by omega)])
  |(rw[au (by omega),au (by omega)])
  |(rw[ai (by omega),ai (by omega),ai (by omega)])
theorem Ew(s:MS)(k:Nat)(i:Nat):upd (s.agd k).a k (older (s.a k)) i=(s.agd (k+1)).a i:=by
 simp only[upd,MS.agd];rcases nX i k with h|h|h
 ·rw[ai (by omega),au (by omega),au (by omega)]
 ·subst h;rw[au rfl,au (by omega)]
 ·rw[ai (by omega),ai (by omega),ai (by omega)]
end
section
open Go.RowKit
structure R4 where
 n:Int
 lo:Int
 hi:Int
 st:Int
def R4.v(r:R4):Value:=.agg #[↑r.n,↑r.lo,↑r.hi,↑r.st]
def R4.may(r:R4):Prop:=(0<=r.n/\r.n<=7)/\(0<=r.lo/\r.lo<=255)/\(r.lo<=r.hi/\r.hi<=255)/\(0<=r.st/\r.st<=65535)
instance (r:R4):Decidable r.may:=inferInstanceAs (Decidable (_/\_))
def lE(r:R4)(d:List Int)(a:Int)(g:Bool):Nat:=
 (if d≠[]/\d.getD 0 0<r.lo then 1 else 0)+(if d≠[]/\r.hi<d.getD 0 0 then 2 else 0)+(if r.st<a\/a=-1 then 4 else 0)+(if g then 0 else 8)
theorem Gr(r:R4)(d:List Int)(a:Int)(g:Bool):lE r d a g<16:=by
 unfold lE
 split<;>split<;>split<;>split<;>omega
theorem yH{m n:Nat}(hm:m<16)(hn:n<16):bits BinOp.or IntKind.i64 (m:Nat) (n:Nat)=((m ||| n:Nat):Int):=by
 have:∀(a b:Fin 16),bits BinOp.or IntKind.i64 (a.val:Nat) (b.val:Nat)=((a.val ||| b.val:Nat):Int):=by decide+kernel
 exact this ⟨m,hm⟩ ⟨n,hn⟩
theorem yI{m n:Nat}(hm:m<16)(hn:n<16):m ||| n<16:=Nat.or_lt_two_pow (n:=4) hm hn
structure Kq(F:List Nat)(w w':World):Prop where
 os:w'.os=w.os
 tape:w'.tape=w.tape
 output:w'.output=w.output
 size:w.heap.size<=w'.heap.size
 block:∀k,k<w.heap.size->k∉F->w'.heap[k]?=w.heap[k]?
section
variable {F:List Nat}{w w1 w2:World}{g B:Nat}
theorem Kq.refl(F:List Nat)(w:World):Kq F w w:=⟨rfl,rfl,rfl,aR _,λ_ _ _=>rfl⟩
theorem Kq.trans(h:Kq F w w1)(k:Kq F w1 w2):Kq F w w2:=⟨k.os.trans h.os,k.tape.trans h.tape,k.output.trans h.output,aW h.size k.size,λi hi hn=>(k.block i (aN hi h.size) hn).trans (h.block i hi hn)⟩
theorem Kq.below(h:Kq F w w1)(hB:∀f,f∈F->B<=f)(hw:B<=w.heap.size):Below B w w1:=⟨h.os,h.tape,h.output,h.size,λi hi=>h.block i (by omega) (λhm=>by have:=hB i hm;omega)⟩
theorem yJ(h:Below w w w1):Kq F w w1:=⟨h.os,h.tape,h.output,h.size,λi hi _=>h.block i hi⟩
theorem Only.kq(h:Only g w w1)(hg:g∈F):Kq F w w1:=⟨h.os,h.tape,h.output,h.size,λi hi hn=>h.block i hi (by intro e;cases e;exact hn hg)⟩
end
def PAt(t:TypeId)(F:List Nat)(W:World)(g:Nat)(s:MS):Prop:=∃V,Blk W g (stc V s.a s.g) t/\∀i,i<8->Dat (g::F) W (V i) (s.d i)/\iK (s.d i)
section
variable {t:TypeId}{F:List Nat}{W W':World}{g g':Nat}{s s':MS}
theorem PAt.lt(h:PAt t F W g s):g<W.heap.size:=by
 obtain⟨V,hB,-⟩:=h;exact hB.lt
theorem PAt.below(h:PAt t F W g s)(k:Below W W W'):PAt t F W' g s:=by
 obtain⟨V,hB,hD⟩:=h;exact⟨V,hB.below k hB.lt,λi hi=>⟨(hD i hi).1.keep (ku k),(hD i hi).2⟩⟩
theorem PAt.frozen(h:PAt t F W g s)(o:Nat):W.frozen? (g,o)=false:=by
 obtain⟨V,hB,-⟩:=h;exact hB.frozen _
end
end
end Go.Proofs.YteadkhigkmijiaaGreat
