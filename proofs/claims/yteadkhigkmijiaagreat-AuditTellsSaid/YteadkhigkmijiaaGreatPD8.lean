/- Texts AlC, AlD, AlE, NdM, Ab in one. -/
import Derived.Recover
import Derived.BigRegion
import Derived.BigQuiet
import Derived.Deep.RegionWith
import Derived.Deep.RegionLaw
import Derived.Lib.LazyBuf
import Derived.Test.YteadkhigkmijiaaGreatPD1
import Derived.Test.YteadkhigkmijiaaGreatPD5
import Derived.Test.YteadkhigkmijiaaGreatPD6
import Derived.Test.YteadkhigkmijiaaGreatPD7
set_option linter.all false
namespace Go.Proofs.YteadkhigkmijiaaGreat
section
set_option maxRecDepth 100000
set_option maxHeartbeats 2000000
open Go.RowKit
def c8(f:Nat->Nat):Array Value:=#[↑(f 0:Nat),↑(f 1:Nat),↑(f 2:Nat),↑(f 3:Nat),↑(f 4:Nat),↑(f 5:Nat),↑(f 6:Nat),↑(f 7:Nat)]
def alc(V:Value)(n r:Nat->Nat):Array Value:=#[V,↑(n 0:Nat),↑(n 1:Nat),↑(n 2:Nat),↑(n 3:Nat),↑(n 4:Nat),↑(n 5:Nat),↑(n 6:Nat),↑(n 7:Nat),↑(r 0:Nat),↑(r 1:Nat),↑(r 2:Nat),↑(r 3:Nat),↑(r 4:Nat),↑(r 5:Nat),↑(r 6:Nat),↑(r 7:Nat)]
section
variable (V:Value)(f n r:Nat->Nat){i:Nat}(hi:i<8)
include hi
theorem Gf:(c8 f)[i]?=some ↑(f i:Nat):=lu (p:=λi=>(c8 f)[i]?=some ↑(f i:Nat)) hi rfl rfl rfl rfl rfl rfl rfl rfl
theorem Gg(x:Nat):(c8 f).setIfInBounds i ↑x=c8 (upd f i x):=lu (p:=λi=>(c8 f).setIfInBounds i ↑x=c8 (upd f i x)) hi rfl rfl rfl rfl rfl rfl rfl rfl
theorem yE:(alc V n r)[1+i]?=some ↑(n i:Nat):=lu (p:=λi=>(alc V n r)[1+i]?=some ↑(n i:Nat)) hi rfl rfl rfl rfl rfl rfl rfl rfl
theorem yF:(alc V n r)[9+i]?=some ↑(r i:Nat):=lu (p:=λi=>(alc V n r)[9+i]?=some ↑(r i:Nat)) hi rfl rfl rfl rfl rfl rfl rfl rfl
theorem Gh(x:Nat):(alc V n r).setIfInBounds (1+i) ↑x=alc V (upd n i x) r:=lu (p:=λi=>(alc V n r).setIfInBounds (1+i) ↑x=alc V (upd n i x) r) hi rfl rfl rfl rfl rfl rfl rfl rfl
theorem Gi(x:Nat):(alc V n r).setIfInBounds (9+i) ↑x=alc V n (upd r i x):=lu (p:=λi=>(alc V n r).setIfInBounds (9+i) ↑x=alc V n (upd r i x)) hi rfl rfl rfl rfl rfl rfl rfl rfl
end
structure AAt(F:List Nat)(W:World)(g:Nat)(l:List R4)(n r:Nat->Nat):Prop where
 ex:∃V,Blk W g (alc V n r) 129/\jl W W V l/\∀f,f∈F->l≠[]->V.ownBlock≠some f
 len:l.length<=8
 n16:∀i,i<8->n i<16
 r16:∀i,i<8->r i<16
section
variable {F:List Nat}{W W':World}{g g':Nat}{l:List R4}{n r:Nat->Nat}
theorem jl.mI{V:Value}(h:jl W W V l)(hF:∀f,f∈F->l≠[]->V.ownBlock≠some f)(k:Kp F W W'):jl W' W' V l:=⟨by
 obtain⟨A,c,rfl,h1,h2,h3,h4⟩:=h.at_;refine⟨A,c,rfl,h1,h2,λh0=>?_,h4⟩;obtain⟨b,off,rfl,hb,hc⟩:=h3 h0;have hn:b∉F:=λhm=>hF b hm (aX.1 h0) rfl;exact⟨b,off,rfl,aN hb k.size,λj hj=>(hc j hj).keep λo=>by simp only[World.cell?,k.block b hb hn]⟩⟩
theorem AAt.lt(h:AAt F W g l n r):g<W.heap.size:=by
 obtain⟨V,hB,-⟩:=h.ex;exact hB.lt
theorem AAt.keep(h:AAt F W g l n r)(k:Kp F W W')(hb:W'.heap[g]?=W.heap[g]?):AAt F W' g l n r:=by
 obtain⟨V,hB,hS,hF⟩:=h.ex;exact⟨⟨V,hb.trans hB,hS.mI hF k,hF⟩,h.len,h.n16,h.r16⟩
theorem AAt.below(h:AAt F W g l n r)(k:Below W W W'):AAt F W' g l n r:=h.keep (ku k) (k.block g h.lt)
theorem AAt.only(h:AAt F W g l n r)(k:Only g' W W')(hne:g≠g')(hF:g'∈F):AAt F W' g l n r:=h.keep (k.kp hF) (k.block g h.lt (by intro e;cases e;exact hne rfl))
theorem AAt.more(h:AAt F W g l n r)(k:Below W W W'){f:Nat}(hf:W.heap.size<=f):AAt (f::F) W' g l n r:=by
 obtain⟨V,hB,hS,hF⟩:=h.ex;have h':=h.below k;obtain⟨V',hB',hS',hF'⟩:=h'.ex;refine⟨⟨V',hB',hS',λx hx hl=>?_⟩,h.len,h.n16,h.r16⟩;rcases bq.1 hx with rfl|hx
 ·have e:V'=V:=by
   have e1:=(hB.below k hB.lt).symm.trans hB';simp only[bB,Obj.cells.injEq]at e1;have:=dn (λa=>a[0]?) e1.1;simpa[alc]using this.symm
  subst e;obtain⟨A,c,rfl,-,-,h3,-⟩:=hS.at_;obtain⟨b,off,rfl,hb,-⟩:=h3 (aX.2 hl);simp only[Value.ownBlock];intro e
  cases e
  all_goals (first|omega|exact H.elim)
 ·exact hF' x hx hl
theorem AAt.frozen(h:AAt F W g l n r)(o:Nat):W.frozen? (g,o)=false:=by
 obtain⟨V,hB,-⟩:=h.ex;exact hB.frozen _
theorem AAt.cs(h:AAt F W g l n r):∃A c,W.cell? (g,0)=some (.slice A l.length c)/\jl W W (.slice A l.length c) l:=by
 obtain⟨V,hB,hS,-⟩:=h.ex;obtain⟨A,c,rfl,-⟩:=hS.at_;exact⟨A,c,hB.cell 0 rfl,hS⟩
theorem AAt.cn(h:AAt F W g l n r){i:Nat}(hi:i<8):W.cell? (g,1+i)=some ↑(n i:Nat):=by
 obtain⟨V,hB,-⟩:=h.ex;exact hB.cell _ (yE _ _ _ hi)
theorem AAt.cr(h:AAt F W g l n r){i:Nat}(hi:i<8):W.cell? (g,9+i)=some ↑(r i:Nat):=by
 obtain⟨V,hB,-⟩:=h.ex;exact hB.cell _ (yF _ _ _ hi)
end
def isR(l:List R4)(i:Int):Prop:=0<=i/\i<l.length
instance (l:List R4)(i:Int):Decidable (isR l i):=inferInstanceAs (Decidable (_/\_))
theorem Gj(r:R4)(w:World):
  Calls Tryz.prog 86 #[r.v] w λe w'=>e=.returned ↑(decide r.may)/\Below w w w':=by
 obtain⟨n,lo,hi,st⟩:=r;have hbel:∀M1,Below w w (w.alloc M1):=λM1=>(ah w w).alloc lr M1;unfold R4.v
 go_enter Tryz.func86,Tryz.ntmps86
 go_wp2
 all_goals
  go_ret;refine⟨dn (λb=>Ending.returned (Value.bool b)) (bY.2 ?_),hbel _⟩;rw[gB];simp only[bC,bA];unfold R4.may
  dsimp only
  constructor<;>intro H
  all_goals (first|omega|exact H.elim)
end
section
set_option maxRecDepth 100000
set_option maxHeartbeats 2000000
open Go.RowKit
def nW(m n:Nat):Nat:=m &&& (15^^^n)
theorem Gk{m n:Nat}(hm:m<16)(hn:n<16):bits BinOp.andNot IntKind.i64 (m:Nat) (n:Nat)=((nW m n:Nat):Int):=by
 have:∀(a b:Fin 16),bits BinOp.andNot IntKind.i64 (a.val:Nat) (b.val:Nat)=((nW a.val b.val:Nat):Int):=by decide+kernel
 exact this ⟨m,hm⟩ ⟨n,hn⟩
def jP(l:List R4)(n r:Nat->Nat)(i:Int):Int:=if isR l i then(if nW (r i.toNat) (n i.toNat)=0 then 4 else 0)else 1
def jS(l:List R4)(n r:Nat->Nat)(i:Int):Nat->Nat:=if isR l i then(if nW (r i.toNat) (n i.toNat)=0 then r else upd r i.toNat (n i.toNat))else r
theorem Gl(l:List R4)(v:Value)(B:Nat)(w:World)(hv:jl w B v l)(hB:B<=w.heap.size)(h8:l.length<=8)(hm:∀i,i<l.length->(l.getD i default).may):
  Calls Tryz.prog 57 #[v] w λe w'=>∃g,e=.returned (.tuple #[.pointer (some ⟨g,0,none⟩),↑(0:Int)])/\w.heap.size<=g/\(∀F,(∀f,f∈F->f<w.heap.size\/f=g)->AAt F w' g l (λ_=>0) (λ_=>0))/\Below w w w':=by
 obtain⟨A,c,rfl,v1,v2,v3,v4⟩:=hv.at_;unfold maxLen at v2;have d0:decide ((8:Int)<((l.length:Nat):Int))=false:=aj (by omega);have hS:=af hv;have HC:=λW(hb:Below w w W)=>af (Gm l _ W B (hS.o.below (hb.mono hB)) (by omega));have HX:Hid (0<l.length->∃b off,A=some ⟨b,off,none⟩/\∀W,Below w w W->∀k,k<l.length->mJ W b (off+k*4) (l.getD k default)):=af λh0=>by
  obtain⟨b,off,hA,hb,hc⟩:=v3 h0;exact⟨b,off,hA,λW hW k hk=>(hc k hk).keep λo=>hW.cell (p:=(b,o)) (by show b<_;omega)⟩
 clear v3 v4 hv
 go_enter Tryz.func57,Tryz.ntmps57
 go_wp2_with fail
 go_loopw [11] (λi wr=>∃k:Nat,k<=l.length/\i=↑k/\Below w w wr) (λi _=>l.length-(intOf i).toNat)
 case atStart=>exact⟨0,by omega,rfl,ah _ _⟩
 case round=>
  obtain⟨k,hk,rfl,b⟩:=hrel;by_cases hlt:k<l.length
  ·have r1:decide ((k:Int)<((l.length:Nat):Int))=true:=av (by omega)
   obtain⟨bl,off,rfl,HG⟩:=HX.o (by omega);obtain⟨x0,x1,x2,x3⟩:=HG _ b k hlt;have hmk:=hm k hlt;clear HG HX HC;generalize l.getD k default=q at *;have HM:=λW=>af (Gj q W);rw[av hmk]at HM;obtain⟨qn,ql,qh,qs⟩:=q;unfold R4.v at HM;clear hmk hm;go_wp2_with fail;refine(HM _).o.mono ?_;rintro _ w2 ⟨rfl,b2⟩;have b2:=(b.alloc b.size _).trans (b2.mono (by have:=b.size;simp;omega));go_wp2;go_roundw
   case rel=>exact⟨k+1,by omega,by go_num,b2⟩
   case measure=>simp[intOf];omega
  ·obtain rfl:k=l.length:=by omega
   go_wp2_with fail;refine(HC _ b).o.mono ?_;rintro _ w2 ⟨v2,rfl,ho,b2⟩;have b3:=b.trans (b2.mono b.size);have hlt:=dL ho;have hs:=ho.sees;obtain⟨A2,c2,rfl,-⟩:=hs.at_;have hb:=af (b3.alloc b3.size (.cells (alc (.slice A2 l.length c2) (λ_=>0) (λ_=>0)) 129));clear ho;go_wp2;go_ret2;refine⟨_,rfl,b3.size,λF hF=>⟨⟨.slice A2 l.length c2,aJ _ _ rfl _ _,(hs.alloc _).more (by simp),λf hf _ e=>?_⟩,h8,λ_ _=>by omega,λ_ _=>by omega⟩,hb.o⟩;have h1:=hlt f e;have h2:=b.size;rcases hF f hf with h|h<;>omega
theorem Gn(w:World):
  CallsD Tryz.prog 228 #[] .returning w λe u' w'=>e=.returned (.tuple #[])/\u'=.returning/\w'=w:=by
 refine callsD_of_wpS Tryz.func228 rfl λc₀ cs hu=>?_
 apply wpS_region
 simp[wpOpsS,go_sem,recoverD,hu,Tryz.ntmps228]
 cases c₀
 simp_all[bodyPostS,results,Tryz.results228]
end
section
set_option maxRecDepth 100000
open Go.RowKit
def yG(K:Act->World->Prop):Exit->Act->World->Prop
 |.normal,a,w=>K a w
 |_,_,_=>False
theorem Gq{P:Program}{c:Code}{Q:Exit->Act->World->Prop}{a:Act}{w:World}(h:c.wp P (yG (Q .normal)) a w):c.wp P Q a w:=wp_mono h λe a w h=>by
 cases e<;>first|exact h|exact h.elim
def iR(l:List R4)(s:MS)(i:Nat):Nat:=if i<l.length then lE (l.getD i default) (s.gd (l.getD i default).n) (s.ga (l.getD i default).n) (s.gg (l.getD i default).n)else 0
theorem rU(l:List R4)(s:MS)(i:Nat):iR l s i<16:=by
 unfold iR
 split
 ·exact Gr _ _ _ _
 ·omega
theorem Gs(f:Nat->Nat){k:Nat}(hk:k<8)(w:World):(Instr.index 22 (.agg #[↑(f 0:Nat),↑(f 1:Nat),↑(f 2:Nat),↑(f 3:Nat),↑(f 4:Nat),↑(f 5:Nat),↑(f 6:Nat),↑(f 7:Nat)]) ↑k).run Tryz.prog w=.ok ↑(f k:Nat) w:=
 lu (p:=λk=>(Instr.index 22 (.agg #[↑(f 0:Nat),↑(f 1:Nat),↑(f 2:Nat),↑(f 3:Nat),↑(f 4:Nat),↑(f 5:Nat),↑(f 6:Nat),↑(f 7:Nat)]) ↑(k:Nat)).run Tryz.prog w=.ok ↑(f k:Nat) w) hk rfl rfl rfl rfl rfl rfl rfl rfl
end
section
open Go.RowKit
structure Hn where
 a:Int
 b:Int
 x:List Int
 y:List Int
 o:Int
structure NM where
 t:Tb.T
 i:Nat
 dr:Int
 al:List R4
 st:Nat
 rd:Int
 sl:Nat
 ty:TS
 tm:Int
 ck:List Int
 so:MS
 an:Nat->Nat
 ar:Nat->Nat
 da:List Int
 wt:Nat
 se:Bool
namespace NM
def new(t:Tb.T)(i:Nat)(dr:Int)(l:List R4):NM:=⟨t,i,dr,l,0,0,0,⟨0,0,0⟩,0,[],MS.new,λ_=>0,λ_=>0,[],0,false⟩
def may(t:Tb.T)(i:Int)(dr:Int)(l:List R4):Prop:=t.is=true/\(0<=i/\i<t.ns.length)/\(-t.dr<=dr/\dr<=t.dr)/\l.length<=8/\∀k,k<l.length->(l.getD k default).may
def anew(s:NM)(k:Nat):NM:={s with st:=k,rd:=0,sl:=0,ty:=⟨0,0,0⟩,ck:=[],so:=MS.new,wt:=0,se:=false}
def me(s:NM):Tb.D:=s.t.ns.getD s.i default
def at_(s:NM)(k:Nat):Tb.D:=s.t.ns.getD k default
def view(s:NM):Fr.St:=⟨s.rd,s.sl,s.ty.m⟩
def onE(s:NM)(a:Int):Int:=if a < -1000\/1000<a then 1 else if s.st≠0/\s.st≠5 then 4 else 0
def on(s:NM)(a:Int):NM:=if s.onE a=0 then {s.anew 1 with tm:=a}else s
def off(s:NM):NM:=s.anew 0
def kN(s:NM)(l:List Int):Int:=if s.me.sz<l.length then 1 else 0
def write(s:NM)(l:List Int):NM:=if s.me.sz<l.length then s else {s with da:=l}
def frm(s:NM)(k:Int):Fr.F:=⟨k,s.view,s.da⟩
def alone(s:NM):Prop:=s.ty.a=0
def clique(s:NM):Prop:=s.ty.f<=s.ty.a
instance (s:NM):Decidable s.alone:=inferInstanceAs (Decidable (_=_))
instance (s:NM):Decidable s.clique:=inferInstanceAs (Decidable (_<=_))
def enter(s:NM):NM:=
 if s.st=2 then(if s.alone then s.anew 1 else {s with st:=4})
 else if s.st=3 then(if ¬s.alone/\s.clique then {s with st:=4}else {s with ty:=s.ty.clear})
 else if ¬s.clique then {s with st:=5}else if s.alone then s.anew 1 else s
def begun(s:NM):NM:={s.anew 2 with sl:=s.i,ty:=(⟨0,0,0⟩:TS).join s.i}
def joined(s:NM):NM:={s with ty:=(s.ty.join s.i).clear}
def jB(s:NM):Int:=
 if s.st=1 then(if(s.wt:Int)+1<s.me.li then 0 else 3)
 else if s.st=0\/s.st=5\/s.sl≠s.i then 0
 else if s.enter.st≠4 then 0
 else if s.me.inf=true\/s.st≠4\/s.rd%2=0 then 2 else 1
def iL(s:NM):NM:=
 if s.st=1 then(if(s.wt:Int)+1<s.me.li then {s with wt:=s.wt+1,se:=false}else {s.begun with se:=true})
 else if s.st=0\/s.st=5\/s.sl≠s.i then {s with se:=false}
 else if s.enter.st≠4 then {s.enter with se:=false}
 else {s.enter.joined with se:=true}
def sent(s:NM):List Int:=if s.jB=0 then []else(s.iL.frm s.jB).bytes
def rows(h:Hn):List (List Int):=(if h.a=2 then [h.x]else [])++(if h.b=2 then [h.y]else [])
def z3:Fr.St:=⟨0,0,0⟩
def tells(s:NM)(l:List Int):Prop:=Fr.err l z3=0/\(Fr.res l z3).k≠1/\(Fr.res l z3).st.s<s.t.ns.length/\(Fr.res l z3).st.s≠s.i
instance (s:NM)(l:List Int):Decidable (s.tells l):=inferInstanceAs (Decidable (_/\_))
def own(s:NM):Fr.St:=⟨s.rd,s.sl,(Go.Proofs.YteadkhigkmijiaaGreat.ins s.ty.m s.sl:Nat)⟩
def isRight(s:NM)(l:List Int):Prop:=Fr.err l s.own=0/\(Fr.res l s.own).k≠3/\(Fr.res l s.own).st=s.own
instance (a b:Fr.St):Decidable (a=b):=decidable_of_iff (a.r=b.r/\a.s=b.s/\a.m=b.m) (by cases a;cases b;simp)
instance (s:NM)(l:List Int):Decidable (s.isRight l):=inferInstanceAs (Decidable (_/\_))
def kY(s:NM)(h:Hn):Option (List Int):=(rows h).find? λl=>decide (s.tells l)
def lg(s:NM)(h:Hn):Option (List Int):=(rows h).find? λl=>decide (s.isRight l)
def goOn(s:NM):NM:=
 let sl:=nxS s.t.ns.length s.sl
 let s1:={s with rd:=nxR s.t.ns.length s.rd s.sl,sl:=sl.toNat,se:=false}
 if sl≠0 then s1 else
 let s2:=if wiB s.t.lm (Clk.avg s.ck)then {s1 with tm:=s.tm+jb s.t.lm s.ck+s.dr}else {s1 with st:=5}
 {s2 with ck:=[],so:=s.so.age,an:=iR s.al s.so.age,ar:=λi=>s.ar i ||| iR s.al s.so.age i}
def wD(so:MS)(m:Nat):MS:={so with g:=λi=>if i<8 then isB m i else so.g i}
def knows(s:NM)(f:Fr.F)(o:Int):NM:=
 let ty:=(⟨(f.st.m%256).toNat,0,0⟩:TS).right f.st.s
 {s.anew 3 with rd:=f.st.r,sl:=f.st.s.toNat,ty:=ty,tm:=s.tm+o,so:=wD (MS.new.put f.st.s f.d) ty.m}
def meas(s:NM)(k:Nat)(o:Int):List Int:=if(s.at_ k).sy=true then iT s.ck o else s.ck
def took(s:NM)(ty:TS)(so:MS)(ck:List Int):NM:={s with ty:=ty,so:=so.member s.sl (isB ty.m s.sl),ck:=ck}
def take(s:NM)(h:Hn):NM:=
 if s.st=0\/s.st=5 then s
 else if s.st=1 then
  match s.kY h with
  |some l=>(s.knows (Fr.res l z3) h.o).goOn
  |none=>if h.a≠0\/h.b≠0 then {s with wt:=0}else s
 else if s.sl=s.i then({s with ck:=if s.se=true then s.meas s.i 0 else s.ck}).goOn
 else
  match s.lg h with
  |some l=>(s.took (s.ty.right s.sl) (s.so.put s.sl (Fr.res l s.own).d) (s.meas s.sl h.o)).goOn
  |none=>if h.a=0/\h.b=0 then(s.took (s.ty.miss s.sl) s.so s.ck).goOn else(s.took (s.ty.wrong s.sl) s.so s.ck).goOn
end NM
end
section
open Go.RowKit
abbrev zH:Array Value:=#[↑(0:Int),↑(0:Int),.slice none 0 0,.slice none 0 0,↑(0:Int),↑(0:Int),↑(0:Int),.slice none 0 0,.slice none 0 0,↑(0:Int),↑(0:Int),↑(0:Int),.slice none 0 0,.slice none 0 0,↑(0:Int),↑(0:Int),↑(0:Int),.slice none 0 0,.slice none 0 0,↑(0:Int),↑(0:Int),↑(0:Int),.slice none 0 0,.slice none 0 0,↑(0:Int),↑(0:Int),↑(0:Int),.slice none 0 0,.slice none 0 0,↑(0:Int),↑(0:Int),↑(0:Int),.slice none 0 0,.slice none 0 0,↑(0:Int),↑(0:Int),↑(0:Int),.slice none 0 0,.slice none 0 0,↑(0:Int)]
abbrev zF:Array Value:=#[↑(0:Int),↑(0:Int),↑(0:Int),↑(0:Int),.slice none 0 0]
abbrev zS:Array Value:=#[.slice none 0 0,.slice none 0 0,.slice none 0 0,.slice none 0 0,.slice none 0 0,.slice none 0 0,.slice none 0 0,.slice none 0 0]
abbrev zI:Array Value:=#[↑(0:Int),↑(0:Int),↑(0:Int),↑(0:Int),↑(0:Int),↑(0:Int),↑(0:Int),↑(0:Int)]
abbrev aI(a:Nat->Int):Array Value:=#[↑(a 0),↑(a 1),↑(a 2),↑(a 3),↑(a 4),↑(a 5),↑(a 6),↑(a 7)]
abbrev aS(A:Nat->Option Addr)(b:Nat->List Int)(c:Nat->Nat):Array Value:=#[.slice (A 0) (b 0).length (c 0),.slice (A 1) (b 1).length (c 1),.slice (A 2) (b 2).length (c 2),.slice (A 3) (b 3).length (c 3),.slice (A 4) (b 4).length (c 4),.slice (A 5) (b 5).length (c 5),.slice (A 6) (b 6).length (c 6),.slice (A 7) (b 7).length (c 7)]
abbrev aH(h:Hn)(x y:Value):Array Value:=#[↑h.a,↑h.b,x,y,↑h.o]
abbrev aF(a b c d:Int)(A:Option Addr)(n k:Nat):Array Value:=#[↑a,↑b,↑c,↑d,.slice A n k]
end
end Go.Proofs.YteadkhigkmijiaaGreat
