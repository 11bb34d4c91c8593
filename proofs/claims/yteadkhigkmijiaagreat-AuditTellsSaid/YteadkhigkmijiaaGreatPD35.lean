/- Texts SrS, SrT, SrW, VdA, SqH, SrX, NdNil, VdB, NpM, NjA in one. -/
import Derived.Deep.RegionWith
import Derived.Test.YteadkhigkmijiaaGreatPD1
import Derived.Test.YteadkhigkmijiaaGreatPD26
import Derived.Test.YteadkhigkmijiaaGreatPD28
import Derived.Test.YteadkhigkmijiaaGreatPD34
set_option linter.all false
namespace Go.Proofs.YteadkhigkmijiaaGreat
section
open Go.RowKit
open Tb (D T)
section
variable {n g:Nat}{A:Nat->Option Addr}{c:Nat->Nat}{bs:Nat->List Int}{a:Nat->Int}{v:Value}{fl:List Ft}{m:List Sd}{s:Sd}{W:World}
end
theorem ju.one(W:World)(b:Nat)(hb:b=W.heap.size)(t:TypeId)(f:Ft)(u:Value)(hu:iI W W u f.d)(hy:iK f.d):
  ju (W.alloc (.cells #[↑f.k,↑f.n,↑f.a,u] t)) (W.heap.size+1) (.slice (some (b,0)) 1 1) [f]:=by
 subst hb;have X:=aJ W _ rfl #[↑f.k,↑f.n,↑f.a,u] t;refine⟨⟨_,1,rfl,aR _,by simp[maxLen],λ_=>⟨W.heap.size,0,rfl,cJ _,λi hi=>?_⟩⟩,λg hg=>by rw[bD.1 hg];exact hy⟩;obtain rfl:i=0:=by simpa using hi
 exact⟨X.cell 0 rfl,X.cell 1 rfl,X.cell 2 rfl,u,X.cell 3 rfl,(hu.below ((ah _ _).alloc lr _)).more (by omega)⟩
end
section
open Go.RowKit
end
section
open Go.RowKit
open Tb (D T)
open Fr (St F)
end
section
open Go.RowKit
structure WM where
 ms:Nat->NM
 s:G
 t:G
 sl:Nat
def je{α:Type}(f:Nat->α)(k:Nat)(x:α)(i:Nat):α:=if i=k then x else f i
theorem j9{α:Type}(f:Nat->α)(k:Nat)(x:α):je f k x k=x:=au rfl
theorem kB{α:Type}(f:Nat->α)(k:Nat)(x:α){i:Nat}(h:i≠k):je f k x i=f i:=ai h
structure WP where
 nb:Nat
 gs:Nat
 cap:Nat
 gp:Nat->Nat
 F:Nat->List Nat
structure WIn(B:Nat)(P:List Nat)(N:Nat)(q:WP)(W:World)(x:Nat)(u:WM):Prop where
 blk:Blk W x #[.slice (some (q.nb,0)) N q.cap,↑(q.gs,0),↑(u.sl:Nat)] 62
 nlt:q.nb<W.heap.size
 ptr:∀i,i<N->W.cell? ⟨q.nb,i,none⟩=some ↑(q.gp i,0)
 star:jL W q.gs N u.s u.t
 nd:∀i,i<N->NAt (q.F i) W (q.gp i) (u.ms i)
 own:∀i,i<N->∀p,p=x\/p=q.nb\/p=q.gs\/p∈P->p∉q.F i
 dis:∀i j,i<N->j<N->i≠j->∀f,f∈q.F i->f∉q.F j
 ne:x≠q.nb/\x≠q.gs/\q.nb≠q.gs
 o:∀p,p∈P->p<W.heap.size/\p≠x/\p≠q.nb/\p≠q.gs
 cap:N<=q.cap
 bas:B<=x/\B<=q.nb/\B<=q.gs/\∀i,i<N->∀f,f∈q.F i->B<=f
section
variable {B:Nat}{P:List Nat}{N:Nat}{q:WP}{W W':World}{x:Nat}{u:WM}
theorem WIn.lt(h:WIn B P N q W x u):x<W.heap.size/\q.nb<W.heap.size/\q.gs<W.heap.size:=⟨h.blk.lt,h.nlt,h.star.lt⟩
theorem nG{W W':World}{b o:Nat}(h:W'.heap[b]?=W.heap[b]?):W'.cell? (b,o)=W.cell? (b,o):=by simp only[World.cell?,h]
theorem WIn.keep(h:WIn B P N q W x u)(hs:W.heap.size<=W'.heap.size)(hb:∀b,b<W.heap.size->(b=x\/b=q.nb\/b=q.gs\/∃i,i<N/\b∈q.F i)->W'.heap[b]?=W.heap[b]?):WIn B P N q W' x u:=by
 obtain⟨l1,l2,l3⟩:=h.lt;refine⟨(hb x l1 (.inl rfl)).trans h.blk,aN h.nlt hs,λi hi=>(nG (hb _ l2 (.inr (.inl rfl)))).trans (h.ptr i hi),⟨(hb _ l3 (.inr (.inr (.inl rfl)))).trans h.star.1,h.star.2⟩,λi hi=>(h.nd i hi).keep hs λf hf=>hb f ((h.nd i hi).lt f hf) (.inr (.inr (.inr ⟨i,hi,hf⟩))),h.own,h.dis,h.ne,λp hp=>?_,h.cap,h.bas⟩;obtain⟨a,b⟩:=h.o p hp;exact⟨aN a hs,b⟩
theorem WIn.below(h:WIn B P N q W x u)(b:Below W W W'):WIn B P N q W' x u:=h.keep b.size λk hk _=>b.block k hk
theorem WIn.only(h:WIn B P N q W x u){p:Nat}(hp:p∈P\/W.heap.size<=p)(o:Only p W W'):WIn B P N q W' x u:=by
 refine h.keep o.size λk hk hw=>o.block k hk λe=>?_
 cases e
 rcases hp with hp|hp
 ·obtain⟨-,b1,b2,b3⟩:=h.o p hp
  rcases hw with e|e|e|⟨i,hi,hm⟩
  ·exact b1 e
  ·exact b2 e
  ·exact b3 e
  ·exact h.own i hi p (.inr (.inr (.inr hp))) hm
 ·omega
theorem WIn.box(h:WIn B P N q W x u)(o:Obj):WIn B (W.heap.size::P) N q (W.alloc o) x u:=by
 obtain⟨l1,l2,l3⟩:=h.lt;have h':=h.below ((ah W W).alloc lr o);refine⟨h'.blk,h'.nlt,h'.ptr,h'.star,h'.nd,λi hi p hp=>?_,h.dis,h.ne,λp hp=>?_,h.cap,h.bas⟩
 ·rcases hp with e|e|e|hp
  ·exact h.own i hi p (.inl e)
  ·exact h.own i hi p (.inr (.inl e))
  ·exact h.own i hi p (.inr (.inr (.inl e)))
  ·rcases bq.1 hp with e|hp
   ·subst e;exactλhm=>absurd ((h.nd i hi).lt _ hm) (fD _)
   ·exact h.own i hi p (.inr (.inr (.inr hp)))
 ·rcases bq.1 hp with e|hp
  ·subst e;exact⟨by simp,by omega,by omega,by omega⟩
  ·exact h'.o p hp
theorem WIn.less{P':List Nat}(h:WIn B P N q W x u)(hP:∀p,p∈P'->p∈P):WIn B P' N q W x u:=
 ⟨h.blk,h.nlt,h.ptr,h.star,h.nd,λi hi p hp=>h.own i hi p (by
  rcases hp with e|e|e|hp
  ·exact .inl e
  ·exact .inr (.inl e)
  ·exact .inr (.inr (.inl e))
  ·exact .inr (.inr (.inr (hP p hp)))),h.dis,h.ne,λp hp=>h.o p (hP p hp),h.cap,h.bas⟩
theorem WIn.foreign{D P':List Nat}(h:WIn B P N q W x u)(k:Kq D W W')(hD:∀p,p∈D->p∈P)(hP:∀p,p∈P'->p<W'.heap.size/\(p∈P\/W.heap.size<=p)):WIn B P' N q W' x u:=by
 obtain⟨l1,l2,l3⟩:=h.lt;have h':=h.keep k.size λb hb hw=>k.block b hb λhm=>by
  obtain⟨-,b1,b2,b3⟩:=h.o b (hD b hm);rcases hw with e|e|e|⟨i,hi,hf⟩
  ·exact b1 e
  ·exact b2 e
  ·exact b3 e
  ·exact h.own i hi b (.inr (.inr (.inr (hD b hm)))) hf
 refine⟨h'.blk,h'.nlt,h'.ptr,h'.star,h'.nd,λi hi p hp=>?_,h.dis,h.ne,λp hp=>?_,h.cap,h.bas⟩
 ·rcases hp with e|e|e|hp
  ·exact h.own i hi p (.inl e)
  ·exact h.own i hi p (.inr (.inl e))
  ·exact h.own i hi p (.inr (.inr (.inl e)))
  ·rcases(hP p hp).2 with hq|hq
   ·exact h.own i hi p (.inr (.inr (.inr hq)))
   ·exactλhm=>by have:=(h.nd i hi).lt p hm;omega
 ·obtain⟨a,hq⟩:=hP p hp
  rcases hq with hq|hq
  ·exact⟨a,(h.o p hq).2⟩
  ·exact⟨a,by omega,by omega,by omega⟩
theorem WIn.eff(h:WIn B P N q W x u){i:Nat}(hi:i<N){F':List Nat}{m':NM}(hn:NAt F' W' (q.gp i) m')(e:Eff (q.F i) F' W W'):WIn B P N {q with F:=je q.F i F'} W' x {u with ms:=je u.ms i m'}:=by
 obtain⟨l1,l2,l3⟩:=h.lt;have hsz:=e.1.size;have old:∀b,b<W.heap.size->b∉q.F i->W'.heap[b]?=W.heap[b]?:=λb hb hn=>e.1.block b hb hn;have fresh:∀p,p<W.heap.size->p∉q.F i->p∉F':=λp hp hn hm=>by
  rcases e.2 p hm with h1|h1
  ·exact hn h1
  ·omega
 refine⟨(old x l1 (h.own i hi x (.inl rfl))).trans h.blk,aN h.nlt hsz,λj hj=>(nG (old _ l2 (h.own i hi _ (.inr (.inl rfl))))).trans (h.ptr j hj),⟨(old _ l3 (h.own i hi _ (.inr (.inr (.inl rfl))))).trans h.star.1,h.star.2⟩,λj hj=>?_,λj hj p hp=>?_,λj k hj hk hne f hf=>?_,h.ne,λp hp=>?_,h.cap,h.bas.1,h.bas.2.1,h.bas.2.2.1,λj hj f hf=>?_⟩
 ·by_cases ej:j=i
  ·subst ej;simp only[j9];exact hn
  ·simp only[kB _ _ _ ej]
   exact(h.nd j hj).keep hsz λf hf=>old f ((h.nd j hj).lt f hf) (h.dis j i hj hi ej f hf)
 ·by_cases ej:j=i
  ·subst ej
   simp only[j9];have hp':p<W.heap.size:=by
    rcases hp with e|e|e|hp
    ·rw[e];exact l1
    ·rw[e];exact l2
    ·rw[e];exact l3
    ·exact(h.o p hp).1
   exact fresh p hp' (h.own j hj p hp)
  ·simp only[kB _ _ _ ej];exact h.own j hj p hp
 ·by_cases ej:j=i
  ·subst ej
   simp only[j9]at hf;simp only[kB _ _ _ (show k≠j from λe=>hne e.symm)];intro hk';rcases e.2 f hf with h1|h1
   ·exact h.dis j k hj hk hne f h1 hk'
   ·have:=(h.nd k hk).lt f hk';omega
  ·simp only[kB _ _ _ ej]at hf
   by_cases ek:k=i
   ·subst ek
    simp only[j9];exact fresh f ((h.nd j hj).lt f hf) (h.dis j k hj hk hne f hf)
   ·simp only[kB _ _ _ ek];exact h.dis j k hj hk hne f hf
 ·obtain⟨a,b⟩:=h.o p hp
  exact⟨aN a hsz,b⟩
 ·by_cases ej:j=i
  ·subst ej
   simp only[j9]at hf;rcases e.2 f hf with h1|h1
   ·exact h.bas.2.2.2 j hj f h1
   ·have:=h.bas.1;omega
  ·simp only[kB _ _ _ ej]at hf;exact h.bas.2.2.2 j hj f hf
theorem WIn.vg(h:WIn B P N q W x u){s' t':G}(o:Only q.gs W W')(hs:jL W' q.gs N s' t'):WIn B P N q W' x {u with s:=s',t:=t'}:=by
 obtain⟨l1,l2,l3⟩:=h.lt;have old:∀b,b<W.heap.size->b≠q.gs->W'.heap[b]?=W.heap[b]?:=λb hb hn=>o.block b hb (by intro e;cases e;exact hn rfl);refine⟨(old x l1 h.ne.2.1).trans h.blk,aN h.nlt o.size,λj hj=>(nG (old _ l2 h.ne.2.2)).trans (h.ptr j hj),hs,λj hj=>(h.nd j hj).keep o.size λf hf=>old f ((h.nd j hj).lt f hf) (λe=>h.own j hj _ (.inr (.inr (.inl rfl))) (e▸hf)),h.own,h.dis,h.ne,λp hp=>?_,h.cap,h.bas⟩;obtain⟨a,b⟩:=h.o p hp;exact⟨aN a o.size,b⟩
theorem WIn.slots(h:WIn B P N q W x u)(k:Nat):WIn B P N q (W.setCell (x,2) ↑(k:Nat)) x {u with sl:=k}:=by
 have o:Only x W (W.setCell (x,2) ↑(k:Nat)):=(aE x W).set 2 _;obtain⟨l1,l2,l3⟩:=h.lt;have old:∀b,b<W.heap.size->b≠x->(W.setCell (x,2) ↑(k:Nat)).heap[b]?=W.heap[b]?:=λb hb hn=>o.block b hb (by intro e;cases e;exact hn rfl);refine⟨(h.blk.set 2 _).eq (by simp),aN h.nlt o.size,λj hj=>(nG (old _ l2 h.ne.1.symm)).trans (h.ptr j hj),⟨(old _ l3 h.ne.2.1.symm).trans h.star.1,h.star.2⟩,λj hj=>(h.nd j hj).keep o.size λf hf=>old f ((h.nd j hj).lt f hf) (λe=>h.own j hj _ (.inl rfl) (e▸hf)),h.own,h.dis,h.ne,λp hp=>?_,h.cap,h.bas⟩;obtain⟨a,b⟩:=h.o p hp;exact⟨aN a o.size,b⟩
end
def WAt(B:Nat)(P:List Nat)(N:Nat)(W:World)(x:Nat)(u:WM):Prop:=∃q,WIn B P N q W x u
section
variable {B:Nat}{P:List Nat}{N:Nat}{W W':World}{x:Nat}{u:WM}
theorem WAt.below(h:WAt B P N W x u)(b:Below W W W'):WAt B P N W' x u:=by obtain⟨q,h⟩:=h;exact⟨q,h.below b⟩
theorem WAt.box(h:WAt B P N W x u)(o:Obj):WAt B (W.heap.size::P) N (W.alloc o) x u:=by obtain⟨q,h⟩:=h;exact⟨q,h.box o⟩
theorem WAt.foreign{D P':List Nat}(h:WAt B P N W x u)(k:Kq D W W')(hD:∀p,p∈D->p∈P)(hP:∀p,p∈P'->p<W'.heap.size/\(p∈P\/W.heap.size<=p)):WAt B P' N W' x u:=by obtain⟨q,h⟩:=h;exact⟨q,h.foreign k hD hP⟩
theorem WAt.less{P':List Nat}(h:WAt B P N W x u)(hP:∀p,p∈P'->p∈P):WAt B P' N W x u:=by obtain⟨q,h⟩:=h;exact⟨q,h.less hP⟩
end
theorem iJ.same{W W':World}{B:Nat}{v:Value}{l:List Int}(h:iJ W B v l)(hb:∀b,v.ownBlock=some b->W'.heap[b]?=W.heap[b]?):iJ W' B v l:=by
 refine⟨h.1,?_⟩;rcases h.2 with hn|⟨g,cap,cur,rfl,hB,hg,rest⟩
 ·exact .inl hn
 ·exact .inr ⟨g,cap,cur,rfl,hB,(hb g rfl).trans hg,rest⟩
end
section
set_option maxRecDepth 100000
set_option maxHeartbeats 8000000
open Go.RowKit
theorem Qa(g N b:Nat)(s s2:G)(l:List (Value×Sd))(c d:Ch)(p r:Int)(P:List Nat)(v:Value)(n:Nat)(a q:Nat->Int)(w:World)(hg:jL w g N s s2)(hs:jd w P b l)(hgP:g∈P)(hgb:g≠b)(hr:Row w P v n a q)(hc:c.fr=p)(hd:d.fr=r)
  (hpl:p=-1\/∃j:Nat,p=j/\j<l.length) (hpr:r=-1\/∃j:Nat,r=j/\j<l.length) (ok:s.Ok (jG (l.map Prod.snd) p)) (ok2:s2.Ok (jG (l.map Prod.snd) r)):
  Calls Tryz.prog 105 #[↑(g,0),.agg (xcs b l.length c d),v] w λe w'=>e=.returned (.tuple #[])/\jL w' g N (s.ended (tl n a) (jG (l.map Prod.snd) p)) (s2.ended (tl n q) (jG (l.map Prod.snd) r))/\Only g w w':=by
 have hb0:=(ah w w).alloc lr (.cells (xcs b l.length c d) 189);have hX:XAt (w.alloc (.cells (xcs b l.length c d) 189)) (w.heap.size::P) w b l c d:=⟨aJ w _ rfl _ _,(hs.sub (P':=w.heap.size::P) (λi hi=>by
  rcases bq.1 hi with rfl|h
  ·exact .inr lr
  ·exact .inl h) (aT _ hs.mem)).below (((ah w w).alloc lr _)),by simp,by have:=hs.lt;omega⟩
 have hR:=EX v n a q P _ (hr.kp (fG P hb0));have hz:(w.alloc (.cells (xcs b l.length c d) 189)).heap.size=w.heap.size+1:=by simp
 have hG0:=hg.below hb0 hg.lt;have hgl:=hg.lt;obtain⟨Av,cv,rfl,-⟩:=hr.sees;obtain⟨bc,kc,vc,pc⟩:=c;obtain⟨bd,kd,vd,pd⟩:=d;simp only at hc hd;subst hc hd;have HR:=af hR;clear hR hr hg hs;have hW:=λW(h:XAt W (w.heap.size::P) w b l ⟨bc,kc,vc,pc⟩ ⟨bd,kd,vd,pd⟩)=>af (xR w b l _ _ _ pc W h hpl);have hW2:=λW(h:XAt W (w.heap.size::P) w b l ⟨bc,kc,vc,pc⟩ ⟨bd,kd,vd,pd⟩)=>af (xR w b l _ _ _ pd W h hpr);generalize jG (l.map Prod.snd) pc=t at *;generalize jG (l.map Prod.snd) pd=t2 at *;unfold xcs at *;simp only at *
 go_enter Tryz.func105,Tryz.ntmps105
 go_wp2_with fail;generalize w.alloc (.cells #[.slice (some (b,0)) l.length l.length,↑bc,↑kc,vc,↑pc,↑bd,↑kd,vd,↑pd] 189)=w0 at *;refine HR.o.mono ?_;rintro e w1 ⟨X,Y,rfl,oX,oY,hb1⟩;have hX1:=hX.below hb1;have hG1:=hG0.below hb1 hG0.lt;have hB1:=hb0.trans (hb1.mono (by omega));obtain⟨AX,cX,rfl,-⟩:=oX.sees.at_;obtain⟨AY,cY,rfl,-⟩:=oY.sees.at_;clear hX hG0 HR hb1 hb0;have x4:=hX1.blk.cell 4 (x:=↑pc) rfl;have hE1:=af (PL (cx1 N s2) g s _ (tl n a) t w1.drew (hG1.below ((ah _ _).drew) hG1.lt).one ok (oX.sees.drew) (qg n a));go_wp2_with fail
 go_region_with (first
  |(go_at_call 157;refine(hW w1.drew hX1.drew).o.mono ?_;rintro e w2 ⟨rfl,rfl⟩)
  |(go_at_call 156;refine hE1.o.mono ?_;rintro e w2 ⟨rfl,H2,O2⟩)
  |fail)
 all_goals
  have hX2:XAt w2 (w.heap.size::P) w b l ⟨bc,kc,vc,pc⟩ ⟨bd,kd,vd,pd⟩:=⟨(hX1.drew).blk.only O2 (by omega),(hX1.drew).sd.kp (Kw.only O2 (aT _ hgP)) (O2.block b hX1.sd.lt (by intro e;cases e;exact hgb rfl)),hX1.mem,hX1.ne⟩;have oY2:=oY.drew.only O2 (by omega);have G2:=jL.of1 H2 hG1.2.2;have O2':=af ((iQ g ((hB1.drew))).trans O2);have x8:=hX2.blk.cell 8 (x:=↑pd) rfl;have hE2:=af (PS (cx2 N (s.ended (tl n a) t)) g s2 _ (tl n q) t2 w2.drew (G2.below ((ah _ _).drew) G2.lt).two ok2 (oY2.sees.drew) (qg n q));have L2:=G2.2.1;clear hX1 hG1 hE1 x4 H2 O2 oX oY;go_wp2_with fail
  go_region_with (first
   |(go_at_call 157;refine(hW2 w2.drew hX2.drew).o.mono ?_;rintro e w3 ⟨rfl,rfl⟩)
   |(go_at_call 156;refine hE2.o.mono ?_;rintro e w3 ⟨rfl,H3,O3⟩)
   |fail)
  all_goals
   have HH:=af (jL.of2 H3 L2);have OO:=af (O2'.o.drew.trans O3);clear H3 O3 hE2 G2 oY2 hX2;go_wp2_with fail;exact aD (ax (by rfl) _ _ _) rfl ⟨rfl,HH.o,OO.o⟩
end
section
open Go.RowKit
def sl8(A:Nat->Option Addr)(c:Nat->Nat)(b:Nat->List Int):Array Value:=#[.slice (A 0) (b 0).length (c 0),.slice (A 1) (b 1).length (c 1),.slice (A 2) (b 2).length (c 2),.slice (A 3) (b 3).length (c 3),.slice (A 4) (b 4).length (c 4),.slice (A 5) (b 5).length (c 5),.slice (A 6) (b 6).length (c 6),.slice (A 7) (b 7).length (c 7)]
def kX{α:Type}(g:Nat->α)(k:Nat)(x:α)(i:Nat):α:=if i=k then x else g i
theorem Aa(A:Nat->Option Addr)(c:Nat->Nat)(b:Nat->List Int)(k:Nat)(hk:k<8):(sl8 A c b)[k]?=some (.slice (A k) (b k).length (c k)):=by
 rcases(by omega:k=0\/k=1\/k=2\/k=3\/k=4\/k=5\/k=6\/k=7)with rfl|rfl|rfl|rfl|rfl|rfl|rfl|rfl<;>rfl
theorem zP(A:Nat->Option Addr)(c:Nat->Nat)(b:Nat->List Int)(k:Nat)(hk:k<8)(A':Option Addr)(c':Nat)(l:List Int):(sl8 A c b).setIfInBounds k (.slice A' l.length c')=sl8 (kX A k A') (kX c k c') (kX b k l):=by
 rcases(by omega:k=0\/k=1\/k=2\/k=3\/k=4\/k=5\/k=6\/k=7)with rfl|rfl|rfl|rfl|rfl|rfl|rfl|rfl<;>simp[sl8,kX]
theorem HAt.same{W W':World}{b:Nat}{f:Nat->Hd}(h:HAt W b f)(e:W'.heap[b]?=W.heap[b]?):HAt W' b f:=λj v hj=>by
 rw[<-h j v hj];simp only[World.cell?,e]
end
section
open Go.ChangeShapes Go.WideShapes Go.ChangeAt Go.RowKit
end
section
set_option maxRecDepth 100000
set_option maxHeartbeats 1000000
open Go.RowKit
section
variable {B:Nat}{P:List Nat}{N:Nat}{q:WP}{W:World}{x:Nat}{u:WM}
theorem yp(h:WIn B P N q W x u):Calls Tryz.prog 39 #[↑(x,0)] W λe w'=>e=.returned ↑(N:Nat)/\w'=W:=by
 have x0:=h.blk.cell 0 (x:=.slice (some (q.nb,0)) N q.cap) rfl
 go_enter Tryz.func39,Tryz.ntmps39
 go_wp2;go_ret;exact⟨rfl,rfl⟩
theorem mG(h:WIn B P N q W x u)(i:Nat)(hi:i<N):Calls Tryz.prog 29 #[↑(x,0),↑(i:Nat)] W λe w'=>e=.returned ↑(q.gp i,0)/\w'=W:=by
 have x0:=h.blk.cell 0 (x:=.slice (some (q.nb,0)) N q.cap) rfl;have p0:=h.ptr i hi;have hn:=af (yp h);have q1:decide (((i:Nat):Int)<0)=false:=aj (by omega);have q2:decide (((N:Nat):Int)<=((i:Nat):Int))=false:=aj (by omega);clear h
 go_enter Tryz.func29,Tryz.ntmps29
 go_wp2_with fail;refine hn.o.mono ?_;rintro _ _ ⟨rfl,rfl⟩;go_wp2;go_ret;exact⟨rfl,rfl⟩
theorem Rz(h:WIn B P N q W x u)(i:Int)(hi:i<0\/(N:Nat)<=i):Calls Tryz.prog 29 #[↑(x,0),↑i] W λe w'=>e=.returned (.pointer none)/\w'=W:=by
 have hn:=af (yp h);clear h;by_cases h0:i<0
 ·have q1:decide (i<0)=true:=av h0
  go_enter Tryz.func29,Tryz.ntmps29
  go_wp2;go_ret;exact⟨rfl,rfl⟩
 ·have q1:decide (i<0)=false:=aj h0
  have q2:decide (((N:Nat):Int)<=i)=true:=av (by omega)
  go_enter Tryz.func29,Tryz.ntmps29
  go_wp2_with fail;refine hn.o.mono ?_;rintro _ _ ⟨rfl,rfl⟩;go_wp2;go_ret;exact⟨rfl,rfl⟩
theorem RB(h:WIn B P N q W x u)(i:Nat)(hi:i<N):Calls Tryz.prog 41 #[↑(x,0),↑(i:Nat)] W λe w'=>e=.returned ↑((u.ms i).st:Nat)/\Below W W w':=by
 have hn:=af (mG h i hi);have hs:=af (oP.state (h.nd i hi));clear h
 go_enter Tryz.func41,Tryz.ntmps41
 go_wp2_with fail;refine hn.o.mono ?_;rintro _ _ ⟨rfl,rfl⟩;go_wp2_with fail;refine hs.o.mono ?_;rintro _ w1 ⟨rfl,hb⟩;go_wp2_with fail;go_ret;exact⟨rfl,hb⟩
theorem RE(p np:Option Addr)(i a b c:Int)(W:World)(hn:∀z,Calls Tryz.prog 29 #[.pointer p,↑i] (W.alloc z) λe w'=>e=.returned (.pointer np)/\w'=W.alloc z)(hs:∀z,Calls Tryz.prog 79 #[.pointer np] (W.alloc z) λe w'=>e=.returned (.agg #[↑a,↑b,↑c])/\Below (W.alloc z).heap.size (W.alloc z) w'):
  Calls Tryz.prog 42 #[.pointer p,↑i] W λe w'=>e=.returned (.agg #[↑a,↑b,↑c])/\Below W W w':=by
 have hX:=aJ W W rfl #[↑(0:Int),↑(0:Int),↑(0:Int)] 96;have hb0:=(ah W W).alloc lr (.cells #[↑(0:Int),↑(0:Int),↑(0:Int)] 96);have hn:=af (hn (.cells #[↑(0:Int),↑(0:Int),↑(0:Int)] 96));have hs:=af (hs (.cells #[↑(0:Int),↑(0:Int),↑(0:Int)] 96))
 go_enter Tryz.func42,Tryz.ntmps42
 go_wp2_with fail;refine hn.o.mono ?_;rintro _ _ ⟨rfl,rfl⟩;go_wp2_with fail;refine hs.o.mono ?_;rintro _ w3 ⟨rfl,hb⟩;have hX:=hX.below hb (by simp);have x0:=hX.cell 0 (x:=↑(0:Int)) rfl;have x1:=hX.cell 1 (x:=↑(0:Int)) rfl;have x2:=hX.cell 2 (x:=↑(0:Int)) rfl;have f0:=hX.frozen 0;have f1:=hX.frozen 1;have f2:=hX.frozen 2;have HB:=af ((((hb0.trans (hb.mono (by simp))).setCell (p:=(W.heap.size,0)) (by simp) ↑a).setCell (p:=(W.heap.size,1)) (by simp) ↑b).setCell (p:=(W.heap.size,2)) (by simp) ↑c);clear hX hb hb0 hn hs;go_wp2;refine aK (v:=.agg #[↑a,↑b,↑c]) ?_ rfl ?_
 ·rw[j4 rfl]
  go_simp
 ·exact⟨rfl,HB.o⟩
theorem RF(h:WIn B P N q W x u)(i:Nat)(hi:i<N):Calls Tryz.prog 42 #[↑(x,0),↑(i:Nat)] W λe w'=>e=.returned (csV (u.ms i).rd (u.ms i).sl (u.ms i).ty.m)/\Below W W w':=
 RE _ _ _ _ _ _ W (λz=>mG (h.below ((ah _ _).alloc lr z)) i hi) (λz=>oP.view ((h.below ((ah _ _).alloc lr z)).nd i hi))
theorem RH(h:WIn B P N q W x u)(i:Nat)(hi:i<N):Calls Tryz.prog 44 #[↑(x,0),↑(i:Nat)] W λe w'=>e=.returned ↑(u.ms i).tm/\Below W W w':=by
 have hn:=af (mG h i hi);have hs:=af (oP.clock (h.nd i hi));clear h
 go_enter Tryz.func44,Tryz.ntmps44
 go_wp2_with fail;refine hn.o.mono ?_;rintro _ _ ⟨rfl,rfl⟩;go_wp2_with fail;refine hs.o.mono ?_;rintro _ w1 ⟨rfl,hb⟩;go_wp2_with fail;go_ret;exact⟨rfl,hb⟩
end
end
section
open Go.RowKit
open Fr (St F)
structure Bd(m:NM)(k:Nat):Prop where
 a:m.ty.a<=k
 f:m.ty.f<=k
 t:-(2147483648*((k:Int)+1))<=m.tm/\m.tm<=2147483648*((k:Int)+1)
theorem TS.Di(s:TS)(n:Int):(s.right n).a<=s.a+1/\(s.right n).f=s.f:=by
 unfold TS.right
 split<;>simp
theorem TS.Mz(s:TS)(n:Int):(s.miss n).a=s.a/\(s.miss n).f=s.f:=by
 unfold TS.miss
 split<;>simp
theorem TS.MA(s:TS)(n:Int):(s.wrong n).a=s.a/\(s.wrong n).f<=s.f+1:=by
 unfold TS.wrong
 split<;>simp
theorem TS.MB(s:TS)(n:Int):(s.join n).a=s.a/\(s.join n).f=s.f:=by
 unfold TS.join
 split<;>simp
theorem Dh{m:NM}(h:NJ m):m.goOn.ty=m.ty/\m.tm-2000<=m.goOn.tm/\m.goOn.tm<=m.tm+2000:=by
 rw[NM.qQ];have hlm:=h.may.lm;have hd:=h.dr;have ht:=qR m.t.lm m.ck (by omega)
 split
 ·exact⟨rfl,by show m.tm-2000<=m.tm;omega,by show m.tm<=m.tm+2000;omega⟩
 ·unfold NM.kr
  split
  ·refine⟨rfl,?_,?_⟩
   ·show m.tm-2000<=m.tm+jb m.t.lm m.ck+m.dr;omega
   ·show m.tm+jb m.t.lm m.ck+m.dr<=m.tm+2000;omega
  ·exact⟨rfl,by show m.tm-2000<=m.tm;omega,by show m.tm<=m.tm+2000;omega⟩
theorem MC(m:NM):m.enter.ty.a<=m.ty.a/\m.enter.ty.f<=m.ty.f/\m.enter.tm=m.tm:=by
 unfold NM.enter
 repeat' split
 all_goals exact⟨by first|exact aR _|exact bH _,by first|exact aR _|exact bH _,rfl⟩
theorem oA(m:NM):m.iL.ty.a<=m.ty.a/\m.iL.ty.f<=m.ty.f/\m.iL.tm=m.tm:=by
 have he:=MC m;unfold NM.iL
 split
 ·split
  ·exact⟨aR _,aR _,rfl⟩
  ·have:=TS.MB ⟨0,0,0⟩ (m.i:Nat)
   exact⟨by show((⟨0,0,0⟩:TS).join (m.i:Nat)).a<=_;rw[this.1];exact bH _,by show((⟨0,0,0⟩:TS).join (m.i:Nat)).f<=_;rw[this.2];exact bH _,rfl⟩
 ·split
  ·exact⟨aR _,aR _,rfl⟩
  ·split
   ·exact he
   ·exact⟨bH _,bH _,he.2.2⟩
theorem BH{m:NM}(h:Hn)(hj:NJ m)(ho:-1073741824<=h.o/\h.o<=1073741824)(hjk:∀l,m.st=1->m.kY h=some l->NJ (m.knows (Fr.res l NM.z3) h.o)):
  (m.take h).ty.a<=m.ty.a+1/\(m.take h).ty.f<=m.ty.f+1/\m.tm-1073743824<=(m.take h).tm/\(m.take h).tm<=m.tm+1073743824:=by
 have same:∀m2:NM,NJ m2->m2.ty.a<=m.ty.a+1->m2.ty.f<=m.ty.f+1->m.tm-1073741824<=m2.tm->m2.tm<=m.tm+1073741824->m2.goOn.ty.a<=m.ty.a+1/\m2.goOn.ty.f<=m.ty.f+1/\m.tm-1073743824<=m2.goOn.tm/\m2.goOn.tm<=m.tm+1073743824:=λm2 j2 a1 a2 t1 t2=>by
  obtain⟨e,g1,g2⟩:=Dh j2;rw[e];exact⟨a1,a2,by omega,by omega⟩
 unfold NM.take;by_cases hoff:m.st=0\/m.st=5
 ·rw[au hoff];exact⟨by omega,by omega,by omega,by omega⟩
 rw[ai hoff];by_cases h1:m.st=1
 ·rw[au h1]
  rcases hl:m.kY h with _|l
  ·simp only
   split
   ·exact⟨by show m.ty.a<=_;omega,by show m.ty.f<=_;omega,by show _<=m.tm;omega,by show m.tm<=_;omega⟩
   ·exact⟨by omega,by omega,by omega,by omega⟩
  ·simp only
   have r:=TS.Di ⟨((Fr.res l NM.z3).st.m%256).toNat,0,0⟩ (Fr.res l NM.z3).st.s;have r1:(m.knows (Fr.res l NM.z3) h.o).ty.a<=0+1:=r.1;have r2:(m.knows (Fr.res l NM.z3) h.o).ty.f=0:=r.2;have r3:(m.knows (Fr.res l NM.z3) h.o).tm=m.tm+h.o:=rfl;exact same _ (hjk l h1 hl) (by omega) (by omega) (by rw[r3];omega) (by rw[r3];omega)
 rw[ai h1];by_cases hs:m.sl=m.i
 ·rw[au hs]
  refine same _ (hj.ck_ _ ?_) (by show m.ty.a<=_;omega) (by show m.ty.f<=_;omega) (by show _<=m.tm;omega) (by show m.tm<=_;omega)
  split
  ·unfold NM.meas
   split
   ·exact hj.ck.mW (by omega)
   ·exact hj.ck
  ·exact hj.ck
 rw[ai hs];rcases hl:m.lg h with _|l
 ·simp only
  split
  ·have r:=TS.Mz m.ty (m.sl:Nat)
   exact same _ (hj.took _ _ _ hj.ck) (by show(m.ty.miss _).a<=_;omega) (by show(m.ty.miss _).f<=_;omega) (by show _<=m.tm;omega) (by show m.tm<=_;omega)
  ·have r:=TS.MA m.ty (m.sl:Nat)
   exact same _ (hj.took _ _ _ hj.ck) (by show(m.ty.wrong _).a<=_;omega) (by show(m.ty.wrong _).f<=_;omega) (by show _<=m.tm;omega) (by show m.tm<=_;omega)
 ·simp only
  have r:=TS.Di m.ty (m.sl:Nat);refine same _ (hj.took _ _ _ ?_) (by show(m.ty.right _).a<=_;omega) (by show(m.ty.right _).f<=_;omega) (by show _<=m.tm;omega) (by show m.tm<=_;omega);unfold NM.meas
  split
  ·exact hj.ck.mW (by omega)
  ·exact hj.ck
theorem sZ{m:NM}{h:Hn}{l:List Int}(hj:NJ m)(hl:m.kY h=some l):NJ (m.knows (Fr.res l NM.z3) h.o):=by
 have htl:m.tells l:=by
  have:=List.find?_some hl;exact dh this
 obtain⟨he,hk1,hs1,hs2⟩:=htl;have hrm:=(St.mM _).1 (wO he);exact hj.knows (Fr.res l NM.z3) h.o hrm.1 ⟨hrm.2.1.1,hs1⟩
theorem Bd.iL{m:NM}{k:Nat}(h:Bd m k):Bd m.iL k:=by
 obtain⟨h1,h2,h3⟩:=oA m;exact⟨aW h1 h.a,aW h2 h.f,by rw[h3];exact h.t⟩
theorem Bd.take{m:NM}{k:Nat}(h:Bd m k)(hd:Hn)(hj:NJ m)(ho:-1073741824<=hd.o/\hd.o<=1073741824):Bd (m.take hd) (k+1):=by
 obtain⟨h1,h2,h3,h4⟩:=BH hd hj ho (λl _ hl=>sZ hj hl);have:=h.a;have:=h.f;have:=h.t;exact⟨by omega,by omega,by constructor<;>omega⟩
theorem Bd.more{m m':NM}{k:Nat}(h:Bd m k)(e1:m'.ty=m.ty)(e2:m'.tm=m.tm):Bd m' (k+1):=by
 have:=h.a;have:=h.f;have:=h.t;exact⟨by rw[e1];omega,by rw[e1];omega,by rw[e2];constructor<;>omega⟩
end
section
open Go.RowKit
open Fr (St F)
section
variable {m:NM}
theorem NJ.st_(h:NJ m)(k:Nat)(hk:k<=5):NJ {m with st:=k}:=⟨h.is,h.i,hk,h.rd,h.sl,h.da,h.wt,h.ck,h.dr⟩
theorem NJ.ty_(h:NJ m)(ty:TS):NJ {m with ty:=ty}:=⟨h.is,h.i,h.st,h.rd,h.sl,h.da,h.wt,h.ck,h.dr⟩
theorem NJ.se_(h:NJ m)(b:Bool):NJ {m with se:=b}:=⟨h.is,h.i,h.st,h.rd,h.sl,h.da,h.wt,h.ck,h.dr⟩
theorem NJ.wt_(h:NJ m)(w:Nat)(hw:(w:Int)<m.me.li):NJ {m with wt:=w}:=⟨h.is,h.i,h.st,h.rd,h.sl,h.da,hw,h.ck,h.dr⟩
theorem NJ.tm_(h:NJ m)(a:Int):NJ {m with tm:=a}:=⟨h.is,h.i,h.st,h.rd,h.sl,h.da,h.wt,h.ck,h.dr⟩
theorem NJ.ar_(h:NJ m)(a:Nat->Nat):NJ {m with ar:=a}:=⟨h.is,h.i,h.st,h.rd,h.sl,h.da,h.wt,h.ck,h.dr⟩
theorem NJ.Dg(h:NJ m):NJ m.enter:=by
 unfold NM.enter
 repeat' split
 ·exact h.anew 1 (by omega)
 ·exact h.st_ 4 (by omega)
 ·exact h.st_ 4 (by omega)
 ·exact h.ty_ _
 ·exact h.st_ 5 (by omega)
 ·exact h.anew 1 (by omega)
 ·exact h
theorem NJ.Mv(h:NJ m):NJ m.begun:=by
 have a:=h.anew 2 (by omega);exact⟨h.is,h.i,a.st,a.rd,h.i,h.da,a.wt,a.ck,h.dr⟩
theorem NJ.vm(h:NJ m):NJ m.iL:=by
 unfold NM.iL
 split
 ·split
  ·rename_i hw
   exact(h.wt_ (m.wt+1) (by omega)).se_ false
  ·exact h.Mv.se_ true
 ·split
  ·exact h.se_ false
  ·split
   ·exact h.Dg.se_ false
   ·exact(h.Dg.ty_ _).se_ true
theorem NJ.zV(h:NJ m)(x:Hn)(ho:-1099511627776<=x.o/\x.o<=1099511627776):NJ (m.take x):=by
 have Mw:∀k,small (m.meas k x.o):=λk=>by
  unfold NM.meas
  split
  ·exact h.ck.mW ho
  ·exact h.ck
 have Mx:small (m.meas m.i 0):=by
  unfold NM.meas
  split
  ·exact h.ck.mW (by omega)
  ·exact h.ck
 unfold NM.take
 split
 ·exact h
 split
 ·rcases hl:m.kY x with _|l
  ·simp only
   split
   ·exact h.wt_ 0 (by have:=h.wt;omega)
   ·exact h
  ·exact(NI.goOn (sZ h hl)).j
 split
 ·refine(NI.goOn (h.ck_ _ ?_)).j
  split
  ·exact Mx
  ·exact h.ck
 rcases m.lg x with _|l
 ·simp only
  split
  ·exact(NI.goOn (h.took _ _ _ h.ck)).j
  ·exact(NI.goOn (h.took _ _ _ h.ck)).j
 ·exact(NI.goOn (h.took _ _ _ (Mw _))).j
theorem NJ.on_(h:NJ m)(a:Int):NJ (m.on a):=by
 unfold NM.on
 split
 ·exact(h.anew 1 (by omega)).tm_ a
 ·exact h
theorem NJ.Ai(h:NJ m):NJ m.off:=h.anew 0 (by omega)
theorem NJ.Al(h:NJ m)(l:List Int)(hl:iK l):NJ (m.write l):=by
 have hb:=h.meB;unfold NM.write
 split
 ·exact h
 ·exact⟨h.is,h.i,h.st,h.rd,h.sl,⟨by show l.length<=8;omega,hl⟩,h.wt,h.ck,h.dr⟩
theorem NJ.J3(h:NJ m)(x:Hn)(C:Int)(h1:-C<=m.tm/\m.tm<=C)(h2:-C<=m.tm+x.o/\m.tm+x.o<=C):-(C+2000)<=(m.take x).tm/\(m.take x).tm<=C+2000:=by
 have same:∀m2:NM,NJ m2->-C<=m2.tm->m2.tm<=C->-(C+2000)<=m2.goOn.tm/\m2.goOn.tm<=C+2000:=λm2 j a b=>by
  obtain⟨-,g1,g2⟩:=Dh j;omega
 unfold NM.take
 split
 ·omega
 split
 ·rcases hl:m.kY x with _|l
  ·simp only
   split
   ·show -(C+2000)<=m.tm/\m.tm<=C+2000;omega
   ·omega
  ·exact same _ (sZ h hl) h2.1 h2.2
 have key:∀m2:NM,m2.tm=m.tm->m2.t=m.t->m2.dr=m.dr->-(C+2000)<=m2.goOn.tm/\m2.goOn.tm<=C+2000:=λm2 e1 e2 e3=>by
  rw[NM.qQ];have hlm:=h.may.lm;have hd:=h.dr;have ht:=qR m.t.lm m2.ck (by omega)
  split
  ·show -(C+2000)<=m2.tm/\m2.tm<=C+2000;omega
  ·unfold NM.kr
   split
   ·show -(C+2000)<=m2.tm+jb m2.t.lm m2.ck+m2.dr/\m2.tm+jb m2.t.lm m2.ck+m2.dr<=C+2000
    rw[e2];omega
   ·show -(C+2000)<=m2.tm/\m2.tm<=C+2000;omega
 split
 ·exact key _ rfl rfl rfl
 rcases m.lg x with _|l
 ·simp only
  split
  ·exact key _ rfl rfl rfl
  ·exact key _ rfl rfl rfl
 ·exact key _ rfl rfl rfl
theorem NJ.Iy(h:NJ m)(hm:m.iL.ty.m<256):iK m.sent/\m.sent.length<=16:=by
 have hj:=h.vm;unfold NM.sent;by_cases e:m.jB=0
 ·rw[au e];exact⟨λx hx=>(by cases hx),by simp⟩
 ·rw[ai e]
  have hk:1<=m.jB/\m.jB<=3:=by
   unfold NM.jB at e ⊢
   repeat' split
   all_goals simp_all
  have hn8:=hj.may.n8;have his:(m.iL.frm m.jB).is=true:=by
   rw[F.l9];exact⟨hk,qW hj.rd (by have:=hj.sl;omega) hm,hj.da.1⟩
  refine⟨F.pK his hj.da.2,?_⟩;rw[F.qJ];have h1:(m.iL.frm m.jB).hl<=6:=by unfold F.hl;split<;>omega
  have h2:(m.iL.frm m.jB).d.length<=8:=hj.da.1;omega
end
end
end Go.Proofs.YteadkhigkmijiaaGreat
