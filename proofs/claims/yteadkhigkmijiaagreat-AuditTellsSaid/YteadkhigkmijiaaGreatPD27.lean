/- Texts SrE, SrF in one. -/
import Derived.Test.YteadkhigkmijiaaGreatPD1
import Derived.Test.YteadkhigkmijiaaGreatPD8
import Derived.Test.YteadkhigkmijiaaGreatPD17
import Derived.Test.YteadkhigkmijiaaGreatPD20
set_option linter.all false
namespace Go.Proofs.YteadkhigkmijiaaGreat
section
set_option maxRecDepth 100000
set_option maxHeartbeats 4000000
open Go.RowKit
theorem jd.sub{W:World}{P P':List Nat}{b:Nat}{l:List (Value×Sd)}(h:jd W P b l)(hP:∀i∈P',i∈P\/W.heap.size<=i)(hb:b∈P'):jd W P' b l:=⟨h.blk,λx hx=>(h.row x hx).sub hP,hb⟩
theorem jd.other{W:World}{P:List Nat}{b:Nat}{l:List (Value×Sd)}(h:jd W P b l)(p:Addr)(hp:p.block∈P)(hne:b≠p.block)(u:Value):jd (W.setCell p u) P b l:=h.kp ((fU P W).set p hp u) (dR W p u b hne)
def s8(f:Nat->Value):Value:=.agg #[f 0,f 1,f 2,f 3,f 4,f 5,f 6,f 7]
theorem QA(f:Nat->Value)(k:Nat)(hk:k<8):(#[f 0,f 1,f 2,f 3,f 4,f 5,f 6,f 7]:Array Value)[k]?=some (f k):=by
 rcases(by omega:k=0\/k=1\/k=2\/k=3\/k=4\/k=5\/k=6\/k=7)with rfl|rfl|rfl|rfl|rfl|rfl|rfl|rfl<;>rfl
def sd0(bs:Nat->List Int)(a:Nat->Int)(i:Nat):Sd:=⟨rn (bs i),rq (bs i),a i,false⟩
def sdz:Sd:=⟨0,λ_=>0,0,false⟩
theorem QB:(Tryz.prog.info? 224).map (λi=>(i.zero,i.size))=some (some (.agg #[.slice none 0 0,↑(0:Int),↑false]),3):=by kernel_rfl
theorem QD:(Tryz.prog.info? 224).map (λi=>decide (i.bytes<=100))=some true:=by kernel_rfl
theorem QE(n:Nat)(hn:n<=8):madeCells (Value.agg #[.slice none 0 0,↑(0:Int),↑false]).cells (n*3)=(c3 (List.replicate n (.slice none 0 0,sdz))).toArray:=by
 rcases(by omega:n=0\/n=1\/n=2\/n=3\/n=4\/n=5\/n=6\/n=7\/n=8)with rfl|rfl|rfl|rfl|rfl|rfl|rfl|rfl|rfl<;>kernel_rfl
theorem QF(n:Nat)(hn:n<=8)(w:World):(Instr.makeSlice 183 ↑(n:Int) ↑(n:Int)).run Tryz.prog w=.ok (.slice (some (w,0)) n n) (w.alloc (.cells (c3 (List.replicate n (.slice none 0 0,sdz))).toArray 224)):=by
 have h1:=QB;have h2:=QD
 cases hi:Tryz.prog.info? 224 with
 |none=>rw[hi]at h1;simp at h1
 |some i=>
  rw[hi]at h1 h2;simp only[fK,bB,Prod.mk.injEq,bC]at h1 h2;have hb:(i.bytes:Int)*(n:Int)<=281474976710656:=by
   have:i.bytes*n<=100*8:=Nat.mul_le_mul h2 hn;have h:((i.bytes*n:Nat):Int)<=281474976710656:=by omega
   rwa[ic]at h
  have hr:=run_make (P:=Tryz.prog) w 183 224 i _ Tryz.underlying183 hi h1.1 .i64 .i64 n n (by omega) (by omega) hb (by omega);simp only[aQ]at hr;rw[hr,h1.2,QE n hn]
theorem QG(N k:Nat)(u:Value)(f:Nat->Sd)(z:Sd)(l:List (Value×Sd))(hk:k<N)(h:l.map Prod.snd=(List.range N).map λi=>if i<k then f i else z):(l.set k (u,f k)).map Prod.snd=(List.range N).map λi=>if i<k+1 then f i else z:=by
 rw[List.map_set,h]
 apply fo
 intro i;rw[List.getElem?_set];simp only[dQ,dW,dF];by_cases e:k=i
 ·subst e;simp[hk]
 ·rw[ai e]
  by_cases hi:i<N
  ·simp only[bW hi,fK]
   by_cases h1:i<k
   ·rw[au h1,au (by omega)]
   ·rw[ai h1,ai (by omega)]
  ·rw[aY (by simp;omega)];rfl
theorem Qh(g N:Nat)(A:Nat->Option Addr)(c:Nat->Nat)(bs:Nat->List Int)(a:Nat->Int)(w:World)(hg:w.cell? (g,0)=some ↑(N:Nat))(hN:N<=8)
  (hv:∀i,i<8->iI w w (.slice (A i) (bs i).length (c i)) (bs i)/\iK (bs i)):
  Calls Tryz.prog 101 #[↑(g,0),s8 λi=>.slice (A i) (bs i).length (c i),jK a] w λe w'=>∃b l,e=.returned (.agg #[.slice (some ⟨b,0,none⟩) N N,↑false,↑false,.slice none 0 0,↑(0:Int),↑false,↑false,.slice none 0 0,↑(0:Int)])/\
   l.map Prod.snd=(List.range N).map (sd0 bs a)/\jd w' [b,g] b l/\w.heap.size<=b/\Below w w w':=by
 have hmk:=QF N hN;have hgl:=gh w _ hg;have hb3:=(((ah w w).alloc lr (.cells (aS A bs c) 150)).alloc (by simp) (.cells (aI a) 22)).alloc (by simp;omega) (.cells #[.slice none 0 0,↑false,↑false,.slice none 0 0,↑(0:Int),↑false,↑false,.slice none 0 0,↑(0:Int)] 189);have g3:=(hb3.cell (p:=(g,0)) hgl).trans hg;have X0:=((((aJ w w rfl (aS A bs c) 150).alloc (.cells (aI a) 22)).alloc (.cells #[.slice none 0 0,↑false,↑false,.slice none 0 0,↑(0:Int),↑false,↑false,.slice none 0 0,↑(0:Int)] 189)).alloc (.cells (c3 (List.replicate N (.slice none 0 0,sdz))).toArray 224)).alloc (.cells #[.slice (some (w.heap.size+1+1+1,0)) N N,↑false,↑false,.slice none 0 0,↑(0:Int),↑false,↑false,.slice none 0 0,↑(0:Int)] 189);have X1:=(((aJ (w.alloc (.cells (aS A bs c) 150)) (w.heap.size+1) (by simp) (aI a) 22).alloc (.cells #[.slice none 0 0,↑false,↑false,.slice none 0 0,↑(0:Int),↑false,↑false,.slice none 0 0,↑(0:Int)] 189)).alloc (.cells (c3 (List.replicate N (.slice none 0 0,sdz))).toArray 224)).alloc (.cells #[.slice (some (w.heap.size+1+1+1,0)) N N,↑false,↑false,.slice none 0 0,↑(0:Int),↑false,↑false,.slice none 0 0,↑(0:Int)] 189);have X2:=((aJ ((w.alloc (.cells (aS A bs c) 150)).alloc (.cells (aI a) 22)) (w.heap.size+1+1) (by simp) (#[.slice none 0 0,↑false,↑false,.slice none 0 0,↑(0:Int),↑false,↑false,.slice none 0 0,↑(0:Int)]) 189).alloc (.cells (c3 (List.replicate N (.slice none 0 0,sdz))).toArray 224)).alloc (.cells #[.slice (some (w.heap.size+1+1+1,0)) N N,↑false,↑false,.slice none 0 0,↑(0:Int),↑false,↑false,.slice none 0 0,↑(0:Int)] 189);have X3:=(aJ (((w.alloc (.cells (aS A bs c) 150)).alloc (.cells (aI a) 22)).alloc (.cells #[.slice none 0 0,↑false,↑false,.slice none 0 0,↑(0:Int),↑false,↑false,.slice none 0 0,↑(0:Int)] 189)) (w.heap.size+1+1+1) (by simp) ((c3 (List.replicate N (.slice none 0 0,sdz))).toArray) 224).alloc (.cells #[.slice (some (w.heap.size+1+1+1,0)) N N,↑false,↑false,.slice none 0 0,↑(0:Int),↑false,↑false,.slice none 0 0,↑(0:Int)] 189);have X4:=aJ ((((w.alloc (.cells (aS A bs c) 150)).alloc (.cells (aI a) 22)).alloc (.cells #[.slice none 0 0,↑false,↑false,.slice none 0 0,↑(0:Int),↑false,↑false,.slice none 0 0,↑(0:Int)] 189)).alloc (.cells (c3 (List.replicate N (.slice none 0 0,sdz))).toArray 224)) (w.heap.size+1+1+1+1) (by simp) (#[.slice (some (w.heap.size+1+1+1,0)) N N,↑false,↑false,.slice none 0 0,↑(0:Int),↑false,↑false,.slice none 0 0,↑(0:Int)]) 189;have hb5:=(hb3.alloc (by simp;omega) (.cells (c3 (List.replicate N (.slice none 0 0,sdz))).toArray 224)).alloc (by simp;omega) (.cells #[.slice (some (w.heap.size+1+1+1,0)) N N,↑false,↑false,.slice none 0 0,↑(0:Int),↑false,↑false,.slice none 0 0,↑(0:Int)] 189);have hz5:(((((w.alloc (.cells (aS A bs c) 150)).alloc (.cells (aI a) 22)).alloc (.cells #[.slice none 0 0,↑false,↑false,.slice none 0 0,↑(0:Int),↑false,↑false,.slice none 0 0,↑(0:Int)] 189)).alloc (.cells (c3 (List.replicate N (.slice none 0 0,sdz))).toArray 224)).alloc (.cells #[.slice (some (w.heap.size+1+1+1,0)) N N,↑false,↑false,.slice none 0 0,↑(0:Int),↑false,↑false,.slice none 0 0,↑(0:Int)] 189)).heap.size=w.heap.size+1+1+1+1+1:=by simp
 unfold s8 jK
 go_enter Tryz.func101,Tryz.ntmps101
 go_wp2_with fail;generalize(((((w.alloc (.cells (aS A bs c) 150)).alloc (.cells (aI a) 22)).alloc (.cells #[.slice none 0 0,↑false,↑false,.slice none 0 0,↑(0:Int),↑false,↑false,.slice none 0 0,↑(0:Int)] 189)).alloc (.cells (c3 (List.replicate N (.slice none 0 0,sdz))).toArray 224)).alloc (.cells #[.slice (some (w.heap.size+1+1+1,0)) N N,↑false,↑false,.slice none 0 0,↑(0:Int),↑false,↑false,.slice none 0 0,↑(0:Int)] 189))=w5 at *;have hS0:jd w5 [w.heap.size+1+1+1,w.heap.size+1+1,g] (w.heap.size+1+1+1) (List.replicate N (.slice none 0 0,sdz)):=⟨X3,λy hy=>by rw[List.eq_of_mem_replicate hy];exact Row.nil _ _ _ _ (λk=>by simp[sdz]),by simp⟩;have HV:Hid (∀W k,Kw [w.heap.size+1+1+1,w.heap.size+1+1] w5 W->k<8->iI W W (.slice (A k) (bs k).length (c k)) (bs k)/\iK (bs k)):=af λW k hW hk=>⟨((hv k hk).1.below (hb5.trans (hW.toBelow (by omega) (λi hi=>by simp at hi;omega)))).more (by have:=hW.size;omega),(hv k hk).2⟩;have HX:Hid (∀W k,Kw [w.heap.size+1+1+1,w.heap.size+1+1] w5 W->k<8->W.cell? ⟨w.heap.size,k,none⟩=some (.slice (A k) (bs k).length (c k))/\W.cell? ⟨w.heap.size+1,k,none⟩=some ↑(a k)/\W.cell? (w.heap.size+1+1+1+1,0)=some (.slice (some (w.heap.size+1+1+1,0)) N N)):=af λW k hW hk=>
  ⟨(X0.kp hW (by simp<;>omega)).cell k (QA (λi=>.slice (A i) (bs i).length (c i)) k hk),(X1.kp hW (by simp<;>omega)).cell k (l7 a k hk),(X4.kp hW (by simp<;>omega)).cell 0 rfl⟩
 have HY:Hid (∀W,Kw [w.heap.size+1+1+1,w.heap.size+1+1] w5 W->Blk W (w.heap.size+1+1+1+1) #[.slice (some (w.heap.size+1+1+1,0)) N N,↑false,↑false,.slice none 0 0,↑(0:Int),↑false,↑false,.slice none 0 0,↑(0:Int)] 189):=af λW hW=>X4.kp hW (by simp<;>omega);clear X0 X1 X3 X4 hv hmk g3 hb3
 go_loopw [18] (λi wr=>∃k:Nat,∃l:List (Value×Sd),k<=N/\i=↑k/\l.map Prod.snd=((List.range N).map λi=>if i<k then sd0 bs a i else sdz)/\jd wr [w.heap.size+1+1+1,w.heap.size+1+1,g] (w.heap.size+1+1+1) l/\Kw [w.heap.size+1+1+1,w.heap.size+1+1] w5 wr/\Blk wr (w.heap.size+1+1) #[.slice none 0 0,↑false,↑false,.slice none 0 0,↑(0:Int),↑false,↑false,.slice none 0 0,↑(0:Int)] 189) (λi _=>N-(intOf i).toNat)
 case atStart=>exact⟨0,_,by omega,rfl,by simp[List.map_replicate,List.map_const'],hS0,fU _ _,X2⟩
 case round=>
  obtain⟨k,l,hk,rfl,hm,hS,hK,hR⟩:=hrel;have hlen:l.length=N:=by have:=dn List.length hm;simpa using this
  clear hS0 X2;by_cases hlt:k<N
  ·have q1:decide ((k:Int)<(N:Nat))=true:=by simp;omega
   obtain⟨x0,x1,x2⟩:=HX.o wr k hK (by omega);obtain⟨⟨v0,s0⟩,hk0⟩:∃y,l[k]?=some y:=⟨_,aP (by omega)⟩;have hD:=λW hW=>af (Fp _ (bs k) W (HV.o W k hW (by omega)).1 (HV.o W k hW (by omega)).2);have i1:(k:Int)<8:=by omega
   go_wp2_with fail
   go_region_held3 (λW=>W.cell? (w,k)=some (.slice (A k) (bs k).length (c k))/\W.cell? (w.heap.size+1,k)=some ↑(a k)/\W.cell? (w.heap.size+1+1+1+1,0)=some (.slice (some (w.heap.size+1+1+1,0)) N N))
    ((refine HX.o _ k ?_ (by omega);(repeat' (first|exact hK|exact hK2|(with_reducible refine Kw.drew ?_)|(with_reducible refine Kw.set ?_ _ ?_ _)|simp))))
    (first
     |(go_at_call 148;refine(hD wr.drew hK.drew).o.mono ?_;rintro e w2 ⟨u,rfl,ho,hb2⟩;have hK2:=hK.drew.below hb2;have hS2:=hS.drew.below hb2;have hr2:=iC (P:=[w.heap.size+1+1+1,w.heap.size+1+1,g]) ho (λi hi=>by have:=hK.size;simp at hi ⊢;omega) (wX _) (λj=>⟨uK _ j,uK _ j⟩);have hR2:=hR.drew.below hb2 hR.lt;obtain⟨A2,d2,rfl,-,-,-⟩:=hr2.sees;obtain⟨y0,y1,y2⟩:=hS2.cells hk0;have f0:=hS2.blk.frozen (k*3);have f1:=hS2.blk.frozen (k*3+1);have f2:=hS2.blk.frozen (k*3+2))
     |fail)
   all_goals
    have HH:=af (hS2.all (t:=sd0 bs a k) hk0 hr2);have KK:=af (((hK2.set (w.heap.size+1+1+1,k*3) (by simp) (Value.slice A2 (rn (bs k)) d2)).set (w.heap.size+1+1+1,k*3+1) (by simp) ↑(a k)).set (w.heap.size+1+1+1,k*3+2) (by simp) ↑false);have RR:=af (((hR2.other (w.heap.size+1+1+1,k*3) (by simp) (Value.slice A2 (rn (bs k)) d2)).other (w.heap.size+1+1+1,k*3+1) (by simp) ↑(a k)).other (w.heap.size+1+1+1,k*3+2) (by simp) ↑false);have MM:=af (QG N k (Value.slice A2 (rn (bs k)) d2) (sd0 bs a) sdz l hlt hm);clear hS2 hr2 hK2 hR2 ho hb2 hS hK hR y0 y1 y2 f0 f1 f2 HX HV hD;go_wp2_with fail;go_roundw
    case rel=>exact⟨k+1,_,by omega,by go_num,MM.o,HH.o,KK.o,RR.o⟩
    case measure=>simp[intOf];omega
  ·obtain rfl:k=N:=by omega
   have q1:decide ((k:Int)<(k:Nat))=false:=by simp
   have hX:=HY.o wr hK;have x0:=hX.cell 0 rfl;have x1:=hX.cell 1 rfl;have x2:=hX.cell 2 rfl;have x3:=hX.cell 3 rfl;have x4:=hX.cell 4 rfl;have x5:=hX.cell 5 rfl;have x6:=hX.cell 6 rfl;have x7:=hX.cell 7 rfl;have x8:=hX.cell 8 rfl;have r0:=hR.cell 0 rfl;have r1:=hR.cell 1 rfl;have r2:=hR.cell 2 rfl;have r3:=hR.cell 3 rfl;have r4:=hR.cell 4 rfl;have r5:=hR.cell 5 rfl;have r6:=hR.cell 6 rfl;have r7:=hR.cell 7 rfl;have r8:=hR.cell 8 rfl;have f0:=hR.frozen 0;have f1:=hR.frozen 1;have f2:=hR.frozen 2;have f3:=hR.frozen 3;have f4:=hR.frozen 4;have f5:=hR.frozen 5;have f6:=hR.frozen 6;have f7:=hR.frozen 7;have f8:=hR.frozen 8;have HM:=af hm;have HB:=af hb5;have HS:=af hS;have HK:=af hK;clear HX HY HV hm hb5 hS hK hX hR;go_wp2_with fail;refine aK (v:=.agg #[.slice (some (w.heap.size+1+1+1,0)) k k,↑false,↑false,.slice none 0 0,↑(0:Int),↑false,↑false,.slice none 0 0,↑(0:Int)]) ?_ rfl ⟨_,l,rfl,?_,?_,?_,?_⟩
   ·rw[j4 rfl]
    go_simp
   ·rw[HM.o]
    exact dK λi hi=>by rw[au (cA.1 hi)]
   ·refine jd.sub (P:=[w.heap.size+1+1+1,w.heap.size+1+1,g]) ?_ (λi hi=>.inl (by simp at hi;rcases hi with rfl|rfl<;>simp)) (by simp)
    (repeat' (first|(with_reducible exact HS.o)|(with_reducible refine jd.other ?_ _ ?_ ?_ _)|(simp;done)))
   ·omega
   ·refine HB.o.trans (Kw.toBelow (P:=[w.heap.size+1+1+1,w.heap.size+1+1]) ?_ (by omega) (λi hi=>by simp at hi;omega))
    (repeat' (first|(with_reducible exact HK.o)|(with_reducible refine Kw.set ?_ _ ?_ _)|(simp;done)))
def sF(m:List Sd)(i:Nat):Bool:=match m[i]? with
 |some s=>decide (0<s.n)
 |none=>false
def sA(m:List Sd)(i:Nat):Int:=match m[i]? with
 |some s=>s.at_
 |none=>0
def b8(f:Nat->Bool):Array Value:=#[↑(f 0),↑(f 1),↑(f 2),↑(f 3),↑(f 4),↑(f 5),↑(f 6),↑(f 7)]
def i8(f:Nat->Int):Array Value:=#[↑(f 0),↑(f 1),↑(f 2),↑(f 3),↑(f 4),↑(f 5),↑(f 6),↑(f 7)]
theorem Du(f:Nat->Bool)(k:Nat)(hk:k<8):(b8 λi=>decide (i<k)&&f i).setIfInBounds k ↑(f k)=b8 λi=>decide (i<k+1)&&f i:=by
 rcases(by omega:k=0\/k=1\/k=2\/k=3\/k=4\/k=5\/k=6\/k=7)with rfl|rfl|rfl|rfl|rfl|rfl|rfl|rfl<;>simp[b8]
theorem QH(f:Nat->Int)(k:Nat)(hk:k<8):(i8 λi=>if i<k then f i else 0).setIfInBounds k ↑(f k)=i8 λi=>if i<k+1 then f i else 0:=by
 rcases(by omega:k=0\/k=1\/k=2\/k=3\/k=4\/k=5\/k=6\/k=7)with rfl|rfl|rfl|rfl|rfl|rfl|rfl|rfl<;>simp[i8]
theorem QI(m:List Sd):(λi=>decide (i<m.length)&&sF m i)=sF m:=by
 funext i
 by_cases h:i<m.length
 ·simp[h]
 ·unfold sF;rw[aY (by omega)];simp
theorem QJ(m:List Sd):(λi=>if i<m.length then sA m i else 0)=sA m:=by
 funext i
 by_cases h:i<m.length
 ·simp[h]
 ·unfold sA;rw[aY (by omega)];simp
theorem QL{fn:Func}{p q:Tmp}{ty uy:TypeId}(h:fn.results=#[.cell p ty,.cell q uy])(tmps:Array Value)(P:Program)(w:World):
  (results fn tmps).run P w=((asAddr (tmps.getD p undef)).run P w).andThen λa w₁=>((loadVar ty a).run P w₁).andThen λv w₂=>((asAddr (tmps.getD q undef)).run P w₂).andThen λb w₃=>((loadVar uy b).run P w₃).andThen λu w₄=>.ok (.tuple #[v,u]) w₄:=by
 simp only[results,h];simp[iG,Result.andThen]
theorem P9(x b:Nat)(l:List (Value×Sd))(c d:Ch)(P:List Nat)(w:World)(h:XAt w P x b l c d)(hl:l.length<=8):
  Calls Tryz.prog 150 #[↑(x,0)] w λe w'=>e=.returned (.tuple #[kZ (sF (l.map Prod.snd)),jK (sA (l.map Prod.snd))])/\Below w w w':=by
 have X0:=(aJ w w rfl (b8 λ_=>false) 110).alloc (.cells (i8 λ_=>0) 22);have X1:=aJ (w.alloc (.cells (b8 λ_=>false) 110)) (w.heap.size+1) (by simp) (i8 λ_=>0) 22;have hb:=((ah w w).alloc lr (.cells (b8 λ_=>false) 110)).alloc (by simp) (.cells (i8 λ_=>0) 22);have H:=h.below hb;have hz:((w.alloc (.cells (b8 λ_=>false) 110)).alloc (.cells (i8 λ_=>0) 22)).heap.size=w.heap.size+1+1:=by simp
 have y0:=H.blk.cell 0 (x:=.slice (some (b,0)) l.length l.length) rfl;unfold b8 i8 at *;unfold kZ jK
 go_enter Tryz.func150,Tryz.ntmps150
 go_wp2_with fail;generalize((w.alloc (.cells #[↑false,↑false,↑false,↑false,↑false,↑false,↑false,↑false] 110)).alloc (.cells #[↑(0:Int),↑(0:Int),↑(0:Int),↑(0:Int),↑(0:Int),↑(0:Int),↑(0:Int),↑(0:Int)] 22))=w2 at *;have HX:Hid (∀W k v s,Below w w W->l[k]?=some (v,s)->W.cell? (b,k*3)=some v/\W.cell? (b,k*3+1)=some ↑s.at_/\W.cell? (b,k*3+2)=some ↑s.df/\∃A c,v=.slice A s.n c):=af λW k v s hW hk=>by
  have h2:=(h.below hW).sd;obtain⟨A,c,e,-⟩:=(h2.row _ (bO hk)).sees;obtain⟨e0,e1,e2⟩:=h2.cells hk;exact⟨e0,e1,e2,A,c,e⟩
 clear H h
 go_loopw [11] (λi wr=>∃k:Nat,k<=l.length/\i=↑k/\Blk wr w (b8 λi=>decide (i<k)&&sF (l.map Prod.snd) i) 110/\Blk wr (w.heap.size+1) (i8 λi=>if i<k then sA (l.map Prod.snd) i else 0) 22/\Below w w wr/\w.heap.size+1+1<=wr.heap.size) (λi _=>l.length-(intOf i).toNat)
 case atStart=>exact⟨0,by omega,rfl,by simpa[b8]using X0,by simpa[i8]using X1,hb,by omega⟩
 case round=>
  obtain⟨k,hk,rfl,hR0,hR1,hbk,hzk⟩:=hrel;clear X0 X1;by_cases hlt:k<l.length
  ·have q1:decide ((k:Int)<(l.length:Nat))=true:=by simp;omega
   obtain⟨⟨v,s⟩,hk0⟩:∃y,l[k]?=some y:=⟨_,aP hlt⟩;obtain⟨e0,e1,e2,A,c',rfl⟩:=HX.o wr k v s hbk hk0;have eF:sF (l.map Prod.snd) k=decide (0<s.n):=by simp[sF,hk0]
   have eA:sA (l.map Prod.snd) k=s.at_:=by simp[sA,hk0]
   have N0:=af (Du (sF (l.map Prod.snd)) k (by omega));have N1:=af (QH (sA (l.map Prod.snd)) k (by omega));rw[eF]at N0;rw[eA]at N1;have O:=hR0.alloc (.cells #[.slice A s.n c',↑s.at_,↑s.df] 224);have O1:=hR1.alloc (.cells #[.slice A s.n c',↑s.at_,↑s.df] 224);have ON:=aJ wr wr rfl #[.slice A s.n c',↑s.at_,↑s.df] 224;have hbk2:=hbk.alloc hbk.size (.cells #[.slice A s.n c',↑s.at_,↑s.df] 224);have c0:=O.cell k (lZ (λi=>decide (i<k)&&sF (l.map Prod.snd) i) k (by omega));have c1:=O1.cell k (l7 (λi=>if i<k then sA (l.map Prod.snd) i else 0) k (by omega));have f0:=O.frozen k;have f1:=O1.frozen k;have n0:=ON.cell 0 (x:=.slice A s.n c') rfl;have n1:=ON.cell 1 (x:=↑s.at_) rfl;have i1:(k:Int)<8:=by omega
   have q2:decide ((s.n:Int)>0)=decide (0<s.n):=by rw[bY];simp
   have q3:decide ((0:Int)<(s.n:Int))=decide (0<s.n):=by rw[bY];simp
   go_wp2_with fail;generalize wr.alloc (.cells #[.slice A s.n c',↑s.at_,↑s.df] 224)=wx at *;have RR0:=af (((O.set k ↑(decide (0<s.n))).other (w.heap.size+1,k) (by simp) ↑s.at_).eq N0.o);have RR1:=af (((O1.other (w,k) (by simp) ↑(decide (0<s.n))).set k ↑s.at_).eq N1.o);have BB:=af ((hbk2.setCell (p:=(w.heap.size,k)) lr ↑(decide (0<s.n))).setCell (p:=(w.heap.size+1,k)) (by simp) ↑s.at_);have hzx:w.heap.size+1+1<=wx.heap.size:=by have:=O1.lt;have:=ON.lt;omega
   have ZZ:=af (show w.heap.size+1+1<=((wx.setCell (w,k) ↑(decide (0<s.n))).setCell (w.heap.size+1,k) ↑s.at_).heap.size by simpa[World.setCell]using hzx);clear hR0 hR1 hbk O O1 ON N0 N1 hbk2 eF eA HX
   go_region
   go_wp2_with fail;go_roundw
   case rel=>exact⟨k+1,by omega,by go_num,RR0.o.drew,RR1.o.drew,BB.o.drew,ZZ.o⟩
   case measure=>simp[intOf];omega
  ·obtain rfl:k=l.length:=by omega
   have q1:decide ((l.length:Int)<(l.length:Nat))=false:=by simp
   have e0:=QI (l.map Prod.snd);have e1:=QJ (l.map Prod.snd);simp only[dQ]at e0 e1;rw[e0]at hR0;rw[e1]at hR1;clear e0 e1 HX;generalize hff:sF (l.map Prod.snd)=ff at *;generalize haa:sA (l.map Prod.snd)=aa at *;have HFF:=af hff;have HAA:=af haa;clear hff haa;have c00:=hR0.cell 0 (x:=↑(ff 0)) rfl;have f00:=hR0.frozen 0;have c01:=hR0.cell 1 (x:=↑(ff 1)) rfl;have f01:=hR0.frozen 1;have c02:=hR0.cell 2 (x:=↑(ff 2)) rfl;have f02:=hR0.frozen 2;have c03:=hR0.cell 3 (x:=↑(ff 3)) rfl;have f03:=hR0.frozen 3;have c04:=hR0.cell 4 (x:=↑(ff 4)) rfl;have f04:=hR0.frozen 4;have c05:=hR0.cell 5 (x:=↑(ff 5)) rfl;have f05:=hR0.frozen 5;have c06:=hR0.cell 6 (x:=↑(ff 6)) rfl;have f06:=hR0.frozen 6;have c07:=hR0.cell 7 (x:=↑(ff 7)) rfl;have f07:=hR0.frozen 7;have c10:=hR1.cell 0 (x:=↑(aa 0)) rfl;have f10:=hR1.frozen 0;have c11:=hR1.cell 1 (x:=↑(aa 1)) rfl;have f11:=hR1.frozen 1;have c12:=hR1.cell 2 (x:=↑(aa 2)) rfl;have f12:=hR1.frozen 2;have c13:=hR1.cell 3 (x:=↑(aa 3)) rfl;have f13:=hR1.frozen 3;have c14:=hR1.cell 4 (x:=↑(aa 4)) rfl;have f14:=hR1.frozen 4;have c15:=hR1.cell 5 (x:=↑(aa 5)) rfl;have f15:=hR1.frozen 5;have c16:=hR1.cell 6 (x:=↑(aa 6)) rfl;have f16:=hR1.frozen 6;have c17:=hR1.cell 7 (x:=↑(aa 7)) rfl;have f17:=hR1.frozen 7;have HB:=af hbk;clear hR0 hR1 hbk y0 hb;go_wp2_with fail
   go_region
   go_wp2_with fail;refine aK (v:=.tuple #[.agg #[↑(ff 0),↑(ff 1),↑(ff 2),↑(ff 3),↑(ff 4),↑(ff 5),↑(ff 6),↑(ff 7)],.agg #[↑(aa 0),↑(aa 1),↑(aa 2),↑(aa 3),↑(aa 4),↑(aa 5),↑(aa 6),↑(aa 7)]]) ?_ rfl ⟨by rw[HFF.o,HAA.o],?_⟩
   ·rw[QL rfl]
    go_simp
   ·(repeat' (first|(with_reducible exact HB.o)|(with_reducible refine bL ?_)|(with_reducible refine aU ?_ ?_ _)|exact aR _|(simp;done)))
theorem QM(x:Nat)(w:World):
  Calls Tryz.prog 157 #[↑(x,0),↑(-1:Int)] w λe w'=>e=.returned ↑(0:Int)/\w=w':=by
 go_enter Tryz.func157,Tryz.ntmps157
 go_wp2;go_ret;exact⟨rfl,rfl⟩
theorem QN(x b k:Nat)(l:List (Value×Sd))(v:Value)(s:Sd)(c d:Ch)(P:List Nat)(w:World)(h:XAt w P x b l c d)(hk:l[k]?=some (v,s)):
  Calls Tryz.prog 157 #[↑(x,0),↑(k:Nat)] w λe w'=>e=.returned ↑s.at_/\w=w':=by
 have y0:=h.blk.cell 0 (x:=.slice (some (b,0)) l.length l.length) rfl;obtain⟨-,e1,-⟩:=h.sd.cells hk;have hlt:=(fJ.1 hk).1;have q0:((k:Int)==-1)=false:=by rw[aB];omega
 have i1:(k:Int)<(l.length:Nat):=by omega
 clear h
 go_enter Tryz.func157,Tryz.ntmps157
 go_wp2;go_ret;exact⟨rfl,rfl⟩
end
end Go.Proofs.YteadkhigkmijiaaGreat
