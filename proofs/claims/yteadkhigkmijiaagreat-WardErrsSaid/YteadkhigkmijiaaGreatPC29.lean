/- Texts GdE, SqD, SqM, QmE, QmF in one. -/
import Derived.Test.YteadkhigkmijiaaGreatPC1
import Derived.Test.YteadkhigkmijiaaGreatPC2
import Derived.Test.YteadkhigkmijiaaGreatPC5
import Derived.Test.YteadkhigkmijiaaGreatPC14
import Derived.Test.YteadkhigkmijiaaGreatPC18
import Derived.Test.YteadkhigkmijiaaGreatPC21
import Derived.Test.YteadkhigkmijiaaGreatPC22
import Derived.Test.YteadkhigkmijiaaGreatPC24
import Derived.Test.YteadkhigkmijiaaGreatPC25
import Derived.Test.YteadkhigkmijiaaGreatPC27
import Derived.Test.YteadkhigkmijiaaGreatPC28
set_option linter.all false
namespace Go.Proofs.YteadkhigkmijiaaGreat
section
set_option maxRecDepth 100000
set_option maxHeartbeats 4000000
open Go.RowKit
open Tb (D T)
def newG(t:T):G:={sy:=λk=>(t.ns.getD k default).sy,n:=t.ns.length,wi:=t.wi,lm:=t.lm,l:=[],now:=0,kn:=false,slot:=0,si:=0}
def nM(t:T)(k:Nat):G:={newG t with sy:=λj=>if j<k then(t.ns.getD j default).sy else false}
theorem J4(t:T):nM t t.ns.length=newG t:=by
 have e:(λj=>if j<t.ns.length then(t.ns.getD j default).sy else false)=λj=>(t.ns.getD j default).sy:=by
  funext j
  split
  ·rfl
  ·rename_i h
   rw[ay,aY (by omega)]
   rfl
 unfold nM;rw[e]
 rfl
theorem J5(t:T)(k:Nat)(hk:k<8):(grd (nM t k)).setIfInBounds k ↑(t.ns.getD k default).sy=grd (nM t (k+1)):=by
 rcases(by omega:k=0\/k=1\/k=2\/k=3\/k=4\/k=5\/k=6\/k=7)with rfl|rfl|rfl|rfl|rfl|rfl|rfl|rfl<;>simp[grd,nM,newG]
theorem J6(t:T)(v:Value)(w:World)(hv:jh w w v t.ns)(ht:t.is=true):
  Calls Tryz.prog 56 #[jW t v] w λe w'=>∃g,e=.returned (.tuple #[.pointer (some ⟨g,0,none⟩),↑(0:Int)])/\w.heap.size<=g/\GAt w' g (newG t)/\Below w w w':=by
 have hmay:=Tb.T.may ht;obtain⟨A,c,rfl,v1,v2,v3,-⟩:=hv.at_;have hB0:=(ah w w).alloc lr (.cells #[.slice A t.ns.length c,↑t.dr,↑t.wi,↑t.lm] 31);have hX:=aJ w _ rfl #[.slice A t.ns.length c,↑t.dr,↑t.wi,↑t.lm] 31;have hI:=af (vT t (.slice A t.ns.length c) (w.alloc (.cells #[.slice A t.ns.length c,↑t.dr,↑t.wi,↑t.lm] 31)) w (by simp) (hv.below hB0));rw[ht]at hI;unfold jW at hI ⊢;have HV:=af v3;clear hv v3;have t0:=hX.cell 0 (x:=.slice A t.ns.length c) rfl;have t1:=hX.cell 1 (x:=↑t.dr) rfl;have t2:=hX.cell 2 (x:=↑t.wi) rfl;have t3:=hX.cell 3 (x:=↑t.lm) rfl
 go_enter Tryz.func56,Tryz.ntmps56
 go_wp2_with fail;refine hI.o.mono ?_;rintro e w2 ⟨rfl,hb2⟩;have HX:Hid (∀W,Below w2 w2 W->W.cell? (w,0)=some (.slice A t.ns.length c)/\W.cell? (w,2)=some ↑t.wi/\W.cell? (w,3)=some ↑t.lm):=af λW hW=>by
  have hz:=hb2.size;simp only[gy]at hz;have hx:=(hX.below hb2 hX.lt).below hW (by omega);exact⟨hx.cell 0 rfl,hx.cell 2 rfl,hx.cell 3 rfl⟩
 obtain⟨u0,u2,u3⟩:=HX.o w2 (ah _ _);have hb0:=ah w2 w2;have HN:=λW(hW:W.heap.size=w2.heap.size)=>af (show Calls Tryz.prog 59 #[↑t.lm] W λe w'=>e=.returned ↑(w2,0)/\oq w' w2 t.lm []/\Below w2 W w'/\w'.heap.size=w2.heap.size+1 from hW▸zk t.lm W);go_wp2_with fail
 go_cut [4]from 10 (λs4 W=>∃g,s4=.pointer (some ⟨g,0,none⟩)/\w2.heap.size<=g/\GAt W g (nM t 0)/\Below w2 w2 W)
 case first=>
  go_region_with (first
   |((go_at_call 59;(with_reducible refine(HN _ ?_).o.mono ?_));(first|rfl|simp);rintro e w3 ⟨rfl,hc3,hb3,hz3⟩;obtain⟨k0,k1,k2,k3,k4,k5⟩:=hc3.cells;have hb1:=hb0.drew.trans hb3;obtain⟨u0,u2,u3⟩:=HX.o _ hb1)
   |fail)
  all_goals
   go_wp2_with fail
   go_meet
   refine⟨_,rfl,?_,⟨aJ _ _ ?_ _ _,by simp[nM,newG]⟩,?_⟩
   ·omega
   ·first|exact hz3.symm|(simp;omega)
   ·exact hb1.alloc hb1.size _
 case rest=>
  obtain⟨g,rfl,hg,hG,hb⟩:=hcut;have HS:=af (J4 t);have HP:=λk hk=>af (J5 t k hk);have hn8:=hmay.n8;obtain⟨u0,u2,u3⟩:=HX.o _ hb;clear HX HN hI hX t0 t1 t2 t3;go_wp2
  go_loopw [25] (λi wr=>∃k:Nat,k<=t.ns.length/\i=↑k/\GAt wr g (nM t k)/\Below w2 w2 wr) (λi _=>t.ns.length-(intOf i).toNat)
  case atStart=>exact⟨0,by omega,rfl,hG,hb⟩
  case round=>
   obtain⟨k,hk,rfl,hGk,hbk⟩:=hrel;by_cases hlt:k<t.ns.length
   ·have q1:decide ((k:Int)<(t.ns.length:Int))=true:=av (by omega)
    have hS:=HV.o.below ((hB0.trans (hb2.mono hB0.size)).trans (hbk.mono (by have:=hb2.size;simp at this;omega)));obtain⟨b,off,rfl,hbb,hd⟩:=hS (by omega);obtain⟨d0,d1,d2,d3⟩:=hd k hlt;have i1:(0:Int)<=(k:Int):=by omega
    have i2:(k:Int)<8:=by omega
    have i3:(k:Int)<(t.ns.length:Int):=by omega
    have HPk:=af (HP k (by omega)).o;generalize t.ns.getD k default=d at *;have hbA:=(ah wr wr).alloc lr (.cells #[↑d.sy,↑d.inf,↑d.li,↑d.sz] 67);have hGA:=hGk.below hbA hGk.lt;have e0:=(aJ wr _ rfl #[↑d.sy,↑d.inf,↑d.li,↑d.sz] 67).cell 0 (x:=↑d.sy) rfl;have BN:=hbk.trans (hbA.mono hbk.size);go_wp2_with fail;generalize wr.alloc (.cells #[↑d.sy,↑d.inf,↑d.li,↑d.sz] 67)=wA at *;clear d0 d1 d2 d3 hd hS hbA hGk hbk;have fk:=hGA.1.frozen k;have ck:=hGA.1.cell k (vR _ k (by omega));have HG:=af hGA;have HB:=af BN;clear hGA BN
    go_region
    go_wp2;go_roundw
    case rel=>exact⟨k+1,by omega,by go_num,⟨(HG.o.1.set k ↑d.sy).drew.eq HPk.o,HG.o.2⟩,(HB.o.setCell (p:=(g,k)) hg _).drew⟩
    case measure=>simp[intOf];omega
   ·have q1:decide ((k:Int)<(t.ns.length:Int))=false:=aj (by omega)
    obtain rfl:k=t.ns.length:=by omega
    go_wp2;go_ret2;exact⟨g,rfl,by have:=hb2.size;simp at this;omega,HS.o▸hGk,(hB0.trans (hb2.mono hB0.size)).trans (hbk.mono (by have:=hb2.size;simp at this;omega))⟩
end
section
set_option maxRecDepth 100000
set_option maxHeartbeats 4000000
open Go.RowKit
def leaks(f:Ft)(i:Nat):Bool:=decide (f.k=7/\f.n=i)
theorem PY(f:Ft)(m:List Sd)(h:f.k=7):kS f m=m:=by
 unfold kS;rw[ai (by omega)]
 cases e:m[f.n.toNat]? with
 |none=>rfl
 |some s=>exact(dn _ (EK f s h)).trans (EO m _ s e)
theorem PZ(x b:Nat)(l:List (Value×Sd))(c d:Ch)(dv:Value)(f:Ft)(P:List Nat)(w:World)(h:XAt w P x b l c d)(hm:f.may=true)(hs:∀s∈l,wide s.2.at_)(hP:∀i∈P,i<w.heap.size)(hd:iI w w dv f.d)(hy:iK f.d)(hl:l.length<=8):
  Calls Tryz.prog 102 #[↑(x,0),ftV f dv] w λe w'=>e=.returned (.tuple #[])/\∃l':List (Value×Sd),l'.map Prod.snd=kS f (l.map Prod.snd)/\XAt w' P x b l' {c with bl:=c.bl||blocks f 0,lk:=c.lk||leaks f 0} {d with bl:=d.bl||blocks f 1,lk:=d.lk||leaks f 1}/\Kw [x,b] w w':=by
 by_cases h7:f.k=7
 case neg=>
  refine(P5 x b l c d dv f P w h hm h7 hs hP hd hy hl).mono ?_;rintro e w' ⟨rfl,l',h1,h2,h3⟩;have e7:∀i,leaks f i=false:=λi=>by unfold leaks;simp[h7]
  rw[e7,e7,gX,gX];exact⟨rfl,l',h1,h2,h3⟩
 rw[PY f _ h7];obtain⟨fk,fn,fa,fd⟩:=f;unfold Ft.may at hm;rw[nu]at hm;simp only at hm h7 hd hy;subst h7;unfold ftV blocks leaks;simp only;have hb0:=(ah w w).alloc lr (.cells #[↑(7:Int),↑fn,↑fa,dv] 56);have hX:=aJ w _ rfl #[↑(7:Int),↑fn,↑fa,dv] 56;obtain⟨Ad,cd,rfl,-⟩:=hd.at_;have H:=h.below hb0;have kp0:=fG [x,b] hb0;have hz:(w.alloc (.cells #[↑(7:Int),↑fn,↑fa,.slice Ad fd.length cd] 56)).heap.size=w.heap.size+1:=by simp
 have hj:fn=0\/fn=1:=by simp at hm;omega
 rcases hj with rfl|rfl
 ·have x0:=hX.cell 0 (x:=↑(7:Int)) rfl
  have x1:=hX.cell 1 (x:=↑(0:Int)) rfl;have y:=H.blk.cell 2 (x:=↑c.lk) rfl;have fz:=H.blk.frozen 2;have HH:=af ((H.put 2 ↑true (c':={c with lk:=true}) (d':=d) rfl).drew);have KK:=af ((kp0.set (x,2) (by simp) ↑true).drew);clear hX h H hb0 hd kp0
  go_enter Tryz.func102,Tryz.ntmps102
  go_wp2_with fail
  go_region
  go_wp2;exact aD (ax (by rfl) _ _ _) rfl ⟨rfl,l,by simp,by simpa using HH.o,KK.o⟩
 ·have x0:=hX.cell 0 (x:=↑(7:Int)) rfl
  have x1:=hX.cell 1 (x:=↑(1:Int)) rfl;have y:=H.blk.cell 6 (x:=↑d.lk) rfl;have fz:=H.blk.frozen 6;have HH:=af ((H.put 6 ↑true (c':=c) (d':={d with lk:=true}) rfl).drew);have KK:=af ((kp0.set (x,6) (by simp) ↑true).drew);clear hX h H hb0 hd kp0
  go_enter Tryz.func102,Tryz.ntmps102
  go_wp2_with fail
  go_region
  go_wp2;exact aD (ax (by rfl) _ _ _) rfl ⟨rfl,l,by simp,by simpa using HH.o,KK.o⟩
theorem Fh(n:Nat->Nat):∀m,mx n m=jw n m
 |0=>rfl
 |m+1=>by show max (mx n m) (n m)=max (jw n m) (n m);rw[Fh n m]
theorem Fj(n:Nat->Nat)(a r:Nat->Nat->Int)(k m:Nat)(h:∀i,i<m->r i k=if k<n i then a i k else 0):sm n a m k=iU r k m:=by
 induction m with
 |zero=>rfl
 |succ m ih=>
  show sm n a m k+(if k<n m then a m k else 0)=iU r k m+r m k;rw[ih λi hi=>h i (by omega),h m (by omega)]
theorem Qm:(Tryz.prog.info? 184).map (λi=>(i.zero,i.size,i.bytes))=some (some (.slice none 0 0),1,24):=rfl
theorem Qn(w:World)(t:TypeId)(b:Nat)(hb:b=w.heap.size)(A:Option Addr)(n c:Nat):Src (w.alloc (.cells #[.slice A n c] t)) (.slice (some (b,0)) 1 1) 1 1 [.slice A n c]:=by
 refine .inr ⟨_,1,rfl,rfl,λj x hj=>?_,λx hx=>?_⟩
 ·match j,hj with
  |0,hj=>simp at hj;subst hj;show(w.alloc _).cell? (b,0)=_;rw[aZ _ _ _ _ hb];rfl
  |j+1,hj=>simp at hj
 ·rw[bD.1 hx];rfl
theorem EW(x b:Nat)(l:List (Value×Sd))(c d:Ch)(P:List Nat)(w:World)(h:XAt w P x b l c d)(hl:l.length<=8)(hP:∀i∈P,i<w.heap.size)(h1:∀s∈l.map Prod.snd,∀k,(s.q k).natAbs<=1):
  Calls Tryz.prog 154 #[↑(x,0)] w λe w'=>∃u,e=.returned u/\Row w' P u (jw (mN (l.map Prod.snd)) l.length) (λj=>iU (mR (l.map Prod.snd)) j l.length) (λj=>iU (mR (l.map Prod.snd)) j l.length)/\Below w w w':=by
 have hr0:∀i,∃A,∃c,i<l.length->l[i]?.map Prod.fst=some (.slice A (mN (l.map Prod.snd) i) c)/\(mN (l.map Prod.snd) i<=400/\∃q:Nat->Int,(∀k,(q k).natAbs<=1)/\(∀k,mR (l.map Prod.snd) i k=if k<mN (l.map Prod.snd) i then q k else 0)/\iY w w A (mN (l.map Prod.snd) i) λk=>cx (q k) (q k)):=λi=>by
  cases e:l[i]? with
  |none=>exact⟨none,0,λhi=>by rw[List.getElem?_eq_none_iff]at e;omega⟩
  |some y=>
   obtain⟨v,s⟩:=y;have hrow:=h.sd.row _ (bO e);obtain⟨A,c,ev,-,-,hs⟩:=hrow.sees;have eN:mN (l.map Prod.snd) i=s.n:=by simp[mN,e]
   have eR:mR (l.map Prod.snd) i=s.row:=by simp[mR,e]
   refine⟨A,c,λ_=>⟨by simp only[fK];rw[eN];exact dn some ev,by rw[eN];exact hrow.n4,s.q,h1 s (List.mem_map_of_mem (f:=Prod.snd) (bO e)),λk=>by rw[eR,eN];rfl,by rw[eN];exact hs⟩⟩
 obtain⟨A,hA⟩:=Classical.skolem.1 hr0;obtain⟨cc,hcc⟩:=Classical.skolem.1 hA;clear hr0 hA;have hq0:∀i,∃q:Nat->Int,(∀k,(q k).natAbs<=1)/\(i<l.length->(∀k,mR (l.map Prod.snd) i k=if k<mN (l.map Prod.snd) i then q k else 0)/\iY w w (A i) (mN (l.map Prod.snd) i) λk=>cx (q k) (q k)):=λi=>by
  by_cases hi:i<l.length
  ·obtain⟨-,-,q,q1,q2,q3⟩:=hcc i hi
   exact⟨q,q1,λ_=>⟨q2,q3⟩⟩
  ·exact⟨λ_=>0,λk=>by simp,λh=>absurd h hi⟩
 obtain⟨q,hq⟩:=Classical.skolem.1 hq0;clear hq0;generalize hm:l.map Prod.snd=m at *;obtain⟨n,hn⟩:∃n,mN m=n:=⟨_,rfl⟩;rw[hn]at hcc hq ⊢;have HV:Hid (∀W k,Below w w W->k<l.length->W.cell? (b,k*3)=some (.slice (A k) (n k) (cc k))/\∃a e,W.cell? (b,k*3+1)=some (.int .i64 a)/\W.cell? (b,k*3+2)=some (.bool e)):=af λW k hW hk=>by
  have h2:=(h.below hW).sd
  cases e:l[k]? with
  |none=>rw[List.getElem?_eq_none_iff]at e;omega
  |some y=>
   obtain⟨v,s⟩:=y;have e1:=(hcc k hk).1;rw[e,fK,bB]at e1;obtain⟨x0,x1,x2⟩:=h2.cells e;exact⟨x0.trans (dn some e1),_,_,x1,x2⟩
 have y0:=h.blk.cell 0 (x:=.slice (some (b,0)) l.length l.length) rfl;have hfin:Hid (∀(L:Option Addr)(C:Nat)(W:World),Below w w W->iY W W L l.length (λi=>.slice (A i) (n i) (cc i))->Calls Tryz.prog 104 #[.slice L l.length C] W λe w'=>∃u,e=.returned u/\Row w' P u (jw n l.length) (λj=>iU (mR m) j l.length) (λj=>iU (mR m) j l.length)/\Below W W w'):=af λL C W hW hs=>by
  have e1:∀k,sm n q l.length k=iU (mR m) k l.length:=λk=>Fj n q (mR m) k l.length λi hi=>((hq i).2 hi).1 k;have hb1:∀k,(iU (mR m) k l.length).natAbs<=8:=λk=>aW (tX λi hi=>by
   rw[((hq i).2 hi).1 k]
   split
   ·exact(hq i).1 k
   ·exact bH _) hl
  have hsb:∀i k,i<l.length->(sm n q i k).natAbs<2^52:=λi k hi=>by
   rw[Fj n q (mR m) k i λi' hi'=>((hq i').2 (by omega)).1 k];have:=tX (f:=mR m) (j:=k) (k:=i) λi' hi'=>by
    rw[((hq i').2 (by omega)).1 k]
    split
    ·exact(hq i').1 k
    ·exact bH _
   omega
  refine(Co L l.length C A n cc q q W hs (λi hi=>(((hq i).2 hi).2.below hW).more hW.size) hl (λi hi=>by have:=(hcc i hi).2.1;omega) (λi k _ _=>by have:=(hq i).1 k;omega) (λi k _ _=>by have:=(hq i).1 k;omega) hsb hsb).mono ?_;rintro e w' ⟨u,rfl,ho,hb⟩;refine⟨u,rfl,?_,hb⟩;rw[Fh]at ho;refine iC (ho.alike λk _=>by rw[e1 k]) (λi hi=>by have:=hP i hi;have:=hW.size;omega) ?_ λk=>⟨hb1 k,hb1 k⟩;have key:∀m,m<=l.length->jw n m<=400:=λm=>by
   induction m with
   |zero=>intro _;exact bH _
   |succ m ih=>
    intro hm;have:=ih (by omega);have:=(hcc m (by omega)).2.1;show max (jw n m) (n m)<=400;omega
  exact key _ lr
 clear hcc hq h h1 hn hm;generalize(jw n l.length)=MN at *;generalize(λj=>iU (mR m) j l.length)=MQ at *;generalize l.length=N at *
 go_enter Tryz.func154,Tryz.ntmps154
 go_wp2_with fail
 go_loopw [3,11] (λv i wr=>∃k:Nat,k<=N/\i=↑k/\wr.ownsRow w 184 1 v k ((List.range k).map λi=>.slice (A i) (n i) (cc i))/\Below w w wr) (λ_ i _=>N-(intOf i).toNat)
 case atStart=>exact⟨0,by omega,rfl,dX _ _ _ _,ah _ _⟩
 case round=>
  obtain⟨k,hk,rfl,ho,hb⟩:=hrel;by_cases hlt:k<N
  ·have q1:decide ((k:Int)<((N:Nat):Int))=true:=av (by omega)
   obtain⟨c0,a,e,c1,c2⟩:=HV.o wr k hb hlt;have hX:=aJ wr wr rfl #[.slice (A k) (n k) (cc k),↑a,↑e] 224;have z0:=hX.cell 0 (x:=.slice (A k) (n k) (cc k)) rfl;have hb2:=hb.alloc hb.size (.cells #[.slice (A k) (n k) (cc k),↑a,↑e] 224);have ho2:=ho.alloc (.cells #[.slice (A k) (n k) (cc k),↑a,↑e] 224);have hs2:=hb2.size;have hx0:k+1<=8:=by omega
   have hwr:=hb.size;clear ho hb hX HV hfin;go_wp2_with (at_builtin;go_loud (refine og _ rfl (.tmp 15) (.tmp 18) 233 rfl w 184 _ 1 24 Qm rfl (by omega) Tryz.underlying233 u3 k _ (ho2.alloc _) rfl _ 1 _ rfl (Qn (wr.alloc (.cells #[.slice (A k) (n k) (cc k),↑a,↑e] 224)) 184 (wr.heap.size+1) (by simp) (A k) (n k) (cc k)) (by simp;omega) (by simp[maxLen];omega) (by omega) ?_));intro v5 w5 hl5 hx5;have hb5:Below w w w5:=(hb2.alloc hs2 (.cells #[.slice (A k) (n k) (cc k)] 184)).trans (hx5.toBelow (B:=w.heap.size) (by simp;omega) λj hj=>(ho2.lt j hj).1);have hl5:w5.ownsRow w 184 1 v5 (k+1) ((List.range (k+1)).map λi=>.slice (A i) (n i) (cc i)):=by
    rw[cZ,List.map_append];exact hl5
   clear hx5 ho2 hb2;go_wp2;go_roundw
   case rel=>exact⟨k+1,by omega,by go_num,hl5,hb5⟩
   case measure=>simp[intOf];omega
  ·obtain rfl:k=N:=by omega
   have q1:decide ((k:Int)<((k:Nat):Int))=false:=aj (by omega);obtain⟨L,C,rfl,-,-,hs⟩:=iP.form (show iP wr w 184 u3 k λi=>.slice (A i) (n i) (cc i)from ho);have hM:=af (hfin.o L C wr hb hs);clear ho hs HV hfin;go_wp2_with fail;refine hM.o.mono ?_;rintro e w2 ⟨u,rfl,hr,hb2⟩;have hr:=af hr;have hb3:=hb.trans (hb2.mono hb.size);clear hM;go_wp2;go_ret;exact⟨u,rfl,hr.o,hb3⟩
def Air.jR(x:Air)(N i:Nat):Bool:=decide (i<N)&&decide (0<(x.s i).b.length)
theorem Dr(ab:Nat)(V:Nat->Value)(x:Air)(N:Nat)(w:World)(h:jF w ab V x)(hN:N<=8):
  Calls Tryz.prog 176 #[↑(ab,0),↑(N:Nat)] w λe w'=>e=.returned (kZ (x.jR N))/\Below w w w':=by
 have X0:=(aJ w w rfl (b8 λ_=>false) 110).alloc (.cells (b8 λ_=>false) 110);have X1:=aJ (w.alloc (.cells (b8 λ_=>false) 110)) (w.heap.size+1) (by simp) (b8 λ_=>false) 110;have hb:=((ah w w).alloc lr (.cells (b8 λ_=>false) 110)).alloc (by simp) (.cells (b8 λ_=>false) 110);have HX:Hid (∀W k,Below w w W->k<8->∃A c,W.cell? ⟨ab,k,none⟩=some (.slice A (x.s k).b.length c)):=af λW k hW hk=>by
  have h2:=h.below hW;obtain⟨A,c,e⟩:=h2.form hk;exact⟨A,c,e▸h2.blk.cell k (nN V x k hk)⟩
 have hab:=h.lt;clear h;unfold b8 at *;unfold kZ
 go_enter Tryz.func176,Tryz.ntmps176
 go_wp2_with fail;generalize(w.alloc (.cells #[↑false,↑false,↑false,↑false,↑false,↑false,↑false,↑false] 110)).alloc (.cells #[↑false,↑false,↑false,↑false,↑false,↑false,↑false,↑false] 110)=w2 at *;have hS:=λk hk=>af (Du (λi=>decide (0<(x.s i).b.length)) k hk);have hE:Hid (N<=8->(λi=>decide (i<N)&&decide (0<(x.s i).b.length))=x.jR N):=af λ_=>rfl
 go_loopw [6] (λi wr=>∃k:Nat,k<=N/\i=↑k/\Blk wr w (b8 λ_=>false) 110/\Blk wr (w.heap.size+1) (b8 λi=>decide (i<k)&&decide (0<(x.s i).b.length)) 110/\Below w w wr) (λi _=>N-(intOf i).toNat)
 case atStart=>exact⟨0,by omega,rfl,by simpa[b8]using X0,by simpa[b8]using X1,hb⟩
 case round=>
  obtain⟨k,hk,rfl,hR0,hR1,hbk⟩:=hrel;clear X0 X1 hb;by_cases hlt:k<N
  ·have q1:decide ((k:Int)<((N:Nat):Int))=true:=av (by omega)
   obtain⟨A,c,e0⟩:=HX.o wr k hbk (by omega);have hS:=hS k (by omega);have c1:=hR1.cell k (lZ (λi=>decide (i<k)&&decide (0<(x.s i).b.length)) k (by omega));have f1:=hR1.frozen k;have i1:(k:Int)<8:=by omega
   have q3:decide ((0:Int)<(((x.s k).b.length:Nat):Int))=decide (0<(x.s k).b.length):=by rw[bY];simp
   have RR1:=af ((hR1.set k ↑(decide (0<(x.s k).b.length))).eq hS.o);have RR0:=af (hR0.other (w.heap.size+1,k) (by simp) ↑(decide (0<(x.s k).b.length)));have BB:=af (hbk.setCell (p:=(w.heap.size+1,k)) (by simp) ↑(decide (0<(x.s k).b.length)));clear hR0 hR1 hbk hS HX;generalize(x.s k).b.length=n at *;go_wp2_with fail;go_roundw
   case rel=>exact⟨k+1,by omega,by go_num,RR0.o,RR1.o,BB.o⟩
   case measure=>simp[intOf];omega
  ·obtain rfl:k=N:=by omega
   have q1:decide ((k:Int)<((k:Nat):Int))=false:=by simp
   rw[hE.o hN]at hR1;clear HX hE hS;generalize hff:x.jR k=ff at *;have HFF:=af hff;clear hff;unfold b8 at hR0;have c00:=hR0.cell 0 (x:=↑false) rfl;have f00:=hR0.frozen 0;have c10:=hR1.cell 0 (x:=↑(ff 0)) rfl;have c01:=hR0.cell 1 (x:=↑false) rfl;have f01:=hR0.frozen 1;have c11:=hR1.cell 1 (x:=↑(ff 1)) rfl;have c02:=hR0.cell 2 (x:=↑false) rfl;have f02:=hR0.frozen 2;have c12:=hR1.cell 2 (x:=↑(ff 2)) rfl;have c03:=hR0.cell 3 (x:=↑false) rfl;have f03:=hR0.frozen 3;have c13:=hR1.cell 3 (x:=↑(ff 3)) rfl;have c04:=hR0.cell 4 (x:=↑false) rfl;have f04:=hR0.frozen 4;have c14:=hR1.cell 4 (x:=↑(ff 4)) rfl;have c05:=hR0.cell 5 (x:=↑false) rfl;have f05:=hR0.frozen 5;have c15:=hR1.cell 5 (x:=↑(ff 5)) rfl;have c06:=hR0.cell 6 (x:=↑false) rfl;have f06:=hR0.frozen 6;have c16:=hR1.cell 6 (x:=↑(ff 6)) rfl;have c07:=hR0.cell 7 (x:=↑false) rfl;have f07:=hR0.frozen 7;have c17:=hR1.cell 7 (x:=↑(ff 7)) rfl;have HB:=af hbk;clear hR0 hR1 hbk;go_wp2_with fail;refine aK (v:=.agg #[↑(ff 0),↑(ff 1),↑(ff 2),↑(ff 3),↑(ff 4),↑(ff 5),↑(ff 6),↑(ff 7)]) ?_ rfl ⟨by rw[HFF.o],?_⟩
   ·rw[j4 rfl]
    go_simp
   ·(repeat' (first|(with_reducible exact HB.o)|(with_reducible refine bL ?_)|(with_reducible refine aU ?_ ?_ _)|exact aR _|(simp;done)))
end
section
set_option maxHeartbeats 1000000
open Go.RowKit
structure jN(W:World)(v:Value)(n:Nat)(a b:Nat->Int):Prop where
 at_:∃A c,v=.slice A n c/\iY W W A (2*n) (prs a b)
 n4:n<=400
 bd:∀k,(a k).natAbs<=8/\(b k).natAbs<=8
theorem jN.below{W W':World}{v:Value}{n:Nat}{a b:Nat->Int}(h:jN W v n a b)(k:Below W W W'):jN W' v n a b:=⟨by
 obtain⟨A,c,e,hs⟩:=h.at_;exact⟨A,c,e,(hs.below k).more k.size⟩,h.n4,h.bd⟩
theorem jN.nil(W:World)(a b:Nat->Int)(h:∀k,(a k).natAbs<=8/\(b k).natAbs<=8):jN W (.slice none 0 0) 0 a b:=⟨⟨none,0,rfl,iH⟩,by omega,h⟩
theorem jN.of{W:World}{B:Nat}{v:Value}{n:Nat}{a b a' b':Nat->Int}(h:jJ W B 250 v n (prs a b))(hn:n<=400)(ha:∀k,k<n->a k=a' k)(hb:∀k,k<n->b k=b' k)(h8:∀k,(a' k).natAbs<=8/\(b' k).natAbs<=8):jN W v n a' b':=by
 obtain⟨A,c,rfl,-,-,hs⟩:=h.form;exact⟨⟨A,c,rfl,hs.alike λk hk=>oN (ha _ (by omega)) (hb _ (by omega))⟩,hn,h8⟩
theorem kQ(f:Bool)(a:Int)(B:Nat)(h:a.natAbs<=B):(pf f a).natAbs<=B:=by
 unfold pf
 split
 ·exact h
 ·exact bH _
theorem Dv(f:Bool)(z:Nat->Int)(k:Nat):lv f z k=pf f (lv true z k):=by
 unfold lv pf
 cases f<;>simp
theorem Dw(x:Db)(k:Nat)(h:k<rn x.b):x.row k=lv true (λi=>x.b.getD i 0) k:=by
 unfold Db.row;rw[au h]
 rfl
theorem tT(x:Db)(v:Value)(f s:Bool)(w:World)(h:iI w w v x.b)(ok:x.Ok):
  Calls Tryz.prog 177 #[v,↑f,↑s] w λe w'=>∃u,e=.returned u/\jN w' u (rn x.b) (λk=>pf f (x.row k)) (λk=>pf s (x.row k))/\Below w w w':=by
 obtain⟨A,c,rfl,h1,h2,h3,-⟩:=h.at_;refine(KI A x.b.length c (λk=>x.b.getD k 0) f s w h3 (λk _=>ok.b.getD k) (aW h1 h2)).mono ?_;rintro e w' ⟨u,rfl,ho,hb⟩;refine⟨u,rfl,jN.of ho (wX _) (λk hk=>?_) (λk hk=>?_) (λk=>⟨kQ _ _ _ (aW (x.tV k) (by decide)),kQ _ _ _ (aW (x.tV k) (by decide))⟩),hb⟩
 ·rw[Dv,Dw x k hk]
 ·rw[Dv,Dw x k hk]
theorem wY(u0 u1:Value)(n0 n1:Nat)(a0 b0 a1 b1:Nat->Int)(w:World)(h0:jN w u0 n0 a0 b0)(h1:jN w u1 n1 a1 b1)(z0:∀k,n0<=k->a0 k=0/\b0 k=0)(z1:∀k,n1<=k->a1 k=0/\b1 k=0)(hs:∀k,(a0 k+a1 k).natAbs<=8/\(b0 k+b1 k).natAbs<=8):
  Calls Tryz.prog 121 #[u0,u1] w λe w'=>∃u,e=.returned u/\jN w' u (max n0 n1) (λk=>a0 k+a1 k) (λk=>b0 k+b1 k)/\Below w w w':=by
 obtain⟨A0,c0,rfl,s0⟩:=h0.at_;obtain⟨A1,c1,rfl,s1⟩:=h1.at_;have e0:=h0.bd;have e1:=h1.bd;have l0:=h0.n4;have l1:=h1.n4;refine(KP A0 n0 c0 A1 n1 c1 a0 b0 a1 b1 w s0 s1 (λk _=>by have:=e0 k;omega) (λk _=>by have:=e1 k;omega) (by omega) (by omega)).mono ?_;rintro e w' ⟨u,rfl,ho,hb⟩;refine⟨u,rfl,jN.of ho (by omega) (λk hk=>?_) (λk hk=>?_) hs,hb⟩
 ·have q0:(if k<n0 then a0 k else 0)=a0 k:=by
   split
   ·rfl
   ·exact(z0 k (by omega)).1.symm
  have q1:(if k<n1 then a1 k else 0)=a1 k:=by
   split
   ·rfl
   ·exact(z1 k (by omega)).1.symm
  rw[q0,q1]
 ·have q0:(if k<n0 then b0 k else 0)=b0 k:=by
   split
   ·rfl
   ·exact(z0 k (by omega)).2.symm
  have q1:(if k<n1 then b1 k else 0)=b1 k:=by
   split
   ·rfl
   ·exact(z1 k (by omega)).2.symm
  rw[q0,q1]
theorem qZ(x:Db)(k:Nat)(h:rn x.b<=k):x.row k=0:=by unfold Db.row;rw[ai (by omega)]
end
end Go.Proofs.YteadkhigkmijiaaGreat
