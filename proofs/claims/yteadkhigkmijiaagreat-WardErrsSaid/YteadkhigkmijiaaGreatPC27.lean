/- Texts SqA, LineJ, LineK, LineO, QgA in one. -/
import Derived.Deep.RegionLaw
import Derived.RegionTactic
import Derived.Deep.RegionHeld3
import Derived.IntWalk
import Derived.StillTailTactics
import Derived.Test.YteadkhigkmijiaaGreatPC1
import Derived.Test.YteadkhigkmijiaaGreatPC13
import Derived.Test.YteadkhigkmijiaaGreatPC14
import Derived.Test.YteadkhigkmijiaaGreatPC21
set_option linter.all false
namespace Go.Proofs.YteadkhigkmijiaaGreat
section
open Go.RowKit
theorem qd(f:Nat->Bool)(n:Nat):fst f n=-1\/∃j:Nat,fst f n=j/\j<n/\f j=true:=by
 by_cases h:∃j,j<n/\f j=true
 ·obtain⟨j,hj,hf⟩:=h
  right;have:∀m,(∃j,j<m/\j<n/\f j=true)->∃k,k<n/\f k=true/\∀i,i<k->f i=false:=by
   intro m
   induction m with
   |zero=>rintro⟨j,h,-⟩;omega
   |succ m ih=>
    rintro⟨j,h1,h2,h3⟩;by_cases e:∃j,j<m/\j<n/\f j=true
    ·exact ih e
    ·refine⟨j,h2,h3,λi hi=>?_⟩
     by_cases hi2:f i=true
     ·exact absurd ⟨i,by omega,by omega,hi2⟩ e
     ·simpa using hi2
  obtain⟨k,h1,h2,h3⟩:=this (j+1) ⟨j,cJ _,hj,hf⟩;exact⟨k,tA h1 h2 h3,h1,h2⟩
 ·left
  refine tu λk hk=>?_;by_cases e:f k=true
  ·exact absurd ⟨k,hk,e⟩ h
  ·simpa using e
theorem qc(s:G)(f:Nat->Bool)(a:Nat->Int)(hs:s.slot<s.n):s.pass f a=-1\/∃j:Nat,s.pass f a=j/\j<s.n/\f j=true:=by
 unfold G.pass
 split
 ·split
  ·rename_i h
   rw[bg]at h;exact .inr ⟨s.slot,rfl,hs,h.1⟩
  ·exact .inl rfl
 ·exact qd f s.n
theorem q9(f:Nat->Bool)(k:Nat):fst f (k+1)=if fst f k<0 then(if f k=true then(k:Int)else -1)else fst f k:=by
 rcases qd f k with e|⟨j,e,hj,hf⟩
 ·rw[e,au (by decide)]
  have hn:∀i,i<k->f i=false:=λi hi=>by
   cases hfi:f i with
   |false=>rfl
   |true=>
    exfalso;unfold fst at e
    cases hx:(List.range k).find? f with
    |none=>rw[List.find?_eq_none]at hx;exact hx i (cA.2 hi) hfi
    |some y=>rw[hx]at e;simp only at e;omega
  by_cases hk:f k=true
  ·rw[au hk]
   exact tA (cJ k) hk hn
  ·rw[ai hk]
   refine tu λi hi=>?_;rcases(by omega:i<k\/i=k)with h|rfl
   ·exact hn i h
   ·simpa using hk
 ·rw[e,ai (by omega)]
  unfold fst at e ⊢;rw[cZ,List.find?_append]
  cases hx:(List.range k).find? f with
  |none=>rw[hx]at e;simp only at e;omega
  |some y=>rw[hx]at e;exact e
theorem PW{f g:Nat->Bool}{k:Nat}(h:∀i,i<k->f i=g i):fst f k=fst g k:=by
 induction k with
 |zero=>rfl
 |succ k ih=>rw[q9,q9,ih λi hi=>h i (by omega),h k (by omega)]
theorem PX{s:G}{f g:Nat->Bool}{a b:Nat->Int}(hs:s.slot<s.n)(hf:∀i,i<s.n->f i=g i)(ha:a s.slot=b s.slot):s.pass f a=s.pass g b:=by
 unfold G.pass;rw[hf _ hs,ha,PW hf]
def prs(a b:Nat->Int)(k:Nat):Value:=.int .i64 (if k%2=0 then a (k / 2)else b (k / 2))
theorem mY(a b:Nat->Int)(k:Nat):prs a b (k*2)=.int .i64 (a k):=by
 unfold prs;rw[au (by omega),show k*2 / 2=k by omega]
theorem mZ(a b:Nat->Int)(k:Nat):prs a b (k*2+1)=.int .i64 (b k):=by
 unfold prs;rw[ai (by omega),show(k*2+1) / 2=k by omega]
theorem Cq:(Tryz.prog.info? 250).map (λi=>(i.zero,i.size,i.bytes))=some (some (.agg #[.int .i64 0,.int .i64 0]),2,16):=by kernel_rfl
def jJ(w:World)(base:Nat)(e:TypeId)(v:Value)(n:Nat)(V:Nat->Value):Prop:=w.ownsRow base e 2 v n ((List.range (n*2)).map V)
theorem jJ.form{w:World}{e:TypeId}{base n:Nat}{v:Value}{V:Nat->Value}(h:jJ w base e v n V):∃A c,v=.slice A n c/\n<=c/\c<=maxLen/\iY w w A (2*n) V:=by
 obtain⟨hl,hh⟩:=h;rcases hh with⟨rfl,rfl⟩|⟨g,cap,cur,rfl,hb,hg,hn,hc,hs,ht⟩
 ·exact⟨_,_,rfl,aR _,bH _,iH⟩
 ·refine⟨_,_,rfl,hn,hc,λ_=>⟨g,0,rfl,(bT.1 hg).1,λk hk=>?_⟩⟩
  rw[bU,cell_of_row w g k cur e (0,0) hg];have:=dn (λl=>l[k]?) ht;simp only[List.getElem?_take,dF,bW (show k<n*2 by omega)]at this;rw[au (by omega)]at this;simpa using this
theorem jJ.alike{w:World}{e:TypeId}{base n:Nat}{v:Value}{V V':Nat->Value}(h:jJ w base e v n V)(hV:∀k,k<n*2->V k=V' k):jJ w base e v n V':=by
 unfold jJ at h ⊢;have:(List.range (n*2)).map V'=(List.range (n*2)).map V:=dK λk hk=>(hV k (cA.1 hk)).symm;rw[this];exact h
theorem KC{B:Nat}{W wx w1:World}{e:TypeId}{v:Value}{k:Nat}{xs:List Value}{o:Obj}(hb:Below B W wx)(hW:B<=wx.heap.size)(hown:wx.ownsRow B e 2 v k xs)(hg:(wx.alloc o).grownBy w1 v.ownBlock):Below B W w1:=
 (hb.alloc hW o).grown hg (by simp;omega) (λg h=>(hown.lt g h).1)
theorem KD(w:World)(u0 u1:Value)(e:TypeId):∀j u,[u0,u1][j]?=some u->(w.alloc (.cells #[u0,u1] e)).cell? (((w.heap.size,0):Addr).add j)=some u:=by
 intro j u hj;have:j=0\/j=1:=by
  rcases j with _|_|j
  ·exact .inl rfl
  ·exact .inr rfl
  ·simp at hj
 rcases this with rfl|rfl
 ·simp at hj;subst hj
  simp[Addr.add,aZ _ _ _ _ rfl]
 ·simp at hj;subst hj
  simp[Addr.add,aZ _ _ _ _ rfl]
theorem KE{P:Program}(w:World){o:Oper}{a:Act}{K:Act->World->Prop}{Q:Exit->Act->World->Prop}(s x:Operand)(t:TypeId)
  (ho:o.op=.call {callee:=.builtin .append,args:=#[s,x],argTypes:=#[t,t]})
  (B:Nat) (e:TypeId) (z:Value) (bytes:Nat) (jM:(P.info? e).map (λi=>(i.zero,i.size,i.bytes))=some (some z,2,bytes)) (hzs:z.cells.size=2) (ht:P.underlying t=some (.slice e))
  (v:Value) (n:Nat) (V:Nat->Value) (W:World) (hown:jJ w B e v n V) (hbel:Below B W w) (hs:a.eval s=v) (u0 u1:Value) (hx:a.eval x=.slice (some (w,0)) 1 1)
  (hu:u0.oneCell'=true/\u1.oneCell'=true) (hB:B<=w.heap.size) (h63:n+1<=maxLen) (hroom:(n+1)*bytes<=140737488355328) (hV:u0=V (n*2)/\u1=V (n*2+1))
  (h:∀v' w',jJ w' B e v' (n+1) V->Below B W w'->K (a.put o.dst v') w'):Oper.wp P o a (w.alloc (.cells #[u0,u1] e)) K Q:=by
 obtain⟨i0,hi,hz0,hz1,hz2⟩:=fV jM;refine wp_append_own _ s x t ho B e i0 z 2 bytes ht hi hz0 hz1 hz2 hzs (by omega) v n _ hs (eH hown _) (w,0) 1 1 [u0,u1] hx rfl (KD _ _ _ _) (by simpa using hu) h63 hroom (by simp;omega) ?_;intro v' w' h1 h2 _;refine h v' w' ?_ (KC hbel hB hown h2);unfold jJ;have:(List.range ((n+1)*2)).map V=(List.range (n*2)).map V++[u0,u1]:=by
  rw[show(n+1)*2=n*2+1+1 by omega,cZ,cZ,hV.1,hV.2];simp
 rw[this];exact h1
theorem KF{P:Program}(w:World){ops:Array Oper}{rest:List Oper}{o:Oper}{a:Act}{Q:Exit->Act->World->Prop}(hgd:o.guard=none)(s x:Operand)(t:TypeId)
  (ho:o.op=.call {callee:=.builtin .append,args:=#[s,x],argTypes:=#[t,t]})
  (B:Nat) (e:TypeId) (z:Value) (bytes:Nat) (jM:(P.info? e).map (λi=>(i.zero,i.size,i.bytes))=some (some z,2,bytes)) (hzs:z.cells.size=2) (ht:P.underlying t=some (.slice e))
  (v:Value) (n:Nat) (V:Nat->Value) (W:World) (hown:jJ w B e v n V) (hbel:Below B W w) (hs:a.eval s=v) (u0 u1:Value) (hx:a.eval x=.slice (some (w,0)) 1 1)
  (hu:u0.oneCell'=true/\u1.oneCell'=true) (hB:B<=w.heap.size) (h63:n+1<=maxLen) (hroom:(n+1)*bytes<=140737488355328) (hV:u0=V (n*2)/\u1=V (n*2+1))
  (h:∀v' w',jJ w' B e v' (n+1) V->Below B W w'->wpList P ops Q rest (a.put o.dst v') w'):wpList P ops Q (o::rest) a (w.alloc (.cells #[u0,u1] e)):=
 wpList_plain hgd λ_ hK=>KE w s x t ho B e z bytes jM hzs ht v n V W hown hbel hs u0 u1 hx hu hB h63 hroom hV λv' w' h1 h2=>hK _ _ (h v' w' h1 h2)
end
section
set_option maxRecDepth 100000
set_option maxHeartbeats 8000000
open Go.RowKit
theorem jJ.cells{w:World}{e:TypeId}{base g c n:Nat}{V:Nat->Value}(h:jJ w base e (.slice (some (g,0)) n c) n V){k:Nat}(hk:k<n*2):w.cell? (g,k)=some (V k):=by
 rw[gO h k (by omega)];simp[hk]
theorem jJ.frozen{w:World}{e:TypeId}{base g c n:Nat}{V:Nat->Value}(h:jJ w base e (.slice (some (g,0)) n c) n V)(k:Nat):w.frozen? (g,k)=false:=World.ownsRow.frozenAt h k
theorem jJ.set1{w:World}{e:TypeId}{base g c n:Nat}{V:Nat->Value}(h:jJ w base e (.slice (some (g,0)) n c) n V)(j:Nat)(u:Value){V':Nat->Value}(hj:V' j=u)(ho:∀i,i<n*2->i≠j->V' i=V i):
  jJ (w.setCell (g,j) u) base e (.slice (some (g,0)) n c) n V':=by
 have h1:=(World.ownsRow.stored h j u).1;unfold jJ;have:(List.range (n*2)).map V'=((List.range (n*2)).map V).set j u:=by
  apply fo
  intro i;rw[List.getElem?_set];by_cases hi:i<n*2
  ·by_cases hij:j=i
   ·subst hij
    simp[hi,hj]
   ·simp[hi,hij,ho i hi (dH hij)]
  ·by_cases hij:j=i
   ·subst hij
    simp[hi]
   ·simp[hi,hij]
 rw[this];exact h1
theorem jJ.j5{w:World}{e:TypeId}{base g c n:Nat}{V:Nat->Value}(h:jJ w base e (.slice (some (g,0)) n c) n V)(k:Nat)(u0 u1:Value){V':Nat->Value}(h0:V' (k*2)=u0)(h1:V' (k*2+1)=u1)(ho:∀i,i<n*2->i≠k*2->i≠k*2+1->V' i=V i):
  jJ ((w.setCell (g,k*2) u0).setCell (g,k*2+1) u1) base e (.slice (some (g,0)) n c) n V':=
 (h.set1 (V':=λi=>if i=k*2 then u0 else V i) (k*2) u0 (by simp) (λi _ hi=>by simp[hi])).set1 (k*2+1) u1 h1 (λi hi hne=>by
  by_cases hk:i=k*2
  ·subst hk;simp[h0]
  ·simp only[hk,dB];exact ho i hi hk hne)
theorem oN{a b a' b':Nat->Int}{k:Nat}(ha:a (k / 2)=a' (k / 2))(hb:b (k / 2)=b' (k / 2)):prs a b k=prs a' b' k:=by
 unfold prs;rw[ha,hb]
theorem KO{P:Program}(w:World){ops:Array Oper}{rest:List Oper}{o:Oper}{a:Act}{Q:Exit->Act->World->Prop}(hgd:o.guard=none)(l c:Operand)(t:TypeId)(hop:o.op=Op.makeSlice t l c)
  (B:Nat) (W:World) (hbel:Below B W w) (hB:B<=w.heap.size) (e:TypeId) (z:Value) (u:Value) (bytes:Nat) (jM:(P.info? e).map (λi=>(i.zero,i.size,i.bytes))=some (some z,2,bytes)) (hzs:z.cells=#[u,u]) (ht:P.underlying t=some (.slice e))
  (kl kc:IntKind) (L C:Int) (n:Nat) (hl:a.eval l=.int kl L) (hc:a.eval c=.int kc C) (hL:L=n) (hC:C=n) (hroom:bytes*n<=281474976710656) (h63:n<=maxLen)
  (h:∀w',jJ w' B e (.slice (some (w,0)) n n) n (λ_=>u)->Below B W w'->w.heap.size<w'.heap.size->wpList P ops Q rest (a.put o.dst (.slice (some (w,0)) n n)) w'):
  wpList P ops Q (o::rest) a w:=by
 obtain⟨i0,hi,hz0,hz1,hz2⟩:=fV jM;refine wpList_make_full w hgd l c t hop B e i0 z 2 ht hi hz0 hz1 kl kc L C n hl hc hL hC (by rw[hz2];exact hroom) h63 hB ?_;intro w' h1 h2;refine h w' ?_ (hbel.grown h2 hB (λk h=>by cases h)) (h1.lt _ rfl).2;unfold jJ;have e1:(madeCells z.cells (n*2)).toList=(List.range (n*2)).map λ_=>u:=by
  rw[hzs];unfold madeCells;simp only[Array.toList_map,Array.toList_range];refine dK λk _=>?_;have:k%2=0\/k%2=1:=by omega
  rcases this with h|h<;>simp[h]
 rw[e1]at h1;exact h1
def stage(G:Nat->Int)(k:Nat)(x:Int)(j:Nat):Int:=if j<k then G j else if j=k then x else 0
theorem pU(G:Nat->Int)(k:Nat)(x:Int):stage G k x k=x:=by simp[stage]
theorem Cv(G:Nat->Int)(k j:Nat):(if j<k then G j else 0)=stage G k 0 j:=by
 unfold stage
 split
 ·rfl
 ·split<;>rfl
theorem Cw(G:Nat->Int)(k:Nat)(x y:Int){j:Nat}(h:j≠k):stage G k x j=stage G k y j:=by simp[stage,h]
theorem pV{G:Nat->Int}{k:Nat}{x:Int}(h:x=G k)(j:Nat):stage G k x j=if j<k+1 then G j else 0:=by
 unfold stage;by_cases h1:j<k
 ·rw[au h1,au (by omega)]
 ·by_cases h2:j=k
  ·subst h2;simp[h]
  ·rw[ai h1,ai h2,ai (by omega)]
theorem jJ.tF{w:World}{e:TypeId}{base g c n:Nat}{G F:Nat->Int}{k:Nat}{x y:Int}(h:jJ w base e (.slice (some (g,0)) n c) n (prs (stage G k x) (stage F k y)))(x' y':Int):
  jJ ((w.setCell (g,k*2) ↑x').setCell (g,k*2+1) ↑y') base e (.slice (some (g,0)) n c) n (prs (stage G k x') (stage F k y')):=
 h.j5 k _ _ (by rw[mY,pU]) (by rw[mZ,pU]) λi _ h0 h1=>oN (Cw G k x' x (by omega)) (Cw F k y' y (by omega))
theorem KP(A0:Option Addr)(n0 c0:Nat)(A1:Option Addr)(n1 c1:Nat)(a0 b0 a1 b1:Nat->Int)(w:World)(h0:iY w w A0 (2*n0) (prs a0 b0))(h1:iY w w A1 (2*n1) (prs a1 b1))
  (s0:∀k,k<n0->(-9<=a0 k/\a0 k<=9)/\(-9<=b0 k/\b0 k<=9)) (s1:∀k,k<n1->(-9<=a1 k/\a1 k<=9)/\(-9<=b1 k/\b1 k<=9)) (hn0:n0<=1000) (hn1:n1<=1000):
  Calls Tryz.prog 121 #[.slice A0 n0 c0,.slice A1 n1 c1] w λe w'=>
   ∃v,e=.returned v/\jJ w' w 250 v (max n0 n1) (prs (λk=>(if k<n0 then a0 k else 0)+(if k<n1 then a1 k else 0)) (λk=>(if k<n0 then b0 k else 0)+(if k<n1 then b1 k else 0)))/\Below w w w':=by
 obtain⟨m,hm⟩:∃m,m=max n0 n1:=⟨_,rfl⟩;rw[<-hm];have hm0:n0<=m:=by omega
 have hm1:n1<=m:=by omega
 obtain⟨G,hG⟩:∃G:Nat->Int,G=λk=>(if k<n0 then a0 k else 0)+(if k<n1 then a1 k else 0):=⟨_,rfl⟩;obtain⟨F,hF⟩:∃F:Nat->Int,F=λk=>(if k<n0 then b0 k else 0)+(if k<n1 then b1 k else 0):=⟨_,rfl⟩;rw[<-hG,<-hF];have hg:∀k,G k=(if k<n0 then a0 k else 0)+(if k<n1 then a1 k else 0):=λk=>by rw[hG]
 have hf:∀k,F k=(if k<n0 then b0 k else 0)+(if k<n1 then b1 k else 0):=λk=>by rw[hF]
 have HG:=af hg;have HF:=af hf;have hmm:m<=n0\/m<=n1:=by omega
 clear hG hF hm hg hf
 go_enter Tryz.func121,Tryz.ntmps121
 go_wp2_with (at_make;go_loud (refine KO _ rfl _ _ 202 rfl w w (ah _ _) lr 250 (.agg #[↑(0:Int),↑(0:Int)]) ↑(0:Int) 16 Cq rfl Tryz.underlying202 _ _ _ _ m rfl rfl (by omega) (by omega) (by omega) (by unfold maxLen;omega) ?_))
 all_goals
  intro w1 ho1 hb1 hs1;go_wp2
  go_loopw [6] (λi wr=>∃k:Nat,k<=m/\i=↑k/\jJ wr w 250 (.slice (some (w,0)) m m) m (prs (λj=>if j<k then G j else 0) (λj=>if j<k then F j else 0))/\Below w w wr) (λi _=>m-(intOf i).toNat)
  case atStart=>exact⟨0,by omega,rfl,ho1.alike λk _=>by simp[prs],hb1⟩
  case round=>
   obtain⟨k,hk,rfl,hown,hbel⟩:=hrel;clear ho1 hb1 hs1;by_cases hlt:k<m
   ·have hown:=hown.alike (V':=prs (stage G k 0) (stage F k 0)) λj _=>oN (Cv G k _) (Cv F k _)
    have z0:=hown.cells (k:=k*2) (by omega);have z1:=hown.cells (k:=k*2+1) (by omega);rw[mY,pU]at z0;rw[mZ,pU]at z1;have y0:=hown.frozen (k*2);have y1:=hown.frozen (k*2+1);have q3:(k:Int)<m:=by omega
    have q2:decide (k<m)=true:=by simp;omega
    have hg:=HG.o k;have hf:=HF.o k;have hcase:(k<n0/\k<n1)\/(k<n0/\¬k<n1)\/(¬k<n0/\k<n1):=by omega
    rcases hcase with⟨p0,p1⟩|⟨p0,p1⟩|⟨p0,p1⟩
    ·try (exfalso;omega)
     all_goals
      obtain⟨x0,off,rfl,hbb,hcell⟩:=h0 (by omega);have e0:wr.cell? (x0,off+k*2)=some ↑(a0 k):=by rw[<-mY a0 b0 k];exact(hbel.cell hbb).trans (hcell (k*2) (by omega))
      have e1:wr.cell? (x0,off+k*2+1)=some ↑(b0 k):=by rw[<-mZ a0 b0 k];exact(hbel.cell hbb).trans (hcell (k*2+1) (by omega))
      have hs0:=s0 k p0;have q4:(k:Int)<n0:=by omega
      have q5:decide (k<n0)=true:=by simp;omega
      have hst:=hown.tF (a0 k) (b0 k);have hbt:=(hbel.setCell (p:=(w.heap.size,k*2)) lr ↑(a0 k)).setCell (p:=(w.heap.size,k*2+1)) lr ↑(b0 k);rw[au p0]at hg hf;clear hcell;obtain⟨x1,off1,rfl,mK,hcell1⟩:=h1 (by omega);have hs1:=s1 k p1;have q6:(k:Int)<n1:=by omega
      have q7:decide (k<n1)=true:=by simp;omega
      rw[au p1]at hg hf;have HX:=af (show a0 k+a1 k=G k by rw[hg]);have HY:=af (show b0 k+b1 k=F k by rw[hf]);have f0:w.cell? (x1,off1+k*2)=some ↑(a1 k):=by rw[<-mY a1 b1 k];exact hcell1 (k*2) (by omega)
      have f1:w.cell? (x1,off1+k*2+1)=some ↑(b1 k):=by rw[<-mZ a1 b1 k];exact hcell1 (k*2+1) (by omega)
      have r0:IntKind.i64.wrap (a0 k)=a0 k:=aO _ (by omega);have r1:IntKind.i64.wrap (b0 k)=b0 k:=aO _ (by omega);have r2:=af (show IntKind.i64.wrap (a0 k+a1 k)=a0 k+a1 k from aO _ (by omega));have r3:=af (show IntKind.i64.wrap (b0 k+b1 k)=b0 k+b1 k from aO _ (by omega));have F0:=af f0;have F1:=af f1;clear hg hf hs0 hs1 p0 p1 hown hcell1 f0 f1;go_wp2_with fail
      go_still_tail 26,(by kernel_rfl)
      go_wp2_with fail;have pW:jJ ((wr.setCell (w,k*2) ↑(a0 k)).setCell (w,k*2+1) ↑(b0 k)).drew w 250 (.slice (some (w,0)) m m) m (prs (stage G k (a0 k)) (stage F k (b0 k))):=hst;have tG:=hbt.drew;clear hst hbt z0 z1 y0 y1 e0 e1 hbel r0 r1;generalize((wr.setCell (w,k*2) ↑(a0 k)).setCell (w,k*2+1) ↑(b0 k)).drew=wt at *;have g0:=(tG.cell mK).trans F0.o;have g1:=(tG.cell mK).trans F1.o;have v0:=pW.cells (k:=k*2) (by omega);have v1:=pW.cells (k:=k*2+1) (by omega);rw[mY,pU]at v0;rw[mZ,pU]at v1;have u0:=pW.frozen (k*2);have u1:=pW.frozen (k*2+1);have r2':=r2.o;have r3':=r3.o;have mg:=pW.tF (a0 k+a1 k) (b0 k+b1 k);have KQ:=(tG.setCell (p:=(w.heap.size,k*2)) lr ↑(a0 k+a1 k:Int)).setCell (p:=(w.heap.size,k*2+1)) lr ↑(b0 k+b1 k:Int);clear pW tG
      go_still_tail 26,(by kernel_rfl)
      go_wp2;go_roundw
      case rel=>exact⟨k+1,by omega,by go_num,mg.alike λj _=>oN (pV HX.o _) (pV HY.o _),KQ.drew⟩
      case measure=>simp[intOf];omega
    ·try (exfalso;omega)
     all_goals
      obtain⟨x0,off,rfl,hbb,hcell⟩:=h0 (by omega);have e0:wr.cell? (x0,off+k*2)=some ↑(a0 k):=by rw[<-mY a0 b0 k];exact(hbel.cell hbb).trans (hcell (k*2) (by omega))
      have e1:wr.cell? (x0,off+k*2+1)=some ↑(b0 k):=by rw[<-mZ a0 b0 k];exact(hbel.cell hbb).trans (hcell (k*2+1) (by omega))
      have hs0:=s0 k p0;have q4:(k:Int)<n0:=by omega
      have q5:decide (k<n0)=true:=by simp;omega
      have hst:=hown.tF (a0 k) (b0 k);have hbt:=(hbel.setCell (p:=(w.heap.size,k*2)) lr ↑(a0 k)).setCell (p:=(w.heap.size,k*2+1)) lr ↑(b0 k);rw[au p0]at hg hf;clear hcell;have q6:¬(k:Int)<n1:=by omega
      have q7:decide (k<n1)=false:=by simp;omega
      rw[ai p1]at hg hf;have HX:=af (show a0 k=G k by rw[hg];omega);have HY:=af (show b0 k=F k by rw[hf];omega);have r0:IntKind.i64.wrap (a0 k)=a0 k:=aO _ (by omega);have r1:IntKind.i64.wrap (b0 k)=b0 k:=aO _ (by omega);clear hg hf hs0 p0 p1 hown;go_wp2_with fail
      go_still_tail 26,(by kernel_rfl)
      go_wp2;go_roundw
      case rel=>exact⟨k+1,by omega,by go_num,hst.alike λj _=>oN (pV HX.o _) (pV HY.o _),hbt.drew⟩
      case measure=>simp[intOf];omega
    ·try (exfalso;omega)
     all_goals
      have q4:¬(k:Int)<n0:=by omega
      have q5:decide (k<n0)=false:=by simp;omega
      rw[ai p0]at hg hf;obtain⟨x1,off1,rfl,mK,hcell1⟩:=h1 (by omega);have hs1:=s1 k p1;have q6:(k:Int)<n1:=by omega
      have q7:decide (k<n1)=true:=by simp;omega
      rw[au p1]at hg hf;have HX:=af (show a1 k=G k by rw[hg];omega);have HY:=af (show b1 k=F k by rw[hf];omega);have g0:wr.cell? (x1,off1+k*2)=some ↑(a1 k):=by rw[<-mY a1 b1 k];exact(hbel.cell mK).trans (hcell1 (k*2) (by omega))
      have g1:wr.cell? (x1,off1+k*2+1)=some ↑(b1 k):=by rw[<-mZ a1 b1 k];exact(hbel.cell mK).trans (hcell1 (k*2+1) (by omega))
      have hst:=hown.tF (a1 k) (b1 k);have hbt:=(hbel.setCell (p:=(w.heap.size,k*2)) lr ↑(a1 k)).setCell (p:=(w.heap.size,k*2+1)) lr ↑(b1 k);have r0:IntKind.i64.wrap (a1 k)=a1 k:=aO _ (by omega);have r1:IntKind.i64.wrap (b1 k)=b1 k:=aO _ (by omega);clear hg hf hs1 p0 p1 hown hcell1;go_wp2_with fail
      go_still_tail 26,(by kernel_rfl)
      go_wp2;go_roundw
      case rel=>exact⟨k+1,by omega,by go_num,hst.alike λj _=>oN (pV HX.o _) (pV HY.o _),hbt.drew⟩
      case measure=>simp[intOf];omega
   ·obtain rfl:k=m:=by omega
    go_wp2;go_ret;exact⟨_,rfl,hown.alike λj hj=>oN (by rw[au (by omega)]) (by rw[au (by omega)]),hbel⟩
end
section
set_option maxRecDepth 100000
set_option maxHeartbeats 1000000
open Go.RowKit
open Clk (avg)
structure RKg(c:Cx 7)(W:World)(g:Nat)(m:Int)(v:Value)(l:List Int):Prop where
 blk:PB c W g #[↑m,v]
 sees:ja W W v l
 far:jv v≠some g
theorem RKg.below{c:Cx 7}{W W':World}{g:Nat}{m:Int}{v:Value}{l:List Int}(h:RKg c W g m v l)(k:Below W W W'):RKg c W' g m v l:=
 ⟨h.blk.below k h.blk.lt,(h.sees.below k).more k.size,h.far⟩
theorem wR(c:Cx 7)(g:Nat)(m:Int)(v:Value)(l:List Int)(w:World)(h:RKg c w g m v l):
  Calls Tryz.prog 134 #[↑(g,7)] w λe w'=>e=.returned (.tuple #[])/\RKg c w' g m (.slice none 0 0) []/\Only g w w':=by
 have c1:=h.blk.cell 1 rfl;have f1:=h.blk.frozen 8;have hB:=af (h.blk.set 1 (by simp) (.slice none 0 0));clear h
 go_enter Tryz.func134,Tryz.ntmps134
 go_wp2;exact aD (ax (by rfl) _ _ _) rfl ⟨rfl,⟨hB.o,ja.nil,(by simp[jv])⟩,(aE g w).set 8 _⟩
theorem MD(c:Cx 7)(g:Nat)(m:Int)(v:Value)(l:List Int)(w:World)(h:RKg c w g m v l)(hs:small l)(h4:l.length<=4)(hm:0<=m/\m<=1099511627776):
  Calls Tryz.prog 182 #[↑(g,7)] w λe w'=>e=.returned (.tuple #[↑(jb m l),↑(wiB m (avg l))])/\Below w w w':=by
 have c1:=h.blk.cell 1 rfl;have R:=af (zh l v w _ h.sees hs h4);have HC:Hid (∀W,Below w w W->W.cell? (g,7)=some ↑m):=af (λW hW=>(h.below hW).blk.cell 0 rfl);have hbd:=Clk.zo (B:=1099511627776) (by decide) hs h4;obtain⟨A,cc,rfl,-,-,-,-⟩:=h.sees.at_;unfold jb;have hwn:(wiB m (avg l)=true/\-m<=avg l/\avg l<=m)\/(wiB m (avg l)=false/\avg l < -m)\/(wiB m (avg l)=false/\m<avg l):=by
  by_cases h:-m<=avg l/\avg l<=m
  ·exact .inl ⟨av h,h⟩
  ·by_cases h':avg l < -m
   ·exact .inr (.inl ⟨aj h,h'⟩)
   ·exact .inr (.inr ⟨aj h,by omega⟩)
 obtain⟨m1,m2⟩:=hm;obtain⟨b1,b2⟩:=hbd;generalize avg l=r at *;generalize wiB m r=q at *;clear h hs h4;rcases hwn with⟨rfl,d1,d2⟩|⟨rfl,d1⟩|⟨rfl,d1⟩
 all_goals
  go_enter Tryz.func182,Tryz.ntmps182
  go_wp2_with fail;refine R.o.mono ?_;rintro e w1 ⟨rfl,hb1⟩;have c0:=HC.o w1 hb1;go_wp2;go_ret2;exact⟨rfl,hb1⟩
theorem ME(c:Cx 7)(g:Nat)(m:Int)(v:Value)(l:List Int)(n:Int)(w:World)(h:RKg c w g m v l)(h4:l.length<=4):
  Calls Tryz.prog 124 #[↑(g,7),↑n] w λe w'=>e=.returned (.tuple #[])/\(∃v',RKg c w' g m v' (iT l n)/\∀b,jv v'=some b->w.heap.size<=b)/\Only g w w':=by
 have HK4:Hid (l.length=4->iT l n=(l++[n]).drop 1):=af (λh=>by
  unfold iT;rw[au h,List.drop_append_of_le_length (by omega)])
 have HKn:Hid (¬l.length=4->iT l n=l++[n]):=af (λh=>by unfold iT;rw[ai h]);generalize iT l n=K at *;have a1:=bn (.cells #[] 3) (h.blk.cell 1 rfl);have hem:=af (uV w 3 rfl w w lr rfl);have hse:=af (h.sees.alloc (.cells #[] 3));have hgl:=h.blk.lt;have hbA:=af ((ah w w).alloc lr (.cells #[] 3));have HB:Hid (∀W,Below w w W->PB c W g #[↑m,v]):=af (λW hW=>h.blk.below hW h.blk.lt);clear h
 go_enter Tryz.func124,Tryz.ntmps124
 go_wp2_with (at_builtin;go_loud (refine pE _ rfl (.tmp 5) (.tmp 9) 33 rfl w oh Tryz.underlying33 _ [] hem.o rfl _ v l rfl hse.o (by simp) (by simp;omega) ?_));intro v1 w1 ho1 hx1;have hb1:=hbA.o.trans (hx1.toBelow (B:=w.heap.size) (by simp) (λj hj=>by simp[Value.ownBlock]at hj;omega));have ho1:jg w1 w v1 l:=ho1;clear a1 hem hse hbA hx1;have hsX:=af (tE w1 3 #[↑n] [n] rfl (w1.heap.size+1) (by omega) (by simp[maxLen]) _ 1 1 rfl rfl rfl);go_wp2_with (at_builtin;go_loud (refine pE _ rfl (.tmp 10) (.tmp 12) 33 rfl w oh Tryz.underlying33 _ l (ho1.alloc _) rfl _ _ [n] rfl hsX.o (by have:=hb1.size;simp;omega) (by simp;omega) ?_));intro v2 w2 ho2 hx2;have hb2:=(hb1.alloc hb1.size (.cells #[↑n] 3)).trans (hx2.toBelow (B:=w.heap.size) (by have:=hb1.size;simp;omega) (λj hj=>(ho1.lt j hj).1));have hB2:=HB.o w2 hb2;have d1:=hB2.cell 1 rfl;have e1:=hB2.frozen 8;obtain⟨b,cp,rfl,k1,k2,k3,k4⟩:=ho2.uW (by simp);have hl5:(l++[n]).length=l.length+1:=by simp
 have hown2:=af ho2;have hs2:=af (ho2.sees.only (g:=g) ((aE g w2).set 8 (.slice (some (b,0)) (l++[n]).length cp)) lr (by simp[jv];omega));have hB3:=af (hB2.set 1 (by simp) (.slice (some (b,0)) (l++[n]).length cp));rw[hl5]at hs2 hB3 k1 ⊢;have H5:=af hl5;clear hl5 hown2 ho2 ho1 hx2 hsX;by_cases hl:l.length=4
 ·have q1:decide ((4:Int)<((l.length:Nat):Int)+1)=true:=av (by omega)
  have q2:¬cp=1:=by omega
  have hs4:=af (hs2.o.sub H5.o.symm 1 (l.length+1) (by omega) lr (by omega) (o:=1) (by omega) (m:=l.length+1-1) rfl (c':=cp-1) rfl);have hs5:=af (hs4.o.only (g:=g) ((aE g _).set 8 (.slice (some (b,1)) (l.length+1-1) (cp-1))) (by simp[World.setCell]) (by simp[jv];omega));have hB5:=af (hB3.o.set 1 (by simp) (.slice (some (b,1)) (l.length+1-1) (cp-1)));have HL:=af hl;clear hl hs4;go_wp2;refine aD (ax (by rfl) _ _ _) rfl ⟨rfl,⟨.slice (some (b,1)) (l.length+1-1) (cp-1),?_⟩,((iQ g hb2).trans ((aE g w2).set 8 _)).set 8 _⟩;rw[HK4.o HL.o];have h1:=hs5.o;rw[gE (by simp)]at h1;exact⟨⟨hB5.o,h1.more (by simp[World.setCell]),(by simp[jv];omega)⟩,λj hj=>by simp[jv]at hj;omega⟩
 ·have q1:decide ((4:Int)<((l.length:Nat):Int)+1)=false:=aj (by omega)
  have hKn:=af (HKn.o hl);clear hl;go_wp2;refine aD (ax (by rfl) _ _ _) rfl ⟨rfl,⟨.slice (some (b,0)) (l.length+1) cp,?_⟩,(iQ g hb2).trans ((aE g w2).set 8 _)⟩;rw[hKn.o];exact⟨⟨hB3.o,hs2.o.more (by simp[World.setCell]),(by simp[jv];omega)⟩,λj hj=>by simp[jv]at hj;omega⟩
end
end Go.Proofs.YteadkhigkmijiaaGreat
