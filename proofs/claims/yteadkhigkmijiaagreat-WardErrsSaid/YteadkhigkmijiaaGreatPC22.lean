/- Texts SrC, SrD, RfS in one. -/
import Derived.Test.YteadkhigkmijiaaGreatPC1
import Derived.Test.YteadkhigkmijiaaGreatPC9
import Derived.Test.YteadkhigkmijiaaGreatPC21
set_option linter.all false
namespace Go.Proofs.YteadkhigkmijiaaGreat
section
set_option maxRecDepth 100000
set_option maxHeartbeats 4000000
open Go.RowKit
def Sd.strike(f:Ft)(s:Sd):Sd:=
 if f.k=1 then {s with n:=0}
 else if f.k=2 then {s with q:=gq s.n s.q f.a}
 else if f.k=3 then {s with df:=true}
 else if f.k=5 then {s with n:=rn f.d,q:=rq f.d,at_:=s.at_+f.a}
 else if f.k=6 then {s with at_:=s.at_+f.a}
 else s
def wide(x:Int):Prop:=-2305843009213693952<=x/\x<=2305843009213693952
theorem EO{α:Type}:∀(l:List α)(k:Nat)(x:α),l[k]?=some x->l.set k x=l
 |[],_,_,h=>by simp at h
 |y::l,0,x,h=>by simp at h;subst h;rfl
 |y::l,k+1,x,h=>by simp only[List.set];rw[EO l k x (by simpa using h)]
theorem Qs{α:Type}(l:List α)(k:Nat)(x y:α)(h:l[k]?=some y):(l.set k x)[k]?=some x:=by
 rw[dZ (fJ.1 h).1]
def ftV(f:Ft)(v:Value):Value:=.agg #[↑f.k,↑f.n,↑f.a,v]
theorem Qt(b:Nat)(k:Nat)(l:List (Value×Sd))(v dv:Value)(s:Sd)(n a:Int)(P:List Nat)(w:World)(h:jd w P b l)(hk:l[k]?=some (v,s)):
  Calls Tryz.prog 149 #[↑(b,k*3),.agg #[↑(1:Int),↑n,↑a,dv]] w λe w'=>∃u,e=.returned (.tuple #[])/\jd w' P b (l.set k (u,{s with n:=0}))/\Only b w w':=by
 have hb0:=(ah w w).alloc lr (.cells #[↑(1:Int),↑n,↑a,dv] 56);have hX:=aJ w _ rfl #[↑(1:Int),↑n,↑a,dv] 56;have x0:=hX.cell 0 (x:=↑(1:Int)) rfl;have H:=h.below hb0;have hO:=af (iQ b hb0);obtain⟨y0,-,-⟩:=H.cells hk;have f0:=H.blk.frozen (k*3);have HH:=af (H.v_ (t:={s with n:=0}) hk rfl rfl (Row.nil _ P _ _ (h.row _ (bO hk)).one));clear hX h H
 go_enter Tryz.func149,Tryz.ntmps149
 go_wp2
 first
  |exact aD (ax (by rfl) _ _ _) rfl ⟨_,rfl,HH.o,hO.o.set _ _⟩
  |exact aK (ax (by rfl) _ _ _) rfl ⟨_,rfl,HH.o,hO.o.set _ _⟩
theorem Qu(b:Nat)(k:Nat)(l:List (Value×Sd))(v dv:Value)(s:Sd)(n a:Int)(P:List Nat)(w:World)(h:jd w P b l)(hk:l[k]?=some (v,s)):
  Calls Tryz.prog 149 #[↑(b,k*3),.agg #[↑(3:Int),↑n,↑a,dv]] w λe w'=>∃u,e=.returned (.tuple #[])/\jd w' P b (l.set k (u,{s with df:=true}))/\Only b w w':=by
 have hb0:=(ah w w).alloc lr (.cells #[↑(3:Int),↑n,↑a,dv] 56);have hX:=aJ w _ rfl #[↑(3:Int),↑n,↑a,dv] 56;have x0:=hX.cell 0 (x:=↑(3:Int)) rfl;have H:=h.below hb0;have hO:=af (iQ b hb0);obtain⟨-,-,y0⟩:=H.cells hk;have f0:=H.blk.frozen (k*3+2);have HH:=af (H.d_ hk true);clear hX h H
 go_enter Tryz.func149,Tryz.ntmps149
 go_wp2
 first
  |exact aD (ax (by rfl) _ _ _) rfl ⟨_,rfl,HH.o,hO.o.set _ _⟩
  |exact aK (ax (by rfl) _ _ _) rfl ⟨_,rfl,HH.o,hO.o.set _ _⟩
theorem Qv(b:Nat)(k:Nat)(l:List (Value×Sd))(v dv:Value)(s:Sd)(n a:Int)(P:List Nat)(w:World)(h:jd w P b l)(hk:l[k]?=some (v,s))(ha:-1000<=a/\a<=1000)(hs:wide s.at_):
  Calls Tryz.prog 149 #[↑(b,k*3),.agg #[↑(6:Int),↑n,↑a,dv]] w λe w'=>∃u,e=.returned (.tuple #[])/\jd w' P b (l.set k (u,{s with at_:=s.at_+a}))/\Only b w w':=by
 have hb0:=(ah w w).alloc lr (.cells #[↑(6:Int),↑n,↑a,dv] 56);have hX:=aJ w _ rfl #[↑(6:Int),↑n,↑a,dv] 56;have x0:=hX.cell 0 (x:=↑(6:Int)) rfl;have x2:=hX.cell 2 (x:=↑a) rfl;have H:=h.below hb0;have hO:=af (iQ b hb0);obtain⟨-,y0,-⟩:=H.cells hk;have f0:=H.blk.frozen (k*3+1);have z1:IntKind.i64.wrap (s.at_+a)=s.at_+a:=aO _ (by unfold wide at hs;omega);have HH:=af (H.a_ hk (s.at_+a));clear hX h H
 go_enter Tryz.func149,Tryz.ntmps149
 go_wp2
 go_region
 go_wp2
 first
  |exact aD (ax (by rfl) _ _ _) rfl ⟨_,rfl,HH.o.drew,(hO.o.set _ _).drew⟩
  |exact aK (ax (by rfl) _ _ _) rfl ⟨_,rfl,HH.o.drew,(hO.o.set _ _).drew⟩
theorem Qw(b:Nat)(k:Nat)(l:List (Value×Sd))(v dv:Value)(s:Sd)(n a:Int)(P:List Nat)(w:World)(h:jd w P b l)(hk:l[k]?=some (v,s))(ha:-1000<=a/\a<=1000)(hP:∀i∈P,i<w.heap.size):
  Calls Tryz.prog 149 #[↑(b,k*3),.agg #[↑(2:Int),↑n,↑a,dv]] w λe w'=>∃u,e=.returned (.tuple #[])/\jd w' P b (l.set k (u,{s with q:=gq s.n s.q a}))/\Only b w w':=by
 have hb0:=(ah w w).alloc lr (.cells #[↑(2:Int),↑n,↑a,dv] 56);have hX:=aJ w _ rfl #[↑(2:Int),↑n,↑a,dv] 56;have x0:=hX.cell 0 (x:=↑(2:Int)) rfl;have x2:=hX.cell 2 (x:=↑a) rfl;have H:=h.below hb0;obtain⟨y0,-,-⟩:=H.cells hk;have HX:Hid (∀W,Below (w.heap.size+1) (w.alloc (.cells #[↑(2:Int),↑n,↑a,dv] 56)) W->W.cell? (w,2)=some ↑a/\W.cell? (b,k*3)=some v/\W.frozen? (b,k*3)=false/\jd W P b l/\Only b w W):=af λW hW=>by
  have H2:=H.below (hW.mono (by simp));exact⟨(hX.below hW (by omega)).cell 2 rfl,(H2.cells hk).1,H2.blk.frozen _,H2,iQ b (hb0.trans (hW.mono (by omega)))⟩
 have hG:=λW(hW:Below (w.heap.size+1) (w.alloc (.cells #[↑(2:Int),↑n,↑a,dv] 56)) W)=>af (Qr v s.n s.q a P W ((H.row _ (bO hk)).kp (fG P (hW.mono (by simp)))) (λi hi=>by have:=hP i hi;have:=hW.size;simp at this;omega) ha);have f0:=H.blk.frozen (k*3);have hz:(w.alloc (.cells #[↑(2:Int),↑n,↑a,dv] 56)).heap.size=w.heap.size+1:=by simp
 have hB:=ah (w.heap.size+1) (w.alloc (.cells #[↑(2:Int),↑n,↑a,dv] 56));clear hX h H hb0
 go_enter Tryz.func149,Tryz.ntmps149
 go_wp2_with fail;generalize hW0:w.alloc (.cells #[↑(2:Int),↑n,↑a,dv] 56)=w0 at *;clear hW0
 go_region_with (first
  |(go_at_call 194;refine(hG w0.drew hB.drew).o.mono ?_;rintro e w2 ⟨u,rfl,hr2,hb2⟩;obtain⟨A2,d2,rfl,-,-,-⟩:=hr2.sees;obtain⟨y2,y0,f0,H2,O2⟩:=HX.o w2 (hB.drew.trans (hb2.mono (Nat.le_of_eq hz.symm))))
  |fail)
 all_goals
  have HH:=af (H2.v_ (t:={s with q:=gq s.n s.q a}) hk rfl rfl hr2);have O2:=af O2;clear H2 hr2 HX hG;go_wp2;exact aD (ax (by rfl) _ _ _) rfl ⟨_,rfl,HH.o,O2.o.set _ _⟩
theorem Qx(b:Nat)(k:Nat)(l:List (Value×Sd))(v dv:Value)(s:Sd)(n a:Int)(d:List Int)(P:List Nat)(w:World)(h:jd w P b l)(hk:l[k]?=some (v,s))(ha:-1000<=a/\a<=1000)(hs:wide s.at_)(hP:∀i∈P,i<w.heap.size)(hd:iI w w dv d)(hy:iK d):
  Calls Tryz.prog 149 #[↑(b,k*3),.agg #[↑(5:Int),↑n,↑a,dv]] w λe w'=>∃u,e=.returned (.tuple #[])/\jd w' P b (l.set k (u,{s with n:=rn d,q:=rq d,at_:=s.at_+a}))/\Only b w w':=by
 have hb0:=(ah w w).alloc lr (.cells #[↑(5:Int),↑n,↑a,dv] 56);have hX:=aJ w _ rfl #[↑(5:Int),↑n,↑a,dv] 56;have x0:=hX.cell 0 (x:=↑(5:Int)) rfl;have x2:=hX.cell 2 (x:=↑a) rfl;obtain⟨Ad,cd,rfl,-⟩:=hd.at_;have x3:=hX.cell 3 (x:=.slice Ad d.length cd) rfl;have H:=h.below hb0;have hz:(w.alloc (.cells #[↑(5:Int),↑n,↑a,.slice Ad d.length cd] 56)).heap.size=w.heap.size+1:=by simp
 have hD:=af (Fp _ d _ ((hd.below hb0).more (by rw[hz];omega)) hy);have z1:IntKind.i64.wrap (s.at_+a)=s.at_+a:=aO _ (by unfold wide at hs;omega)
 go_enter Tryz.func149,Tryz.ntmps149
 go_wp2_with fail;generalize hW0:w.alloc (.cells #[↑(5:Int),↑n,↑a,.slice Ad d.length cd] 56)=w0 at *;clear hW0;refine hD.o.mono ?_;rintro e w2 ⟨u,rfl,ho,hb2⟩;have hr:Row w2 P u (rn d) (rq d) (rq d):=iC ho (λi hi=>by have:=hP i hi;omega) (wX d) (λk=>⟨uK d k,uK d k⟩);have H2:=H.below hb2;have hX2:=hX.below hb2 (by rw[hz];omega);have O2:=iQ b (hb0.trans (hb2.mono (by rw[hz];omega)));obtain⟨y0,y1,y2⟩:=H2.cells hk;have f0:=H2.blk.frozen (k*3);have H3:=H2.v_ (t:={s with n:=rn d,q:=rq d}) hk rfl rfl hr;obtain⟨A2,d2,rfl,-,-,-⟩:=hr.sees;have hkl:=Qs l k (Value.slice A2 (rn d) d2,({s with n:=rn d,q:=rq d}:Sd)) _ hk;have HH:=af (H3.a_ hkl (s.at_+a));obtain⟨-,y3,-⟩:=H3.cells hkl;have f3:=H3.blk.frozen (k*3+1);have hne:b≠w.heap.size:=by have:=h.lt;omega
 have hX3:=hX2.other (b,k*3) (by show w.heap.size≠b;omega) (Value.slice A2 (rn d) d2);have x2':=hX3.cell 2 (x:=↑a) rfl;have O3:=af (O2.set (k*3) (Value.slice A2 (rn d) d2));have hS:Hid ((l.set k (Value.slice A2 (rn d) d2,({s with n:=rn d,q:=rq d}:Sd))).set k (Value.slice A2 (rn d) d2,({s with n:=rn d,q:=rq d,at_:=s.at_+a}:Sd))=l.set k (Value.slice A2 (rn d) d2,({s with n:=rn d,q:=rq d,at_:=s.at_+a}:Sd))):=af (by simp);clear h H H2 H3 hX hX2 hX3 hr ho hb2 O2 hD hkl hd hb0;go_wp2_with fail
 go_region
 go_wp2;exact aD (ax (by rfl) _ _ _) rfl ⟨_,rfl,by rw[<-hS.o];exact HH.o.drew,(O3.o.set _ _).drew⟩
theorem Qy(b:Nat)(k:Nat)(l:List (Value×Sd))(v dv:Value)(s:Sd)(f:Ft)(P:List Nat)(w:World)(h:jd w P b l)(hk:l[k]?=some (v,s))(ha:-1000<=f.a/\f.a<=1000)(hs:wide s.at_)(hP:∀i∈P,i<w.heap.size)(hd:iI w w dv f.d)(hy:iK f.d)
  (hf:f.k=1\/f.k=2\/f.k=3\/f.k=5\/f.k=6):
  Calls Tryz.prog 149 #[↑(b,k*3),ftV f dv] w λe w'=>∃u,e=.returned (.tuple #[])/\jd w' P b (l.set k (u,s.strike f))/\Only b w w':=by
 obtain⟨fk,fn,fa,fd⟩:=f;unfold ftV Sd.strike;simp only at *;rcases hf with rfl|rfl|rfl|rfl|rfl
 ·simpa using Qt b k l v dv s fn fa P w h hk
 ·simpa using Qw b k l v dv s fn fa P w h hk ha hP
 ·simpa using Qu b k l v dv s fn fa P w h hk
 ·simpa using Qx b k l v dv s fn fa fd P w h hk ha hs hP hd hy
 ·simpa using Qv b k l v dv s fn fa P w h hk ha hs
structure Ch where
 bl:Bool
 lk:Bool
 v:Value
 fr:Int
def xcs(b N:Nat)(c d:Ch):Array Value:=#[.slice (some (b,0)) N N,↑c.bl,↑c.lk,c.v,↑c.fr,↑d.bl,↑d.lk,d.v,↑d.fr]
structure XAt(W:World)(P:List Nat)(x b:Nat)(l:List (Value×Sd))(c d:Ch):Prop where
 blk:Blk W x (xcs b l.length c d) 189
 sd:jd W P b l
 mem:x∈P
 ne:x≠b
theorem XAt.below{W W':World}{P:List Nat}{x b:Nat}{l:List (Value×Sd)}{c d:Ch}(h:XAt W P x b l c d)(k:Below W W W'):XAt W' P x b l c d:=⟨h.blk.below k h.blk.lt,h.sd.below k,h.mem,h.ne⟩
theorem XAt.drew{W:World}{P:List Nat}{x b:Nat}{l:List (Value×Sd)}{c d:Ch}(h:XAt W P x b l c d):XAt W.drew P x b l c d:=h.below ((ah _ _).drew)
theorem XAt.drewN{W:World}{P:List Nat}{x b:Nat}{l:List (Value×Sd)}{c d:Ch}(h:XAt W P x b l c d)(n:Nat):XAt (W.drewN n) P x b l c d:=h.below (aC (ah _ _) n)
theorem XAt.put{W:World}{P:List Nat}{x b:Nat}{l:List (Value×Sd)}{c d c' d':Ch}(h:XAt W P x b l c d)(i:Nat)(u:Value)(e:(xcs b l.length c d).setIfInBounds i u=xcs b l.length c' d'):XAt (W.setCell (x,i) u) P x b l c' d':=
 ⟨(h.blk.set i u).eq e,h.sd.kp ((fU P W).set (x,i) h.mem u) (dR W (x,i) u b (λe=>h.ne e.symm)),h.mem,h.ne⟩
theorem XAt.only{W W':World}{P:List Nat}{x b:Nat}{l l':List (Value×Sd)}{c d:Ch}(h:XAt W P x b l c d)(k:Only b W W')(hs:jd W' P b l')(hl:l'.length=l.length):XAt W' P x b l' c d:=
 ⟨hl▸h.blk.only k h.ne,hs,h.mem,h.ne⟩
def kS(f:Ft)(m:List Sd):List Sd:=if f.k=4 then m else match m[f.n.toNat]? with
 |some s=>m.set f.n.toNat (s.strike f)
 |none=>m
theorem Qz(f:Ft)(m:List Sd):(kS f m).length=m.length:=by
 unfold kS
 split
 ·rfl
 ·split<;>simp
def blocks(f:Ft)(i:Nat):Bool:=decide (f.k=4/\f.n=i)
theorem P5(x b:Nat)(l:List (Value×Sd))(c d:Ch)(dv:Value)(f:Ft)(P:List Nat)(w:World)(h:XAt w P x b l c d)(hm:f.may=true)(h7:f.k≠7)(hs:∀s∈l,wide s.2.at_)(hP:∀i∈P,i<w.heap.size)(hd:iI w w dv f.d)(hy:iK f.d)(_hl:l.length<=8):
  Calls Tryz.prog 102 #[↑(x,0),ftV f dv] w λe w'=>e=.returned (.tuple #[])/\∃l':List (Value×Sd),l'.map Prod.snd=kS f (l.map Prod.snd)/\XAt w' P x b l' {c with bl:=c.bl||blocks f 0} {d with bl:=d.bl||blocks f 1}/\Kw [x,b] w w':=by
 obtain⟨fk,fn,fa,fd⟩:=f;unfold Ft.may at hm;rw[nu]at hm;simp only at hm h7 hd hy;unfold ftV blocks kS;simp only;have hb0:=(ah w w).alloc lr (.cells #[↑fk,↑fn,↑fa,dv] 56);have hX:=aJ w _ rfl #[↑fk,↑fn,↑fa,dv] 56;obtain⟨Ad,cd,rfl,-⟩:=hd.at_;have H:=h.below hb0;have kp0:=fG [x,b] hb0;have hz:(w.alloc (.cells #[↑fk,↑fn,↑fa,.slice Ad fd.length cd] 56)).heap.size=w.heap.size+1:=by simp
 by_cases h4:fk=4
 ·subst h4
  have hj:fn=0\/fn=1:=by simp at hm;omega
  rcases hj with rfl|rfl
  ·have x0:=hX.cell 0 (x:=↑(4:Int)) rfl
   have x1:=hX.cell 1 (x:=↑(0:Int)) rfl;have y:=H.blk.cell 1 (x:=↑c.bl) rfl;have fz:=H.blk.frozen 1;have HH:=af ((H.put 1 ↑true (c':={c with bl:=true}) (d':=d) rfl).drew);have KK:=af ((kp0.set (x,1) (by simp) ↑true).drew);clear hX h H hb0 hd kp0
   go_enter Tryz.func102,Tryz.ntmps102
   go_wp2_with fail
   go_region
   go_wp2;exact aD (ax (by rfl) _ _ _) rfl ⟨rfl,l,by simp,by simpa using HH.o,KK.o⟩
  ·have x0:=hX.cell 0 (x:=↑(4:Int)) rfl
   have x1:=hX.cell 1 (x:=↑(1:Int)) rfl;have y:=H.blk.cell 5 (x:=↑d.bl) rfl;have fz:=H.blk.frozen 5;have HH:=af ((H.put 5 ↑true (c':=c) (d':={d with bl:=true}) rfl).drew);have KK:=af ((kp0.set (x,5) (by simp) ↑true).drew);clear hX h H hb0 hd kp0
   go_enter Tryz.func102,Tryz.ntmps102
   go_wp2_with fail
   go_region
   go_wp2;exact aD (ax (by rfl) _ _ _) rfl ⟨rfl,l,by simp,by simpa using HH.o,KK.o⟩
 ·obtain⟨j,rfl⟩:∃j:Nat,fn=j:=⟨fn.toNat,by omega⟩
  simp only[aQ];have q4:(fk==4)=false:=by rw[aB];exact h4
  have q7:(fk==7)=false:=by rw[aB];exact h7
  have x0:=hX.cell 0 (x:=↑fk) rfl;have x1:=hX.cell 1 (x:=↑j) rfl;have x2:=hX.cell 2 (x:=↑fa) rfl;have x3:=hX.cell 3 (x:=.slice Ad fd.length cd) rfl;have y0:=H.blk.cell 0 (x:=.slice (some (b,0)) l.length l.length) rfl;by_cases hj:j<l.length
  ·have q1:decide ((j:Int)<(l.length:Nat))=true:=by simp;omega
   obtain⟨⟨v,s⟩,hk⟩:∃y,l[j]?=some y:=⟨_,aP hj⟩;have hk2:(l.map Prod.snd)[j]?=some s:=by simp[hk]
   rw[hk2];have hwd:=hs _ (bO hk);have hsz:∀W,Below (w.alloc (.cells #[↑fk,↑j,↑fa,.slice Ad fd.length cd] 56)).heap.size (w.alloc (.cells #[↑fk,↑j,↑fa,.slice Ad fd.length cd] 56)) W->w.heap.size<=W.heap.size:=λW hW=>by have:=hW.size;omega
   have hd1:∀W,Below (w.alloc (.cells #[↑fk,↑j,↑fa,.slice Ad fd.length cd] 56)).heap.size (w.alloc (.cells #[↑fk,↑j,↑fa,.slice Ad fd.length cd] 56)) W->iI W W (.slice Ad fd.length cd) fd:=λW hW=>(hd.below (hb0.trans (hW.mono (by omega)))).more (hsz W hW);have hC:=λW hW=>af (Qy b j l v (.slice Ad fd.length cd) s ⟨fk,j,fa,fd⟩ P W (H.sd.below hW) hk (by simp only;omega) hwd (λi hi=>by have:=hP i hi;have:=hsz W hW;omega) (hd1 W hW) hy (by simp only;omega));have HN:Hid (∀W,Below (w.alloc (.cells #[↑fk,↑j,↑fa,.slice Ad fd.length cd] 56)).heap.size (w.alloc (.cells #[↑fk,↑j,↑fa,.slice Ad fd.length cd] 56)) W->XAt W P x b l c d/\Kw [x,b] w W/\W.cell? (x,0)=some (.slice (some (b,0)) l.length l.length)/\W.cell? (w,0)=some ↑fk/\W.cell? (w,1)=some ↑j/\W.cell? (w,2)=some ↑fa/\W.cell? (w,3)=some (.slice Ad fd.length cd)):=af λW hW=>by
    have hX2:=hX.below hW hX.lt;exact⟨H.below hW,kp0.below hW,(H.below hW).blk.cell 0 rfl,hX2.cell 0 rfl,hX2.cell 1 rfl,hX2.cell 2 rfl,hX2.cell 3 rfl⟩
   unfold ftV at hC;simp only at hC;have hS:=af (show kS ⟨fk,j,fa,fd⟩ (l.map Prod.snd)=(l.map Prod.snd).set j (s.strike ⟨fk,j,fa,fd⟩) by unfold kS;simp only;rw[ai h4];simp only[aQ];rw[hk2]);have e4:∀i:Nat,decide (fk=4/\(j:Int)=i)=false:=λi=>by simp[h4]
   simp only[h4,false_and,decide_false,gX,dB]
   go_enter Tryz.func102,Tryz.ntmps102
   go_wp2_with fail;generalize(w.alloc (.cells #[↑fk,↑j,↑fa,.slice Ad fd.length cd] 56))=w0 at *;have HB:Hid (∀n,Below w0 w0 (w0.drewN n)):=af λn=>aC (ah _ _) n;clear h H hX hb0 kp0 hd hd1 hsz
   go_quiet (fail)
   clear x0 x1 x2 x3 y0;have hB:=HB.o nq;clear HB;generalize w0.drewN nq=w1 at *;obtain⟨-,-,y0,x0,x1,x2,x3⟩:=HN.o w1 hB;go_wp2_with fail
   go_region_with (first
    |(go_at_call 149;refine(hC w1.drew hB.drew).o.mono ?_;rintro e w2 ⟨u,rfl,hs2,hO2⟩)
    |fail)
   all_goals
    obtain⟨H2,K2,-⟩:=HN.o w1.drew hB.drew;have H3:=af (H2.only hO2 hs2 (by simp));have K3:=af (K2.trans (Kw.only hO2 (by simp)));clear H2 K2 hs2 hO2 hC HN;go_wp2;exact aD (ax (by rfl) _ _ _) rfl ⟨rfl,_,by simp,H3.o,K3.o⟩
  ·have q1:decide ((j:Int)<(l.length:Nat))=false:=by simp;omega
   have hk2:(l.map Prod.snd)[j]?=none:=by simp;omega
   rw[hk2];simp only[h4,false_and,decide_false,gX,dB];have HN:Hid (∀n,XAt ((w.alloc (.cells #[↑fk,↑j,↑fa,.slice Ad fd.length cd] 56)).drewN n) P x b l c d/\Kw [x,b] w ((w.alloc (.cells #[↑fk,↑j,↑fa,.slice Ad fd.length cd] 56)).drewN n)):=af λn=>⟨H.drewN n,kp0.below (aC (ah _ _) n)⟩
   go_enter Tryz.func102,Tryz.ntmps102
   go_wp2_with fail
   go_quiet (fail)
   all_goals
    go_wp2;exact aD (ax (by rfl) _ _ _) rfl ⟨rfl,l,rfl,(HN.o _).1,(HN.o _).2⟩
end
section
set_option maxRecDepth 100000
set_option maxHeartbeats 2000000
open Go.RowKit
def SRt(G:Nat->Prop)(F:List Nat)(W:World)(g:Nat)(s:MS):Prop:=(∃V,Blk W g (stc V s.a s.g) 167/\∀i,i<8->jr G F W (V i) (s.d i))/\s.ok
section
variable {G:Nat->Prop}{F:List Nat}{W W':World}{g g':Nat}{s s':MS}
theorem SRt.lt(h:SRt G F W g s):g<W.heap.size:=by
 obtain⟨⟨V,hB,-⟩,-⟩:=h;exact hB.lt
theorem SRt.below(h:SRt G F W g s)(k:Below W W W'):SRt G F W' g s:=by
 obtain⟨⟨V,hB,hD⟩,hk⟩:=h;exact⟨⟨V,hB.below k hB.lt,λi hi=>(hD i hi).keep (ku k)⟩,hk⟩
theorem SRt.alike(h:SRt G F W g s)(hd:∀i,i<8->s.d i=s'.d i)(ha:∀i,i<8->s.a i=s'.a i)(hg:∀i,i<8->s.g i=s'.g i):SRt G F W g s':=by
 obtain⟨⟨V,hB,hD⟩,hk⟩:=h;refine⟨⟨V,hB.eq (En (λ_ _=>rfl) ha hg),λi hi=>hd i hi▸hD i hi⟩,⟨λi hi=>hd i hi▸hk.len i hi,λi hi=>hd i hi▸hk.byt i hi,λi hi=>ha i hi▸hk.lo i hi,λi hi=>ha i hi▸hk.hi i hi⟩⟩
theorem SRt.cd(h:SRt G F W g s){i:Nat}(hi:i<8):∃v,W.cell? (g,i*3)=some v/\jr G F W v (s.d i):=by
 obtain⟨⟨V,hB,hD⟩,-⟩:=h;exact⟨V i,hB.cell _ (Eo _ _ _ hi),hD i hi⟩
theorem SRt.cs(h:SRt G F W g s){i:Nat}(hi:i<8):∃A c,W.cell? (g,i*3)=some (.slice A (s.d i).length c)/\jr G F W (.slice A (s.d i).length c) (s.d i):=by
 obtain⟨v,h1,h2⟩:=h.cd hi;obtain⟨A,c,rfl,-⟩:=h2.1.1.at_;exact⟨A,c,h1,h2⟩
theorem SRt.ca(h:SRt G F W g s){i:Nat}(hi:i<8):W.cell? (g,i*3+1)=some ↑(s.a i):=by
 obtain⟨⟨V,hB,hD⟩,-⟩:=h;exact hB.cell _ (Ep _ _ _ hi)
theorem SRt.cg(h:SRt G F W g s){i:Nat}(hi:i<8):W.cell? (g,i*3+2)=some ↑(s.g i):=by
 obtain⟨⟨V,hB,hD⟩,-⟩:=h;exact hB.cell _ (Er _ _ _ hi)
theorem SRt.frozen(h:SRt G F W g s)(o:Nat):W.frozen? (g,o)=false:=by
 obtain⟨⟨V,hB,hD⟩,-⟩:=h;exact hB.frozen _
abbrev ij:=@SRt.frozen
theorem SRt.OP{F':List Nat}(h:SRt G F W g s)(hs:∀i,i<8->s.d i=[]):SRt G F' W g s:=by
 obtain⟨⟨V,hB,hD⟩,hk⟩:=h;exact⟨⟨V,hB,λi hi=>⟨⟨(hD i hi).1.1,λ_ _ hl=>absurd (hs i hi) hl⟩,(hD i hi).2⟩⟩,hk⟩
theorem SRt.drew(h:SRt G F W g s):SRt G F W.drew g s:=h.below (ah _ W).drew
theorem SRt.rG(h:SRt G F W g s)(hg:g∈F){i:Nat}(hi:i<8){v:Value}{l:List Int}(hv:jr G F W v l)(hl:l.length<=8)(hb:iK l):SRt G F (W.setCell (g,i*3) v) g {s with d:=upd s.d i l}:=by
 obtain⟨⟨V,hB,hD⟩,hk⟩:=h;have hkp:Kp F W (W.setCell (g,i*3) v):=((aE g W).set _ _).kp hg;refine⟨⟨upd V i v,(hB.set _ _).eq (Es _ _ _ hi _),λj hj=>?_⟩,⟨λj hj=>?_,λj hj=>?_,hk.lo,hk.hi⟩⟩<;>simp only[upd]<;>split
 ·exact hv.keep hkp
 ·exact(hD j hj).keep hkp
 ·exact hl
 ·exact hk.len j hj
 ·exact hb
 ·exact hk.byt j hj
theorem SRt.oW(h:SRt G F W g s)(hg:g∈F){i:Nat}(hi:i<8)(a:Int)(hl:-1<=a)(hh:a<=65535):SRt G F (W.setCell (g,i*3+1) ↑a) g {s with a:=upd s.a i a}:=by
 obtain⟨⟨V,hB,hD⟩,hk⟩:=h;have hkp:Kp F W (W.setCell (g,i*3+1) ↑a):=((aE g W).set _ _).kp hg;refine⟨⟨V,(hB.set _ _).eq (Et _ _ _ hi _),λj hj=>(hD j hj).keep hkp⟩,⟨hk.len,hk.byt,λj hj=>?_,λj hj=>?_⟩⟩<;>simp only[upd]<;>split
 ·exact hl
 ·exact hk.lo j hj
 ·exact hh
 ·exact hk.hi j hj
theorem SRt.rH(h:SRt G F W g s)(hg:g∈F){i:Nat}(hi:i<8)(b:Bool):SRt G F (W.setCell (g,i*3+2) ↑b) g {s with g:=upd s.g i b}:=by
 obtain⟨⟨V,hB,hD⟩,hk⟩:=h;have hkp:Kp F W (W.setCell (g,i*3+2) ↑b):=((aE g W).set _ _).kp hg;exact⟨⟨V,(hB.set _ _).eq (Eu _ _ _ hi _),λj hj=>(hD j hj).keep hkp⟩,⟨hk.len,hk.byt,hk.lo,hk.hi⟩⟩
end
theorem SRt.mono{G G':Nat->Prop}{F:List Nat}{W:World}{g:Nat}{s:MS}(h:SRt G F W g s)(hG:∀b,G b->G' b):SRt G' F W g s:=by
 obtain⟨⟨V,hB,hD⟩,hk⟩:=h;exact⟨⟨V,hB,λi hi=>⟨(hD i hi).1,λh0 b hb=>hG b ((hD i hi).2 h0 b hb)⟩⟩,hk⟩
theorem uE(G:Nat->Prop)(F:List Nat)(g:Nat)(s:MS)(n:Int)(b:Bool)(w:World)(h:SRt G F w g s)(hg:g∈F):
  Calls Tryz.prog 132 #[↑(g,0),↑n,↑b] w λe w'=>e=.returned (.tuple #[])/\SRt G F w' g (s.member n b)/\Only g w w':=by
 have HN:=λW=>af (xO n W);by_cases hn:isN n
 ·rw[av hn]at HN
  rw[show s.member n b={s with g:=upd s.g n.toNat b} by unfold MS.member;rw[au hn]];unfold isN at hn;obtain⟨i,rfl⟩:∃i:Nat,n=i:=⟨n.toNat,by omega⟩;have hi:i<8:=by omega
  rw[aQ];have c:=SRt.cg h hi;have f:=ij h (i*3+2);have H:=af (SRt.rH h hg hi b);clear h
  go_enter Tryz.func132,Tryz.ntmps132
  go_wp2_with fail;refine(HN _).o.mono ?_;rintro _ _ ⟨rfl,rfl⟩;go_wp2;exact aD (ax (by rfl) _ _ _) rfl ⟨rfl,H.o,(aE g _).set _ _⟩
 ·rw[aj hn]at HN
  rw[show s.member n b=s by unfold MS.member;rw[ai hn]]
  go_enter Tryz.func132,Tryz.ntmps132
  go_wp2_with fail;refine(HN _).o.mono ?_;rintro _ _ ⟨rfl,rfl⟩;go_wp2;exact aD (ax (by rfl) _ _ _) rfl ⟨rfl,h,aE _ _⟩
theorem DV(G:Nat->Prop)(F:List Nat)(g:Nat)(s:MS)(w:World)(h:SRt G F w g s)(hg:g∈F):
  Calls Tryz.prog 92 #[↑(g,0)] w λe w'=>e=.returned (.tuple #[])/\SRt G F w' g MS.new/\Only g w w':=by
 go_enter Tryz.func92,Tryz.ntmps92
 go_wp2_with fail
 go_loopw [2] (λi wr=>∃k:Nat,k<=8/\i=↑k/\SRt G F wr g (s.clr k)/\Only g w wr) (λi _=>8-(intOf i).toNat)
 case atStart=>exact⟨0,by omega,rfl,SRt.alike h (λ_ _=>rfl) (λ_ _=>rfl) (λ_ _=>rfl),aE _ _⟩
 case round=>
  clear h;obtain⟨k,hk,rfl,h,o⟩:=hrel;by_cases hlt:k<8
  ·have r1:decide ((k:Int)<8)=true:=av (by omega)
   obtain⟨v,c0,-⟩:=SRt.cd h hlt;have c1:=SRt.ca h hlt;have c2:=SRt.cg h hlt;have f0:=ij h (k*3);have f1:=ij h (k*3+1);have f2:=ij h (k*3+2);have H:=af (SRt.alike (SRt.rH (SRt.oW (SRt.rG h hg hlt jr.nil (by simp) (λx hx=>by simp at hx)) hg hlt (-1) (by omega) (by omega)) hg hlt false) (s':=s.clr (k+1)) (λi _=>(qm s k).1 i) (λi _=>(qm s k).2.1 i) (λi _=>(qm s k).2.2 i));clear h;go_wp2;go_roundw
   case rel=>exact⟨k+1,by omega,by go_num,H.o,((o.set _ _).set _ _).set _ _⟩
   case measure=>simp[intOf];omega
  ·obtain rfl:k=8:=by omega
   go_wp2;exact aD (ax (by rfl) _ _ _) rfl ⟨rfl,SRt.alike h (λi hi=>by simp[MS.clr,MS.new,hi]) (λi hi=>by simp[MS.clr,MS.new,hi]) (λi hi=>by simp[MS.clr,MS.new,hi]),o⟩
theorem Ec(G:Nat->Prop)(F:List Nat)(g:Nat)(s:MS)(w:World)(h:SRt G F w g s)(hg:g∈F):
  Calls Tryz.prog 183 #[↑(g,0)] w λe w'=>e=.returned (.tuple #[])/\SRt G F w' g s.age/\Only g w w':=by
 have hok:=h.2
 go_enter Tryz.func183,Tryz.ntmps183
 go_wp2_with fail
 go_loopw [2] (λi wr=>∃k:Nat,k<=8/\i=↑k/\SRt G F wr g (s.agd k)/\Only g w wr) (λi _=>8-(intOf i).toNat)
 case atStart=>exact⟨0,by omega,rfl,SRt.alike h (λ_ _=>rfl) (λ_ _=>rfl) (λ_ _=>rfl),aE _ _⟩
 case round=>
  clear h;obtain⟨k,hk,rfl,h,o⟩:=hrel;by_cases hlt:k<8
  ·have r1:decide ((k:Int)<8)=true:=av (by omega)
   have c1:=SRt.ca h hlt;have f1:=ij h (k*3+1);have e1:(s.agd k).a k=s.a k:=by simp[MS.agd]
   rw[e1]at c1;have l1:=hok.lo k hlt;have l2:=hok.hi k hlt;obtain⟨p1,p2⟩:=Ev l1 l2;have H:=af (SRt.alike (SRt.oW h hg hlt (older (s.a k)) p1 p2) (s':=s.agd (k+1)) (λi _=>rfl) (λi _=>Ew s k i) (λi _=>rfl));by_cases hpos:0<=s.a k
   ·have q2:decide ((0:Int)<=s.a k)=true:=av hpos
    have e2:older (s.a k)=if 65535<s.a k+1 then 65535 else s.a k+1:=by unfold older;rw[au hpos];split<;>omega
    rw[e2]at H;clear h e1 e2 p1 p2;generalize s.a k=x at *;go_wp2_with fail
    go_region
    all_goals
     go_wp2;go_roundw
     case rel=>exact⟨k+1,by omega,by go_num,SRt.drew H.o,(o.set _ _).drew⟩
     case measure=>simp[intOf];omega
   ·have q2:decide ((0:Int)<=s.a k)=false:=aj hpos
    have e2:s.agd (k+1)=s.agd k:=by
     unfold MS.agd
     congr 1
     funext i
     rcases nX i k with h|h|h
     ·rw[au (by omega),au (by omega)]
     ·subst h;rw[au (by omega),ai (by omega)];unfold older;rw[ai hpos]
     ·rw[ai (by omega),ai (by omega)]
    clear H e1 p1 p2;go_wp2;go_roundw
    case rel=>exact⟨k+1,by omega,by go_num,e2▸h,o⟩
    case measure=>simp[intOf];omega
  ·obtain rfl:k=8:=by omega
   go_wp2;exact aD (ax (by rfl) _ _ _) rfl ⟨rfl,SRt.alike h (λi hi=>rfl) (λi hi=>by simp[MS.agd,MS.age,hi]) (λi hi=>rfl),o⟩
theorem Og(G:Nat->Prop)(w:World):
  Calls Tryz.prog 65 #[] w λe w'=>∃g,e=.returned (.pointer (some ⟨g,0,none⟩))/\w.heap.size<=g/\(∀F,SRt G F w' g MS.new)/\Below w w w':=by
 have H0:Hid (SRt G [w.heap.size] (w.alloc (.cells (stc (λ_=>.slice none 0 0) (λ_=>0) (λ_=>false)) 167)) w ⟨λ_=>[],λ_=>0,λ_=>false⟩):=af ⟨⟨_,aJ _ _ rfl _ _,λ_ _=>jr.nil⟩,⟨λ_ _=>by simp,λ_ _ x hx=>by simp at hx,λ_ _=>by simp,λ_ _=>by simp⟩⟩;have HC:=λW(h:SRt G [w.heap.size] W w ⟨λ_=>[],λ_=>0,λ_=>false⟩)=>af (DV G [w.heap.size] w _ W h (by simp));have hb:=(ah w w).alloc lr (.cells (stc (λ_=>.slice none 0 0) (λ_=>0) (λ_=>false)) 167);have hz:(w.alloc (.cells (stc (λ_=>.slice none 0 0) (λ_=>0) (λ_=>false)) 167)).heap.size=w.heap.size+1:=by simp
 unfold stc at H0 hb hz
 go_enter Tryz.func65,Tryz.ntmps65
 go_wp2_with fail;refine(HC _ H0.o).o.mono ?_;rintro _ w2 ⟨rfl,h2,o2⟩;have hb2:=hb.trans (o2.below lr (by rw[hz];omega));go_wp2;go_ret;exact⟨_,rfl,aR _,λF=>SRt.OP h2 (λi _=>rfl),hb2⟩
theorem D9(G:Nat->Prop)(F:List Nat)(g:Nat)(s:MS)(n:Int)(w:World)(h:SRt G F w g s):
  Calls Tryz.prog 47 #[↑(g,0),↑n] w λe w'=>∃v,e=.returned (.agg #[v,↑(s.ga n),↑(s.gg n)])/\iI w' w' v (s.gd n)/\Below w w w':=by
 have HN:=λW=>af (xO n W);by_cases hn:isN n
 ·rw[av hn]at HN
  rw[show s.ga n=s.a n.toNat by unfold MS.ga;rw[au hn],show s.gg n=s.g n.toNat by unfold MS.gg;rw[au hn],show s.gd n=s.d n.toNat by unfold MS.gd;rw[au hn]];unfold isN at hn;obtain⟨i,rfl⟩:∃i:Nat,n=i:=⟨n.toNat,by omega⟩;have hi:i<8:=by omega
  rw[aQ];have hgl:=SRt.lt h;obtain⟨A,c,c0,hD⟩:=SRt.cs h hi;have c1:=SRt.ca h hi;have c2:=SRt.cg h hi;have HD:=af hD;clear hD;clear h
  go_enter Tryz.func47,Tryz.ntmps47
  go_wp2_with fail;refine(HN _).o.mono ?_;rintro _ w1 ⟨rfl,rfl⟩;go_wp2;refine aK (v:=.agg #[.slice A (s.d i).length c,↑(s.a i),↑(s.g i)]) ?_ rfl ?_
  ·rw[j4 rfl]
   go_simp
  ·refine⟨_,rfl,Ey HD.o.1 ?_⟩
   (repeat' (first|exact ah _ _|exact aR _|(with_reducible refine aU ?_ ?_ _)|(with_reducible refine bE ?_ lr _)|(with_reducible refine aC ?_ _)|(with_reducible refine bL ?_)))
 ·rw[aj hn]at HN
  rw[show s.ga n=-1 by unfold MS.ga;rw[ai hn],show s.gg n=false by unfold MS.gg;rw[ai hn],show s.gd n=[] by unfold MS.gd;rw[ai hn]];clear h
  go_enter Tryz.func47,Tryz.ntmps47
  go_wp2_with fail;refine(HN _).o.mono ?_;rintro _ w1 ⟨rfl,rfl⟩;go_wp2;refine aK (v:=.agg #[.slice none 0 0,↑(-1:Int),↑false]) ?_ rfl ?_
  ·rw[j4 rfl]
   go_simp
  ·refine⟨_,rfl,Ey (F:=[]) Dat.nil ?_⟩
   (repeat' (first|exact ah _ _|exact aR _|(with_reducible refine aU ?_ ?_ _)|(with_reducible refine bE ?_ lr _)|(with_reducible refine aC ?_ _)|(with_reducible refine bL ?_)))
theorem xL(G:Nat->Prop)(F:List Nat)(g:Nat)(s:MS)(n:Int)(v:Value)(l:List Int)(B:Nat)(w:World)(h:SRt G F w g s)(hg:g∈F)(hF:∀f,f∈F->f<w.heap.size)(hGn:∀b,w.heap.size<=b->G b)(hv:iI w B v l)(hl:iK l):
  Calls Tryz.prog 129 #[↑(g,0),↑n,v] w λe w'=>e=.returned (.tuple #[])/\SRt G F w' g (s.put n l)/\Only g w w':=by
 have HN:=λW=>af (xO n W);obtain⟨A,c,rfl,v1,v2,v3,v4⟩:=hv.at_;unfold maxLen at v2;by_cases hn:isN n
 case neg=>
  rw[aj hn]at HN;rw[show s.put n l=s by unfold MS.put;rw[ai (λh=>hn h.1)]];clear v3 v4
  go_enter Tryz.func129,Tryz.ntmps129
  go_wp2_with fail;refine(HN _).o.mono ?_;rintro _ _ ⟨rfl,rfl⟩;go_wp2;exact aD (ax (by rfl) _ _ _) rfl ⟨rfl,h,aE _ _⟩
 rw[av hn]at HN;by_cases h8:l.length<=8
 case neg=>
  have q8:decide (((l.length:Nat):Int)<=8)=false:=aj (by omega);rw[show s.put n l=s by unfold MS.put;rw[ai (λh=>h8 h.2)]];clear v3 v4
  go_enter Tryz.func129,Tryz.ntmps129
  go_wp2_with fail;refine(HN _).o.mono ?_;rintro _ _ ⟨rfl,rfl⟩;go_wp2;exact aD (ax (by rfl) _ _ _) rfl ⟨rfl,h,aE _ _⟩
 have q8:decide (((l.length:Nat):Int)<=8)=true:=av (by omega);rw[show s.put n l=⟨upd s.d n.toNat l,upd s.a n.toNat 0,s.g⟩ by unfold MS.put;rw[au ⟨hn,h8⟩]];unfold isN at hn;obtain⟨i,rfl⟩:∃i:Nat,n=i:=⟨n.toNat,by omega⟩;have hi:i<8:=by omega
 rw[aQ];have hv:=af hv;clear v3 v4
 go_enter Tryz.func129,Tryz.ntmps129
 go_wp2_with fail;refine(HN _).o.mono ?_;rintro _ w1 ⟨rfl,rfl⟩;go_wp2_with fail
 go_region_law (first
  |((refine Jp _ rfl (.tmp 17) (.tmp 18) 41 rfl w1 kx Tryz.underlying41 (.slice (some (w1,0)) 0 0) [] ?_ rfl B (.slice A l.length c) l rfl ?_ ?_ ?_ ?_);(focus (exact(mL _ _ rfl _ _ lr rfl).drew));(focus (exact(hv.o.alloc _).drew));(focus (simp));(focus (simp;omega));intro v2 w2 ho2 hx2;(have hb2:=(((ah w1 w1).alloc lr (.cells #[] 5)).drew).trans (hx2.toBelow (B:=w1.heap.size) (by simp) (λj hj=>by cases hj;exact aR _)));(have hD2:jr G F w2 v2 l:=⟨iJ.dat (F:=F) ho2 hF,λ_ b hb=>hGn b (ho2.lt b hb).1⟩);(obtain⟨A2,d2,rfl,-⟩:=hD2.1.1.at_);(have hE2:=af hD2);clear hD2;(have h2:=SRt.below h hb2);(have cd2:=SRt.cd h2 hi);(have ca2:=SRt.ca h2 hi);(have f2:=ij h2 (i*3));(have f2':=ij h2 (i*3+1));(obtain⟨u2,cu2,-⟩:=cd2);(have o2:=af (iQ g hb2));(have h2:=af h2);clear hb2 hx2 ho2))
 all_goals exact aD (ax (by rfl) _ _ _) rfl ⟨rfl,SRt.oW (SRt.rG h2.o hg hi hE2.o h8 hl) hg hi 0 (by omega) (by omega),(o2.o.set _ _).set _ _⟩
end
end Go.Proofs.YteadkhigkmijiaaGreat
