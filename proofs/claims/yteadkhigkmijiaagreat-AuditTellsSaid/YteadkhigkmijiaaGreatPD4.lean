/- Texts CrcC, FrA, FrB, FrD, BlkA, Ints, ClA, ClB in one. -/
import Derived.Deep.RegionHeld3
import Derived.Deep.RegionLaw
import Derived.RegionTactic
import Derived.Deep.CutBlock
import Derived.BigRegion
import Derived.Laws.AppendOwnNone
import Derived.SizedLaws
import Derived.ProofKit
import Derived.OpenShut
import Derived.ShutString
import Derived.ChangeOld
import Derived.Deep.Slices
import Derived.Deep.Fields
import Derived.Deep.AppendLies
import Derived.Maps.Range
import Derived.Lib.SmallJoins
import Derived.IntWalk
import Derived.Test.YteadkhigkmijiaaGreatPD1
import Derived.Test.YteadkhigkmijiaaGreatPD2
import Derived.Test.YteadkhigkmijiaaGreatPD3
set_option linter.all false
namespace Go.Proofs.YteadkhigkmijiaaGreat
section
open Go.ChangeShapes Go.WideShapes Go.ChangeAt Go.RowKit
end
section
open Go.RowKit
open Fr (St F)
def stV(s:St):Value:=.agg #[↑s.r,↑s.s,↑s.m]
def frV(f:F)(v:Value):Value:=.agg #[↑f.k,↑f.st.r,↑f.st.s,↑f.st.m,v]
theorem vD(s:St)(w:World):Calls Tryz.prog 213 #[stV s] w λe w'=>e=.returned ↑s.may/\Below w w w':=by
 obtain⟨r,s,m⟩:=s;unfold stV
 go_enter Tryz.func213,Tryz.ntmps213
 go_wp2
 all_goals
  go_ret;exact⟨by simp[St.may, *]<;>omega,(ah _ _).alloc lr _⟩
theorem AZ(s:St)(hs:s.may=true)(w:World):
  Calls Tryz.prog 207 #[stV s] w λe w'=>∃v,e=.returned v/\iJ w' w v s.bytes/\Below w w w':=by
 obtain⟨⟨h1,h2⟩,⟨h3,h4⟩,h5,h6⟩:=s.mM.1 hs;obtain⟨r,s,m⟩:=s;simp only at h1 h2 h3 h4 h5 h6;unfold stV;clear hs
 go_enter Tryz.func207,Tryz.ntmps207
 go_wp2;go_ret;exact⟨_,rfl,pJ _ _ rfl _ [r / 256,r%256,s,m] rfl _ (by simp) (by simp[maxLen]) _ _ _ (by simp) rfl rfl,((ah _ _).alloc lr _).alloc (by simp) _⟩
theorem jE{W w1:World}{B:Nat}(hb:Below B W w1):∀b o,b<B->w1.cell? ⟨b,o,none⟩=W.cell? ⟨b,o,none⟩:=λb o h=>hb.cell (p:=⟨b,o,none⟩) h
structure Jx(w w0:World)(x0 x1 x2 x3 x4:Value):Prop where
 size:w0.heap.size=w.heap.size+1
 below:Below w w w0
 cell:∀W,Below w0 w0 W->w.heap.size<W.heap.size/\W.cell? (w,0)=some x0/\W.cell? (w,1)=some x1/\W.cell? (w,2)=some x2/\W.cell? (w,3)=some x3/\W.cell? (w,4)=some x4
theorem sJ(w:World)(x0 x1 x2 x3 x4:Value)(t:TypeId):Jx w (w.alloc (.cells #[x0,x1,x2,x3,x4] t)) x0 x1 x2 x3 x4:=by
 refine⟨by simp,(ah _ _).alloc lr _,λW hb=>?_⟩;have hz:=hb.size;have hc:=jE hb;simp only[gy]at hz;refine⟨by omega,?_,?_,?_,?_,?_⟩<;>(rw[hc _ _ (by simp),aZ _ _ _ _ rfl];rfl)
theorem Jy(f:F)(v:Value)(w:World)(B:Nat)(hv:iI w B v f.d):
  Calls Tryz.prog 205 #[frV f v] w λe w'=>e=.returned ↑f.is/\Below w w w':=by
 obtain⟨A,c,rfl,h1,h2,-,-⟩:=hv.at_;unfold maxLen at h2;obtain⟨k,⟨r,s,m⟩,d⟩:=f;simp only at h1;have hm:=λW=>vD ⟨r,s,m⟩ W;have hr:∀b:Bool,b=(⟨r,s,m⟩:St).may->F.is ⟨k,⟨r,s,m⟩,d⟩=(decide (1<=k)&&decide (k<=3)&&b&&decide (d.length<=8)):=λb hb=>by rw[hb];rfl
 generalize(⟨r,s,m⟩:St).may=b at *;rw[hr b rfl];clear hr;unfold frV;generalize d.length=n at *;by_cases h0:1<=k<;>by_cases h3:k<=3<;>cases b
 all_goals try (exfalso;omega)
 all_goals
  go_enter Tryz.func205,Tryz.ntmps205
  go_wp2_with (go_at_call 213;refine(hm _).mono ?_;rintro e w1 ⟨rfl,hb⟩;have hc:=jE hb;have hb:=((ah w w).alloc lr _).trans (hb.mono (by simp)));go_ret
  first
   |exact⟨by simp[*]<;>omega,hb⟩
   |exact⟨by simp[*]<;>omega,(ah _ _).alloc lr _⟩
theorem A9(s:St)(w:World):Calls Tryz.prog 206 #[stV s] w λe w'=>e=.returned ↑(s.seed:Nat)/\Below w w w':=by
 have hm:=λW=>vD s W;have hst:=λh W=>AZ s h W;have hsd:s.may=true->s.seed=Fr.iM 32767 s.bytes:=λh=>by rw[St.seed,au h]
 have oG:s.may=false->s.seed=0:=λh=>by rw[St.seed,ai (by rw[h];decide)]
 have hok:s.may=true->∀k,0<=s.bytes.getD k 0/\s.bytes.getD k 0<256:=λh k=>(St.pK h).getD k;have hsum:=λA c W B(h:iY W B A s.bytes.length (bv s.bytes))hz=>zC A s.bytes.length c B (λk=>s.bytes.getD k 0) 32767 W h hz (by simp[St.bytes,maxLen]);have h32:Cr.sd 32767=32767:=by decide
 simp only[Fr.sK,h32]at hsum
 cases hb:s.may
 ·rw[hb]at hm
  rw[oG hb];clear hst hsd oG hok hsum h32 hb;have hm:=λW=>af (hm W);unfold stV at hm ⊢
  go_enter Tryz.func206,Tryz.ntmps206
  go_wp2_with (go_at_call 213;refine(hm _).o.mono ?_;rintro e w1 ⟨rfl,hb⟩;have hb:=((ah w w).alloc lr _).trans (hb.mono (by simp)));go_ret;exact⟨rfl,hb⟩
 ·rw[hb]at hm
  have hm:=λW=>af (hm W);have hst:=λW=>af (hst hb W);have hok:=af (hok hb);have hsum:=λA c W B h hz=>af (hsum A c W B h hz);rw[hsd hb];generalize s.bytes=l at *;clear hsd oG h32 hb;unfold stV at hm hst ⊢
  go_enter Tryz.func206,Tryz.ntmps206
  go_wp2_with (go_at_call 213;refine(hm _).o.mono ?_;rintro e w1 ⟨rfl,hb⟩;have hc:=jE hb;have hz:=hb.size;simp only[gy]at hz;have hb:=((ah w w).alloc lr _).trans (hb.mono (by simp)));clear hm;refine(hst _).o.mono ?_;rintro e w2 ⟨v,rfl,ho,hb2⟩;have hb:=hb.trans (hb2.mono hb.size);obtain⟨A,c,rfl,-,-,g,-⟩:=ho.sees.at_;clear ho hst hc hb2;go_wp2_with fail;refine(hsum A c w2 _ g (λk _=>hok.o k)).o.mono ?_;rintro e w3 ⟨rfl,rfl⟩;go_wp2;go_ret;exact⟨rfl,hb⟩
theorem vE(v:Value)(l:List Int)(n:Nat)(w:World)(hv:iI w w v l)(hl:iK l)(hlen:l.length<=100000)(hn:n<32768):
  Calls Tryz.prog 208 #[v,↑n] w λe w'=>∃v',e=.returned v'/\iJ w' w v' (l++Fr.two (Fr.iM n l))/\Below w w w':=by
 have hS:=Fr.pL hn l;obtain⟨A,c,hvA,h1,h2,h3,h4⟩:=hv.at_;have hsum:=zC A l.length c w (λk=>l.getD k 0) n w h3 (λk _=>hl.getD k) (by unfold maxLen;omega);rw[Fr.sK,Cr.zK hn]at hsum;have hsum:=af hsum;have hv:=af hv;generalize hSS:Fr.iM n l=S at *;have q1:S<=32767:=by omega
 clear h4 h3 hSS hS hl;subst hvA
 go_enter Tryz.func208,Tryz.ntmps208
 go_wp2_with fail;refine hsum.o.mono ?_;rintro e w1 ⟨rfl,rfl⟩;clear hsum;go_wp2_with (at_builtin;refine lA _ rfl (.tmp 9) (.tmp 10) 41 rfl w kx Tryz.underlying41 _ [] w (mL w _ rfl _ _ lr rfl) ((ah _ _).alloc lr _) rfl _ _ l rfl (hv.o.below ((ah _ _).alloc lr _)) (by simp) (by simp only[fw];omega) ?_);intro v' w1 ho hb;go_wp2_with (at_builtin;go_loud (refine lA _ rfl (.tmp 11) (.tmp 17) 41 rfl w kx Tryz.underlying41 v' l w (ho.alloc _) (hb.alloc hb.size _) rfl _ _ (Fr.two S) rfl (oH w1 _ _ _ (by simp[Fr.two]) _ (cJ _) (by simp[Fr.two,maxLen]) _ _ _ rfl rfl rfl) (by simp;have:=hb.size;omega) (by simp[Fr.two];omega) ?_));intro v2 w2 ho2 hb2;go_wp2;go_ret;exact⟨_,rfl,ho2,hb2⟩
theorem sL{P:Program}(w:World){ops:Array Oper}{o:Oper}{a:Act}{K:Act->World->Prop}{Q:Exit->Act->World->Prop}{E:Prop}(hgd:o.guard=none)(s x:Operand)(t:TypeId)
  (ho:o.op=.call {callee:=.builtin .append,args:=#[s,x],argTypes:=#[t,t]})
  (B:Nat) (jM:(P.info? 5).map (λi=>(i.zero,i.size,i.bytes))=some (some (.int .u8 0),1,1)) (ht:P.underlying t=some (.slice 5))
  (v:Value) (l:List Int) (W:World) (hown:iJ w B v l) (hbel:Below B W w) (hs:a.eval s=v)
  (Bs:Nat) (u:Value) (m:List Int) (hx:a.eval x=u) (kI:iI w Bs u m)
  (hB:B<=w.heap.size) (hroom:l.length+m.length<=140737488355328)
  (h:∀v' w',iJ w' B v' (l++m)->Below B W w'->w.grownBy w' v.ownBlock->K (a.put o.dst v') w'):if Region.wanted o (yielded ops a.tmps)=true then Oper.wp P o a w K Q else E:=by
 have hw:Region.wanted o (yielded ops a.tmps)=true:=by simp[Region.wanted,hgd]
 rw[au hw];obtain⟨A,c,rfl,-,-,h3,h4⟩:=kI.at_
 cases A with
 |none=>
  obtain⟨hm,rfl⟩:=h4 rfl;have hm':m=[]:=dx.1 hm;subst hm';obtain⟨i0,hi,hz0,hz1,hz2⟩:=fV jM;have hrun:=run_append_owned_none (P:=P) (w:=w) B t o.type 5 i0 1 ht hi v l.length _ hown;unfold Oper.wp;simp only[fw]at hx;simp[execOp,ho,resolve,invoke,builtin,hs,hx,hrun,Result.andThen];refine h v w ?_ hbel (World.grownBy.refl _ _);rw[List.append_nil];exact hown
 |some ad=>
  obtain⟨i0,hi,hz0,hz1,hz2⟩:=fV jM;refine wp_append_own _ s x t ho B 5 i0 (.int .u8 0) 1 1 ht hi hz0 hz1 hz2 rfl (by omega) v l.length _ hs hown ad m.length c ((List.range m.length).map (bv m)) hx (by simp) ?_ ?_ (by unfold maxLen;omega) (by omega) hB ?_
  ·intro j u hj
   rw[dF]at hj;by_cases hjm:j<m.length
   ·rw[bW hjm]at hj
    simp at hj;subst hj;obtain⟨b,off,he,_,hc⟩:=h3 (by omega);simp only[bB]at he;subst he;have:=hc j hjm;by_cases h1:j=0
    ·subst h1;simpa[Addr.add]using this
    ·simpa[Addr.add,h1]using this
   ·rw[aY (by simpa using hjm)]at hj
    cases hj
  ·intro u hu
   obtain⟨k,hk,rfl⟩:=fC.1 hu
   rfl
  ·intro v' w' h1 h2 h3
   refine h v' w' ?_ (hbel.grown h2 hB (λg h=>(dL hown g h).1)) h2;unfold iJ iP;rw[bJ];have e:(List.range (l.length+m.length)).map (bv (l++m))=(List.range l.length).map (bv l)++(List.range m.length).map (bv m):=by
    rw[<-rV];exact dK λk _=>(vA l m k).symm
   rw[e];exact h1
def kJ(f:F):List Int:=if f.is then f.bytes else []
def mO(f:F):Int:=if f.is then 0 else 1
def Enc(w:World)(f:F)(e:Ending)(w':World):Prop:=∃v,e=.returned (.tuple #[v,↑(mO f)])/\iJ w' w v (kJ f)/\Below w w w'
def Dec(w:World)(l:List Int)(own:St)(e:Ending)(w':World):Prop:=∃v,e=.returned (.tuple #[frV (Fr.res l own) v,↑(Fr.err l own)])/\iJ w' w v (Fr.res l own).d/\Below w w w'
theorem Ba{l:List Int}{own:St}(h:Fr.ji l own=false){w w':World}{e:Ending}(he:e=.returned (.tuple #[.agg #[↑(0:Int),↑(0:Int),↑(0:Int),↑(0:Int),.slice none 0 0],↑(2:Int)]))(hb:Below w w w'):Dec w l own e w':=by
 have h1:Fr.res l own=Fr.zero:=by simp[Fr.res,h]
 have h2:Fr.err l own=2:=by simp[Fr.err,h]
 unfold Dec;rw[h1,h2];exact⟨.slice none 0 0,he,bR,hb⟩
theorem Bb{l:List Int}{own:St}(h:Fr.ji l own=true)(hs:Fr.jT l own=false){w w':World}{e:Ending}(he:e=.returned (.tuple #[.agg #[↑(0:Int),↑(0:Int),↑(0:Int),↑(0:Int),.slice none 0 0],↑(3:Int)]))(hb:Below w w w'):Dec w l own e w':=by
 have h1:Fr.res l own=Fr.zero:=by simp[Fr.res,h,hs]
 have h2:Fr.err l own=3:=by simp[Fr.err,h,hs]
 unfold Dec;rw[h1,h2];exact⟨.slice none 0 0,he,bR,hb⟩
theorem Bc{l:List Int}{own:St}(h:Fr.ji l own=true)(hs:Fr.jT l own=true){w w':World}{e:Ending}{v:Value}(he:e=.returned (.tuple #[frV (Fr.rd l own) v,↑(0:Int)]))(ho:iJ w' w v (Fr.rd l own).d)(hb:Below w w w'):Dec w l own e w':=by
 have h1:Fr.res l own=Fr.rd l own:=by simp[Fr.res,h,hs]
 have h2:Fr.err l own=0:=by simp[Fr.err,h,hs]
 unfold Dec;rw[h1,h2];exact⟨v,he,ho,hb⟩
theorem Bf(l:List Int)(own:St):(Fr.jT l own=true)↔l.take (l.length-2)++Fr.two (Fr.iM (Fr.jI l own) (l.take (l.length-2)))=l:=by
 unfold Fr.jT;rw[fW];constructor
 ·intro h
  rw[h,iB]
 ·intro h
  have h2:l.take (l.length-2)++Fr.two (Fr.iM (Fr.jI l own) (l.take (l.length-2)))=l.take (l.length-2)++l.drop (l.length-2):=by rw[h,iB]
  exact List.append_cancel_left h2
end
section
open Go.RowKit
open Tb (D T)
section
variable {W W':World}{g:Nat}{cs:Array Value}{t:TypeId}
theorem Blk.ext(h:Blk W g cs t){v v':Value}(hx:Ext W W' v v')(hne:v.ownBlock≠some g):Blk W' g cs t:=(hx.grown.block g h.lt (λe=>hne e.symm)).trans h
end
theorem jm.setOther{W:World}{B:Nat}{v:Value}{l:List D}(h:jm W B v l)(p:Addr)(x:Value)(hp:v.ownBlock≠some p.block):jm (W.setCell p x) B v l:=
 cB (row:=some p.block) h ⟨rfl,rfl,rfl,by simp[World.setCell],λk _ hk=>dR W p x k (λe=>hk (by rw[e]))⟩ (.inr hp)
theorem jm.lt{w:World}{B:Nat}{v:Value}{l:List D}(h:jm w B v l):∀j,v.ownBlock=some j->B<=j/\j<w.heap.size:=dL h
end
section
open Go.ChangeShapes Go.WideShapes Go.ChangeAt Go.RowKit
theorem oh:(Tryz.prog.info? 3).map (λi=>(i.zero,i.size,i.bytes))=some (some ↑(0:Int),1,8):=by kernel_rfl
def iv(l:List Int)(k:Nat):Value:=↑(l.getD k 0)
def OwnsI(w:World)(base:Nat)(v:Value)(l:List Int):Prop:=iP w base 3 v l.length (iv l)
structure ja(w:World)(B:Nat)(v:Value)(l:List Int):Prop where
 at_:∃A c,v=.slice A l.length c/\l.length<=c/\c<=maxLen/\iY w B A l.length (iv l)/\(A=none->l.length=0/\c=0)
section
variable {w w':World}{B B' Bs:Nat}{v:Value}{l m:List Int}
theorem OwnsI.sees(h:OwnsI w Bs v l):ja w w v l:=⟨by
 obtain⟨A,c,rfl,h1,h2,h3,h4⟩:=iP.BP h;exact⟨A,c,rfl,h1,h2,h3,h4⟩⟩
theorem ja.below(h:ja w B v l)(hb:Below B w w'):ja w' B v l:=⟨by
 obtain⟨A,c,rfl,h1,h2,h3,h4⟩:=h.at_;exact⟨A,c,rfl,h1,h2,h3.below hb,h4⟩⟩
theorem ja.more(h:ja w B v l)(hB:B<=B'):ja w B' v l:=⟨by
 obtain⟨A,c,rfl,h1,h2,h3,h4⟩:=h.at_;exact⟨A,c,rfl,h1,h2,h3.more hB,h4⟩⟩
theorem ja.nil:ja w B (.slice none 0 0) []:=⟨none,0,rfl,aR _,bH _,iH,λ_=>⟨rfl,rfl⟩⟩
theorem OwnsI.nil:OwnsI w Bs (.slice none 0 0) []:=dX _ _ _ _
theorem OwnsI.below(h:OwnsI w Bs v l)(hb:Below B' w w')(hB:w.heap.size<=B'):OwnsI w' Bs v l:=iP.BQ h hb hB
theorem OwnsI.alloc(h:OwnsI w Bs v l)(o:Obj):OwnsI (w.alloc o) Bs v l:=eH h o
theorem Ka(l m:List Int)(k:Nat):(if k<l.length then iv l k else iv m (k-l.length))=iv (l++m) k:=by
 unfold iv;simp only[ay,fM]
 split<;>rfl
end
theorem tE(w:World)(e:TypeId)(cs:Array Value)(l:List Int)(hl:cs=(l.map (Value.int .i64)).toArray)(B:Nat)(hB:w.heap.size<B)(hm:l.length<=maxLen)(g n c:Nat)(hg:g=w.heap.size)(hn:n=l.length)(hc:c=l.length):
  ja (w.alloc (.cells cs e)) B (.slice (some (g,0)) n c) l:=⟨some (g,0),c,by rw[hn],by omega,by omega,λ_=>⟨g,0,rfl,by omega,λk hk=>by
  rw[bU,aZ _ _ _ _ hg,hl];unfold iv;simp[ay,hk]⟩,λh=>by cases h⟩
section
variable {w w1 w2:World}{v v1 v2:Value}{B B':Nat}
end
theorem OwnsI.lt{w:World}{B:Nat}{v:Value}{l:List Int}(h:OwnsI w B v l):∀j,v.ownBlock=some j->B<=j/\j<w.heap.size:=dL h
section
variable {P:Program}(w:World){ops:Array Oper}{rest:List Oper}{o:Oper}{a:Act}{K:Act->World->Prop}{Q:Exit->Act->World->Prop}
theorem ja.src{w:World}{B:Nat}{u:Value}{m:List Int}(h:ja w B u m):Src w u 1 m.length ((List.range m.length).map (iv m)):=by
 obtain⟨A,c,rfl,-,-,h3,h4⟩:=h.at_
 cases A with
 |none=>
  obtain⟨h5,h6⟩:=h4 rfl;subst h6;exact .inl ⟨by rw[h5],h5,by rw[h5];rfl⟩
 |some ad=>
  refine .inr ⟨ad,c,rfl,by simp,λj x hj=>?_,λx hx=>?_⟩
  ·rw[dF]at hj
   by_cases hjm:j<m.length
   ·rw[bW hjm]at hj
    simp at hj;subst hj;obtain⟨b,off,he,_,hc⟩:=h3 (by omega);simp only[bB]at he;subst he;have:=hc j hjm;by_cases h1:j=0
    ·subst h1;simpa[Addr.add]using this
    ·simpa[Addr.add,h1]using this
   ·rw[aY (by simpa using hjm)]at hj
    cases hj
  ·obtain⟨k,hk,rfl⟩:=fC.1 hx
   rfl
theorem OwnsI.joined{w:World}{B:Nat}{v:Value}{l m:List Int}(h:w.ownsRow B 3 1 v (l.length+m.length) ((List.range l.length).map (iv l)++(List.range m.length).map (iv m))):OwnsI w B v (l++m):=by
 unfold OwnsI iP;rw[bJ];have e:(List.range (l.length+m.length)).map (iv (l++m))=(List.range l.length).map (iv l)++(List.range m.length).map (iv m):=by
  rw[<-rV];exact dK λk _=>(Ka l m k).symm
 rw[e];exact h
theorem Kb(s x:Operand)(t:TypeId)(ho:o.op=.call {callee:=.builtin .append,args:=#[s,x],argTypes:=#[t,t]})
  (B:Nat) (jM:(P.info? 3).map (λi=>(i.zero,i.size,i.bytes))=some (some ↑(0:Int),1,8)) (ht:P.underlying t=some (.slice 3))
  (v:Value) (l:List Int) (hown:OwnsI w B v l) (hs:a.eval s=v) (Bs:Nat) (u:Value) (m:List Int) (hx:a.eval x=u) (kI:ja w Bs u m)
  (hB:B<=w.heap.size) (hroom:(l.length+m.length)*8<=140737488355328)
  (h:∀v' w',OwnsI w' B v' (l++m)->Ext w w' v v'->K (a.put o.dst v') w'):o.wp P a w K Q:=
 vz w s x t ho B 3 ↑(0:Int) 1 8 jM rfl (by omega) ht v l.length _ hown hs u m.length _ hx kI.src hB (by unfold maxLen;omega) (by omega) λv' w' h1 h2=>h v' w' (OwnsI.joined h1) h2
theorem pE(hgd:o.guard=none)(s x:Operand)(t:TypeId)(ho:o.op=.call {callee:=.builtin .append,args:=#[s,x],argTypes:=#[t,t]})
  (B:Nat) (jM:(P.info? 3).map (λi=>(i.zero,i.size,i.bytes))=some (some ↑(0:Int),1,8)) (ht:P.underlying t=some (.slice 3))
  (v:Value) (l:List Int) (hown:OwnsI w B v l) (hs:a.eval s=v) (Bs:Nat) (u:Value) (m:List Int) (hx:a.eval x=u) (kI:ja w Bs u m)
  (hB:B<=w.heap.size) (hroom:(l.length+m.length)*8<=140737488355328)
  (h:∀v' w',OwnsI w' B v' (l++m)->Ext w w' v v'->wpList P ops Q rest (a.put o.dst v') w'):wpList P ops Q (o::rest) a w:=
 wpList_plain hgd λ_ hK=>Kb w s x t ho B jM ht v l hown hs Bs u m hx kI hB hroom λv' w' h1 h2=>hK _ _ (h v' w' h1 h2)
end
section
variable {P:Program}(w:World){ops:Array Oper}{rest:List Oper}{o:Oper}{a:Act}{K:Act->World->Prop}{Q:Exit->Act->World->Prop}
end
theorem ja.alloc{w:World}{B:Nat}{v:Value}{l:List Int}(h:ja w B v l)(o:Obj):ja (w.alloc o) B v l:=⟨by
 obtain⟨A,c,rfl,h1,h2,h3,h4⟩:=h.at_;refine⟨A,c,rfl,h1,h2,λh0=>?_,h4⟩;obtain⟨b,off,e,hb,hc⟩:=h3 h0;exact⟨b,off,e,hb,λk hk=>bn o (hc k hk)⟩⟩
theorem uV(w:World)(e:TypeId)(he:e=3)(B g:Nat)(hB:B<=w.heap.size)(hg:g=w.heap.size):OwnsI (w.alloc (.cells #[] e)) B (.slice (some (g,0)) 0 0) []:=by
 subst he hg;exact gD w #[] 0 hB (by unfold maxLen;omega) rfl
section
variable {W W':World}{g:Nat}{cs:Array Value}{t:TypeId}
end
theorem OwnsI.cell{w:World}{B g n c:Nat}{l:List Int}(h:OwnsI w B (.slice (some (g,0)) n c) l)(hn:n=l.length){i:Nat}(hi:i<l.length):w.cell? (g,i)=some ↑(l.getD i 0):=by
 subst hn;exact iP.cell h hi
theorem OwnsI.frozen{w:World}{B g n c:Nat}{l:List Int}(h:OwnsI w B (.slice (some (g,0)) n c) l)(hn:n=l.length)(i:Nat):w.frozen? (g,i)=false:=by
 subst hn;exact iP.frozen h i
theorem OwnsI.set{w:World}{B g n c:Nat}{l:List Int}(h:OwnsI w B (.slice (some (g,0)) n c) l)(hn:n=l.length)(i:Nat)(x:Int)(hi:i<l.length):OwnsI (w.setCell (g,i) ↑x) B (.slice (some (g,0)) n c) (l.set i x):=by
 subst hn;have:=iP.j5 h i ↑x (V':=iv (l.set i x)) (by simp[iv,ay,hi]) (λj _ hj=>by simp[iv,ay,dU (dH hj)]);unfold OwnsI;rw[List.length_set];exact this
end
section
set_option maxRecDepth 100000
set_option maxHeartbeats 1000000
open Go.RowKit
theorem lY{k:IntKind}{a b:Int}(h:a=b):Ending.returned (.int k a)=.returned (.int k b):=by rw[h]
theorem uT{a b:Bool}(h:a=b):Ending.returned ↑a=.returned ↑b:=by rw[h]
def small(l:List Int):Prop:=∀x∈l,-1099511627776<=x/\x<=1099511627776
theorem small.getD{l:List Int}(h:small l)(k:Nat):-1099511627776<=l.getD k 0/\l.getD k 0<=1099511627776:=by
 by_cases hk:k<l.length
 ·rw[ay,aP hk,fZ]
  exact h _ (dS _)
 ·rw[ay,aY (by omega)]
  exact⟨by decide,by decide⟩
theorem ja.cell{w:World}{B:Nat}{A:Option Addr}{n c:Nat}{l:List Int}(h:ja w B (.slice A n c) l)(k:Nat)(hk:k<l.length):∃b off,A=some ⟨b,off,none⟩/\b<B/\w.cell? ⟨b,off+k,none⟩=some ↑(l.getD k 0):=by
 obtain⟨A',c',e,-,-,h3,-⟩:=h.at_;simp only[fq]at e;obtain⟨rfl,rfl,rfl⟩:=e;obtain⟨b,off,hA,hb,hc⟩:=h3 (by omega);exact⟨b,off,hA,hb,hc k hk⟩
theorem yR(a:Int)(w:World)(h:-17592186044416<=a/\a<=17592186044416):
  Calls Tryz.prog 231 #[↑a,↑(1:Int)] w λe w'=>e=.returned ↑a/\w'=w:=by
 obtain⟨h1,h2⟩:=h;obtain⟨e1,e2⟩:=Clk.td1 a
 go_enter Tryz.func231,Tryz.ntmps231
 go_wp2;go_ret;exact⟨rfl,rfl⟩
theorem yS(a:Int)(w:World)(h:-17592186044416<=a/\a<=17592186044416):
  Calls Tryz.prog 231 #[↑a,↑(2:Int)] w λe w'=>e=.returned ↑(a / 2:Int)/\w'=w:=by
 obtain⟨h1,h2⟩:=h;have H:=af (Clk.td2 a);have b1:-17592186044416<=a.tdiv 2/\a.tdiv 2<=17592186044416:=by have:=H.o;omega
 obtain⟨b1,b2⟩:=b1
 go_enter Tryz.func231,Tryz.ntmps231
 go_wp2
 ·go_ret
  exact⟨lY (by have:=H.o;omega),rfl⟩
 ·go_ret
  exact⟨lY (by have:=H.o;omega),rfl⟩
 ·rename_i h h3
  go_ret;refine⟨lY ?_,rfl⟩;have:=H.o;rcases h3 with h3|h3
  ·simp at h3;omega
  ·omega
def wiB(m n:Int):Bool:=decide (-m<=n/\n<=m)
theorem uU(m n:Int)(w:World)(h:0<=m/\m<=9223372036854775807):
  Calls Tryz.prog 227 #[↑m,↑n] w λe w'=>e=.returned ↑(wiB m n)/\w'=w:=by
 obtain⟨h1,h2⟩:=h
 go_enter Tryz.func227,Tryz.ntmps227
 go_wp2
 ·rename_i h
  go_ret;exact⟨uT (by unfold wiB;simp[h]),rfl⟩
 ·rename_i h
  go_ret;exact⟨uT (by unfold wiB;simp;omega),rfl⟩
theorem yT(a b:Int)(w:World):
  Calls Tryz.prog 243 #[↑a,↑b] w λe w'=>e=.returned ↑(decide (a<b))/\w'=w:=by
 go_enter Tryz.func243,Tryz.ntmps243
 go_wp2;go_ret;exact⟨rfl,rfl⟩
theorem GJ(x:Int)(w:World)(h:0<=x/\x<256):
  Calls Tryz.prog 247 #[.int .u64 x] w λe w'=>∃n:Int,e=.returned ↑n/\w'=w:=by
 obtain⟨h1,h2⟩:=h;have d1:decide (4294967296<=x)=false:=by simp;omega
 go_enter Tryz.func247,Tryz.ntmps247
 go_wp2;go_ret;exact⟨_,rfl,rfl⟩
theorem GK(x:Int)(w:World)(h:0<=x/\x<256):
  Calls Tryz.prog 236 #[.int .u64 x] w λe w'=>∃n:Int,e=.returned ↑n/\w'=w:=by
 go_enter Tryz.func236,Tryz.ntmps236
 go_wp2_with (go_at_call 247;refine(GJ x _ h).mono ?_;rintro e w' ⟨n,rfl,rfl⟩);go_ret;exact⟨_,rfl,rfl⟩
end
section
set_option maxRecDepth 100000
set_option maxHeartbeats 4000000
open Go.RowKit
open Clk (inz swp)
def Srt(w:World)(B:Nat)(v:Value)(l:List Int)(w':World):Prop:=∃l':List Int,l'.Perm l/\Clk.sorted l'/\OwnsI w' B v l'/\Below B w w'
theorem GL(l:List Int)(g n c:Nat)(w:World)(B:Nat)(how:OwnsI w B (.slice (some (g,0)) n c) l)(hn:n=l.length)(h0:0<n)(h12:n<=12):
  Calls Tryz.prog 237 #[.slice (some (g,0)) n c,↑(0:Int),↑n] w λe w'=>e=.returned (.tuple #[])/\Srt w B (.slice (some (g,0)) n c) l w':=by
 have HN:=af hn;clear hn;have hBg:=how.lt g rfl
 go_enter Tryz.func237,Tryz.ntmps237
 go_wp2
 go_loopw [6] (λi wr=>∃(k:Nat)(m:List Int),1<=k/\k<=n/\i=↑k/\m.Perm l/\(∀p q,p<q->q<k->m.getD p 0<=m.getD q 0)/\OwnsI wr B (.slice (some (g,0)) n c) m/\Below B w wr) (λi _=>n-(intOf i).toNat)
 case atStart=>exact⟨1,l,by omega,by omega,rfl,List.Perm.refl _,λp q _ _=>by omega,how,ah _ _⟩
 case round=>
  obtain⟨k,m,hk1,hk,rfl,hp,hs,ho,hb⟩:=hrel;have hm:=af hp.length_eq;by_cases hlt:k<n
  ·have q1:decide ((k:Int)<(n:Nat))=true:=by simp;omega
   go_wp2
   go_loopw [7] (λj wi=>∃(t:Nat)(m':List Int),t<=k/\j=↑t/\m'.Perm l/\inz m' k t/\OwnsI wi B (.slice (some (g,0)) n c) m'/\Below B w wi) (λj _=>(intOf j).toNat)
   case atStart=>exact⟨k,m,by omega,rfl,hp,Clk.GQ hs,ho,hb⟩
   case round=>
    obtain⟨t,m',ht,rfl,hp',hi,ho',hb'⟩:=hrel;have hm':=af hp'.length_eq;by_cases h00:0<t
    ·have c1:=ho'.cell (i:=t) (by have:=HN.o;have:=hm'.o;omega) (by have:=HN.o;have:=hm'.o;omega)
     have c2:=ho'.cell (i:=t-1) (by have:=HN.o;have:=hm'.o;omega) (by have:=HN.o;have:=hm'.o;omega);have f1:=ho'.frozen (by have:=HN.o;have:=hm'.o;omega) t;have f2:=ho'.frozen (by have:=HN.o;have:=hm'.o;omega) (t-1);have q2:decide ((0:Int)<(t:Nat))=true:=by simp;omega
     have hdn:=λnq=>af (ho'.below (aC (ah wr wr) nq) lr);have hbn:=λnq=>af (hb'.trans (aC (ah B wr) nq));by_cases yU:m'.getD t 0<m'.getD (t-1) 0
     ·have hstep:=af (Clk.GR hi h00 ht (by have:=HN.o;have:=hm'.o;omega) yU)
      have hset:∀W,OwnsI W B (.slice (some (g,0)) n c) m'->OwnsI ((W.setCell (g,t) ↑(m'.getD (t-1) 0)).setCell (g,t-1) ↑(m'.getD t 0)) B (.slice (some (g,0)) n c) (swp m' t):=λW hW=>(hW.set (by have:=HN.o;have:=hm'.o;omega) t (m'.getD (t-1) 0) (by have:=HN.o;have:=hm'.o;omega)).set (by simp;have:=HN.o;have:=hm'.o;omega) (t-1) (m'.getD t 0) (by simp;have:=HN.o;have:=hm'.o;omega);have hset:=af hset;obtain⟨s,rfl⟩:∃s,t=s+1:=⟨t-1,by omega⟩;simp only[Nat.add_sub_cancel]at c2 f2 yU hset;generalize m'.getD (s+1) 0=x at *;generalize m'.getD s 0=y at *;have q3:decide (x<y)=true:=by simp;omega
      go_wp2
      go_quiet ((go_at_call 243;exact bI (yT _ _ _)))
      go_wp2
      go_region
      go_wp2;go_roundw
      case rel=>exact⟨s,swp m' (s+1),by omega,rfl,(Clk.GU m' (s+1) h00 (by have:=HN.o;have:=hm'.o;omega)).trans hp',hstep.o,hset.o _ (hdn _).o,((hbn _).o.setCell (p:=(g,s+1)) hBg.1 _).setCell (p:=(g,s)) hBg.1 _⟩
      case measure=>simp[intOf]
     ·have hend:=af (Clk.yV hi (.inr (by omega)))
      generalize m'.getD t 0=x at *;generalize m'.getD (t-1) 0=y at *;have q3:decide (x<y)=false:=aj (by omega);go_wp2
      go_quiet ((go_at_call 243;exact bI (yT _ _ _)))
      go_wp2;go_roundw
      case rel=>exact⟨k+1,m',by omega,by omega,by go_num,hp',hend.o,(hdn _).o,(hbn _).o⟩
      case measure=>simp[intOf];omega
    ·have hend:=af (Clk.yV hi (.inl (by omega)))
     have hdn:=λnq=>af (ho'.below (aC (ah wr wr) nq) lr);have hbn:=λnq=>af (hb'.trans (aC (ah B wr) nq));have q2:decide ((0:Int)<(t:Nat))=false:=aj (by omega);go_wp2
     go_quiet (fail)
     go_wp2;go_roundw
     case rel=>exact⟨k+1,m',by omega,by omega,by go_num,hp',hend.o,(hdn _).o,(hbn _).o⟩
     case measure=>simp[intOf];omega
  ·have q1:decide ((k:Int)<(n:Nat))=false:=by simp;omega
   have hkn:k=n:=by omega
   have hfin:Clk.sorted m:=λp q h1 h2=>hs p q h1 (by have:=HN.o;have:=hm.o;omega);have hfin:=af hfin;clear hkn hs;go_wp2;exact aD (ax (by rfl) _ _ _) rfl ⟨rfl,m,hp,hfin.o,ho,hb⟩
theorem GV(l:List Int)(g n c:Nat)(k:Int)(w:World)(B:Nat)(how:OwnsI w B (.slice (some (g,0)) n c) l)(hn:n=l.length)(h0:0<n)(h12:n<=12):
  Calls Tryz.prog 235 #[.slice (some (g,0)) n c,↑(0:Int),↑n,↑k] w λe w'=>e=.returned (.tuple #[])/\Srt w B (.slice (some (g,0)) n c) l w':=by
 have H:=af (GL l g n c w B how hn h0 h12);clear how hn;have q1:decide ((n:Int)<=12)=true:=by simp;omega
 go_enter Tryz.func235,Tryz.ntmps235
 go_wp2_with fail;refine wp_loop_once ?_;go_wp2_with fail;refine H.o.mono ?_;rintro e w' ⟨rfl,hs⟩;go_wp2;exact aK (ax (by rfl) _ _ _) rfl ⟨rfl,hs⟩
theorem GX(l:List Int)(g n c:Nat)(w:World)(B:Nat)(how:OwnsI w B (.slice (some (g,0)) n c) l)(hn:n=l.length)(h0:0<n)(h12:n<=12):
  Calls Tryz.prog 233 #[.slice (some (g,0)) n c] w λe w'=>e=.returned (.tuple #[])/\Srt w B (.slice (some (g,0)) n c) l w':=by
 have H:=λk=>af (GV l g n c k w B how hn h0 h12);have K:=af (GK (n:Int) w (by omega));clear how hn
 go_enter Tryz.func233,Tryz.ntmps233
 go_wp2_with fail;refine K.o.mono ?_;rintro e w' ⟨k,rfl,rfl⟩;go_wp2_with fail;refine(H k).o.mono ?_;rintro e w' ⟨rfl,hs⟩;go_wp2;exact aD (ax (by rfl) _ _ _) rfl ⟨rfl,hs⟩
theorem GY(l:List Int)(v:Value)(w:World)(B:Nat)(hv:ja w B v l)(h0:0<l.length)(h4:l.length<=1000):
  Calls Tryz.prog 232 #[v] w λe w'=>∃v',e=.returned v'/\OwnsI w' w v' l/\Below w w w':=by
 obtain⟨A,c,rfl,h1,h2,h3,h4'⟩:=hv.at_;obtain⟨b,off,rfl,hb,hc⟩:=h3 h0;have H:=af (uV w 3 rfl w w lr rfl);have hs:=af ((hv.alloc (.cells #[] 3)));have q0:=dw (P:=Tryz.prog) w 33 3 (some (b,off)) l.length c 0 0 Tryz.underlying33;clear hv h3 h4' hc
 go_enter Tryz.func232,Tryz.ntmps232
 go_wp2_with (at_builtin;go_loud (refine pE _ rfl (.tmp 5) (.tmp 6) 33 rfl w oh Tryz.underlying33 _ [] H.o rfl _ _ l rfl hs.o (by simp) (by simp;omega) ?_));intro v' w' ho he;go_wp2;go_ret;exact⟨_,rfl,by simpa using ho,((ah _ _).alloc lr _).trans (he.toBelow (by simp) (λj hj=>by simp[Value.ownBlock]at hj;omega))⟩
end
end Go.Proofs.YteadkhigkmijiaaGreat
