/- Texts SgB1, SrG, SrH, SrI in one. -/
import Derived.Deep.CutBlock
import Derived.Deep.MidRow
import Derived.Test.YteadkhigkmijiaaGreatPC1
import Derived.Test.YteadkhigkmijiaaGreatPC8
import Derived.Test.YteadkhigkmijiaaGreatPC19
import Derived.Test.YteadkhigkmijiaaGreatPC24
import Derived.Test.YteadkhigkmijiaaGreatPC25
set_option linter.all false
namespace Go.Proofs.YteadkhigkmijiaaGreat
section
set_option maxRecDepth 100000
set_option maxHeartbeats 4000000
open Go.RowKit
open Clk (avg)
open Fr (St F)
theorem PK(c:Cx 1)(g:Nat)(s:G)(v:Value)(l:List Int)(at_:Int)(w:World)(h:jj c w g s)(hn:s.n<=8)(hm:0<=s.lm/\s.lm<=9223372036854775807)(hv:iI w w v l)(hl:iK l)
  (_hat:time at_) (jz:time (at_+jb s.lm [])):
  Calls Tryz.prog 198 #[↑(g,1),v,↑at_] w λe w'=>e=.returned (.tuple #[])/\jj c w' g (s.mX l at_)/\Only g w w':=by
 have hD:=af (sS v l z0 w hv hl);have hts:=af (vS hl);unfold Dec stV z0 at hD;unfold G.mX tells;simp only at hD;have ez:(⟨0,0,0⟩:St)=z0:=rfl;rw[ez]at hD;generalize Fr.err l z0=er at *;generalize Fr.res l z0=R at *;obtain⟨k,⟨r,sl,m⟩,d⟩:=R;unfold frV at hD;simp only at hD hts ⊢;clear ez
 go_enter Tryz.func198,Tryz.ntmps198
 go_wp2_with fail;refine hD.o.mono ?_;rintro e w1 ⟨v1,rfl,ho,hb⟩;obtain⟨A1,n1,rfl,-⟩:=ho.sees.at_;have hB1:=(hb.alloc hb.size (.cells (aF k r sl m A1 (d.length) n1) 182));have H1:=h.below hB1 h.lt;have hO1:=iQ g hB1;have hX:=aJ w1 _ rfl (aF k r sl m A1 (d.length) n1) 182;have hgw:g<w1.heap.size:=aN h.lt hb.size;go_wp2_with fail;generalize hW1:w1.alloc (.cells (aF k r sl m A1 (d.length) n1) 182)=W1 at *;have x0:=hX.cell 0 (x:=↑k) rfl;have x2:=hX.cell 2 (x:=↑sl) rfl;have c8:=PBa (H1.1.cell 8 (x:=↑(s.n:Nat)) rfl) (show 1+8=9 from rfl);generalize w1.heap.size=b at *;clear ho hB1 hW1 hb hX hD hv;have HH:Hid (∀n,jj c (W1.drewN n) g s):=af λn=>⟨H1.1.drewN n,H1.2⟩;have HO:Hid (∀n,Only g w (W1.drewN n)):=af λn=>hO1.trans (iQ g (aC (ah _ W1) n));clear H1 hO1 h;by_cases p1:er=0
 ·subst p1
  obtain⟨s0,s8⟩:=hts.o rfl;by_cases p2:k=1
  ·subst p2
   go_quiet (fail)
   go_wp2;exact aK (ax (by rfl) _ _ _) rfl ⟨rfl,HH.o _,HO.o _⟩
  ·have q2:(k==1)=false:=by rw[aB];exact p2
   by_cases p3:sl<(s.n:Int)
   ·have q3:decide ((s.n:Int)<=sl)=false:=aj (by omega)
    have HX:Hid (∀n,(W1.drewN n).cell? (b,2)=some ↑sl):=af λn=>((aC (ah (b+1) W1) n).cell (p:=(b,2)) (cJ _)).trans x2
    go_quiet (fail)
    have H2:=HH.o nq;have hO2:=HO.o nq;have y2:=HX.o nq;clear HX HH HO x0 x2 c8;generalize W1.drewN nq=W2 at *;clear q3;have c16:=PBa (H2.1.cell 16 (x:=↑s.now) rfl) (show 1+16=17 from rfl);have c17:=PBa (H2.1.cell 17 (x:=↑s.kn) rfl) (show 1+17=18 from rfl);have c18:=PBa (H2.1.cell 18 (x:=↑(s.slot:Nat)) rfl) (show 1+18=19 from rfl);have c19:=PBa (H2.1.cell 19 (x:=↑(s.si:Nat)) rfl) (show 1+19=20 from rfl);have f16:=H2.1.frozen 17;have f17:=H2.1.frozen 18;have f18:=H2.1.frozen 19;have f19:=H2.1.frozen 20;have H2:=af H2;have hO2:=af hO2;have es:sl=(sl.toNat:Int):=by omega
    have H3:Hid (jj c ((((W2.setCell (g,18) ↑true).setCell (g,19) ↑sl).setCell (g,17) ↑at_).setCell (g,20) ↑(0:Int)).drew g {s with kn:=true,slot:=sl.toNat,now:=at_,si:=0}):=af
     ⟨(((((H2.o.1.set 17 (by simp[grd]) ↑true).set 18 (by simp[grd]) ↑sl).set 16 (by simp[grd]) ↑at_).set 19 (by simp[grd]) ↑((0:Nat):Int)).drew).eq (by rw[tq,dn (Value.int .i64) es,nL,tj,pR]),H2.o.2⟩
    have hO3:=af (((((hO2.o.set 18 ↑true).set 19 ↑sl).set 17 ↑at_).set 20 ↑(0:Int)).drew);have HE:=af es;clear es;go_wp2_with fail
    go_region
    generalize((((W2.setCell (g,18) ↑true).setCell (g,19) ↑sl).setCell (g,17) ↑at_).setCell (g,20) ↑(0:Int)).drew=W3 at *;go_wp2_with fail;refine(EM c g _ _ H3.o).mono ?_;rintro e w4 ⟨rfl,H4,hO4⟩;go_wp2_with fail;refine(uG c g _ _ H4 (by show sl.toNat<s.n;omega) hn (by simp[small]) hm (λ_=>jz)).mono ?_;rintro e w5 ⟨rfl,H5,hO5⟩;go_wp2;exact aD (ax (by rfl) _ _ _) rfl ⟨rfl,by simpa[p2,p3]using H5,(hO3.o.trans hO4).trans hO5⟩
   ·have q3:decide ((s.n:Int)<=sl)=true:=av (by omega)
    go_quiet (fail)
    go_wp2;exact aK (ax (by rfl) _ _ _) rfl ⟨rfl,by simpa[p2,p3]using HH.o _,HO.o _⟩
 ·have q1:(er != 0)=true:=by rw[bV];exact p1
  go_quiet (fail)
  all_goals
   go_wp2
   all_goals exact aK (ax (by rfl) _ _ _) rfl ⟨rfl,by simpa[p1]using HH.o _,HO.o _⟩
theorem PL(c:Cx 1)(g:Nat)(s:G)(v:Value)(l:List Int)(at_:Int)(w:World)(h:jj c w g s)(ok:s.Ok at_)(hv:iI w w v l)(hl:iK l):
  Calls Tryz.prog 156 #[↑(g,1),v,↑at_] w λe w'=>e=.returned (.tuple #[])/\jj c w' g (s.ended l at_)/\Only g w w':=by
 obtain⟨o1,o2,o3,o4,o5,o6,o7⟩:=ok;have o4':0<=s.lm/\s.lm<=9223372036854775807:=⟨o4.1,by omega⟩;have tb:=λl=>sX s.lm l o4.1;have H1:=af (PK c g s v l at_ w h o1 o4' hv hl (by unfold time;omega) (by have:=tb [];unfold time;omega));have H2:=af (Px c g s at_ w h o2 o1 o3 o4' (by unfold time;omega) (by unfold time;omega) (λ_=>o6) (λ_=>by have:=tb (if s.sy s.slot then iT s.l (at_-s.now)else s.l);unfold time;omega));have H3:=af (Py c g s w h o2 o1 o3 o4' o7 (λ_=>by have:=tb s.l;unfold time;omega));have c17:=PBa (h.1.cell 17 (x:=↑s.kn) rfl) (show 1+17=18 from rfl);obtain⟨A,c,rfl,-⟩:=hv.at_;unfold G.ended;clear h hv tb
 cases hk:s.kn
 ·rw[hk]at c17
  go_enter Tryz.func156,Tryz.ntmps156
  go_wp2_with fail;refine H1.o.mono ?_;rintro e w4 ⟨rfl,H4,hO4⟩;go_wp2;exact aD (ax (by rfl) _ _ _) rfl ⟨rfl,H4,hO4⟩
 ·rw[hk]at c17
  by_cases h0:0<l.length
  ·have q1:decide ((0:Int)<(l.length:Nat))=true:=av (by omega)
   go_enter Tryz.func156,Tryz.ntmps156
   go_wp2_with fail;refine H2.o.mono ?_;rintro e w4 ⟨rfl,H4,hO4⟩;go_wp2;exact aD (ax (by rfl) _ _ _) rfl ⟨rfl,by simpa[h0]using H4,hO4⟩
  ·have q1:decide ((0:Int)<(l.length:Nat))=false:=aj (by omega)
   go_enter Tryz.func156,Tryz.ntmps156
   go_wp2_with fail;refine H3.o.mono ?_;rintro e w4 ⟨rfl,H4,hO4⟩;go_wp2;exact aD (ax (by rfl) _ _ _) rfl ⟨rfl,by simpa[h0]using H4,hO4⟩
theorem PN(c:Cx 1)(g:Nat)(s:G)(f:Nat->Bool)(a:Nat->Int)(w:World)(h:jj c w g s)(hn:s.n<=8)(hs:s.slot<8)(jz:time s.now)(hat:time (a s.slot))(hwi:0<=s.wi/\s.wi<=2305843009213693952):
  Calls Tryz.prog 151 #[↑(g,1),kZ f,jK a] w λe w'=>e=.returned ↑(s.pass f a)/\Below w w w':=by
 have hB:=((ah w w).alloc lr (.cells #[↑(f 0),↑(f 1),↑(f 2),↑(f 3),↑(f 4),↑(f 5),↑(f 6),↑(f 7)] 110)).alloc (by simp) (.cells (aI a) 22);have hX:=(aJ w _ rfl #[↑(f 0),↑(f 1),↑(f 2),↑(f 3),↑(f 4),↑(f 5),↑(f 6),↑(f 7)] 110).alloc (.cells (aI a) 22);have hY:=aJ (w.alloc (.cells #[↑(f 0),↑(f 1),↑(f 2),↑(f 3),↑(f 4),↑(f 5),↑(f 6),↑(f 7)] 110)) (w.heap.size+1) (by simp) (aI a) 22;have hG:=h.below hB h.lt;unfold kZ jK
 go_enter Tryz.func151,Tryz.ntmps151
 generalize hw0:(w.alloc (.cells #[↑(f 0),↑(f 1),↑(f 2),↑(f 3),↑(f 4),↑(f 5),↑(f 6),↑(f 7)] 110)).alloc (.cells (aI a) 22)=w0 at *;have c17:=PBa (hG.1.cell 17 (x:=↑s.kn) rfl) (show 1+17=18 from rfl);unfold G.pass
 cases hk:s.kn
 ·rw[hk]at c17
  have c8:=PBa (hG.1.cell 8 (x:=↑(s.n:Nat)) rfl) (show 1+8=9 from rfl);have hI:=af (tB w s.n 8 f w0 (λk hk=>hX.cell k (lZ f k (by omega))) hn);simp only[bA,dB];generalize fst f s.n=r at *;have i1:(0:Int)<=(s.n:Int):=by omega
  have i2:(s.n:Int)<=8:=by omega
  clear hX hY h hG;go_wp2_with fail;refine hI.o.mono ?_;rintro e w2 ⟨rfl,rfl⟩;go_wp2;go_ret;exact⟨rfl,hB⟩
 ·rw[hk]at c17
  have cx:=hX.cell s.slot (lZ f s.slot hs);have cy:=hY.cell s.slot (l7 a s.slot hs);have c9:=PBa (hG.1.cell 9 (x:=↑s.wi) rfl) (show 1+9=10 from rfl);have c16:=PBa (hG.1.cell 16 (x:=↑s.now) rfl) (show 1+16=17 from rfl);have c18:=PBa (hG.1.cell 18 (x:=↑(s.slot:Nat)) rfl) (show 1+18=19 from rfl);have i1:(0:Int)<=(s.slot:Int):=by omega
  have i2:(s.slot:Int)<8:=by omega
  have hN:=λW=>af ((BM (a s.slot) s.now s.wi W hat jz hwi).mono λe w'(h:e=.returned ↑(lM (a s.slot) s.now s.wi)/\W=w')=>(⟨h.1,h.2.symm⟩:e=.returned ↑(lM (a s.slot) s.now s.wi)/\w'=W));have HB:Hid (∀n,Below w w (w0.drewN n)):=af λn=>aC hB n;have H18:Hid (∀n,(w0.drewN n).cell? (g,19)=some ↑(s.slot:Nat)):=af λn=>(hG.1.drewN n).cell 18 rfl;generalize f s.slot=q at *;generalize a s.slot=x at *;generalize lM x s.now s.wi=q2 at *;clear hX hY h hG
  cases q
  ·clear hN
   simp only[dD,bA,dB,dG];go_wp2_with fail
   go_quiet (fail)
   all_goals
    go_wp2
    all_goals
     go_ret;exact⟨rfl,HB.o _⟩
  ·cases q2
   all_goals
    simp only[cK,bA,dB,dG];go_wp2_with fail
    go_quiet (first|(go_at_call 195;refine bI (hN _).o))
    have xQ:=H18.o nq;have hB':=HB.o nq;generalize w0.drewN nq=w3 at *;go_wp2;go_ret;exact⟨rfl,hB'⟩
end
section
open Go.RowKit
def jL(W:World)(g N:Nat)(s0 s1:G):Prop:=Blk W g (#[.int .i64 (N:Nat)]++grd s0++grd s1) 118/\s0.l.length<=4/\s1.l.length<=4
def cx1(N:Nat)(s1:G):Cx 1:=⟨#[.int .i64 (N:Nat)],grd s1,118,rfl⟩
def cx2(N:Nat)(s0:G):Cx 21:=⟨#[.int .i64 (N:Nat)]++grd s0,#[],118,by simp[grd]⟩
theorem jL.one{W:World}{g N:Nat}{s0 s1:G}(h:jL W g N s0 s1):jj (cx1 N s1) W g s0:=⟨h.1,h.2.1⟩
theorem jL.two{W:World}{g N:Nat}{s0 s1:G}(h:jL W g N s0 s1):jk (cx2 N s0) W g s1:=⟨h.1.eq (show _=(cx2 N s0).a++grd s1++(cx2 N s0).b by simp[cx2]),h.2.2⟩
theorem jL.of1{W:World}{g N:Nat}{s0 s1:G}(h:jj (cx1 N s1) W g s0)(h1:s1.l.length<=4):jL W g N s0 s1:=⟨h.1,h.2,h1⟩
theorem jL.of2{W:World}{g N:Nat}{s0 s1:G}(h:jk (cx2 N s0) W g s1)(h0:s0.l.length<=4):jL W g N s0 s1:=⟨Blk.eq h.1 (show(cx2 N s0).a++grd s1++(cx2 N s0).b=_ by simp[cx2]),h0,h.2⟩
theorem jL.lt{W:World}{g N:Nat}{s0 s1:G}(h:jL W g N s0 s1):g<W.heap.size:=h.1.lt
theorem jL.below{W W':World}{g N:Nat}{s0 s1:G}(h:jL W g N s0 s1){B:Nat}(hb:Below B W W')(hg:g<B):jL W' g N s0 s1:=⟨h.1.below hb hg,h.2⟩
theorem jL.kp{W W':World}{P:List Nat}{g N:Nat}{s0 s1:G}(h:jL W g N s0 s1)(k:Kw P W W')(hg:g∉P):jL W' g N s0 s1:=⟨h.1.kp k hg,h.2⟩
theorem jL.n_{W:World}{g N:Nat}{s0 s1:G}(h:jL W g N s0 s1):W.cell? ⟨g,0,none⟩=some (.int .i64 (N:Nat)):=h.1.cell 0 (by simp[grd])
def hn(m:List Sd)(p:Int):Nat:=if p<0 then 0 else match m[p.toNat]? with
 |some s=>s.n
 |none=>0
def hq(m:List Sd)(p:Int):Nat->Int:=match m[p.toNat]? with
 |some s=>s.q
 |none=>λ_=>0
def tk(n:Nat)(q:Nat->Int):Int:=if kC q n=true then 0 else if n%8=0/\j3 q n=true then 2 else 1
def tl(n:Nat)(q:Nat->Int):List Int:=if kC q n=false/\n%8=0/\j3 q n=true then(List.range (n / 8)).map (packed q)else []
theorem qg(n:Nat)(q:Nat->Int):iK (tl n q):=by
 intro x hx;unfold tl at hx
 split at hx
 ·obtain⟨j,-,rfl⟩:=fC.1 hx
  have:=BZ q j 8;unfold packed;omega
 ·cases hx
theorem Told.own{w:World}{B:Nat}{q:Nat->Int}{n:Nat}{K:Int}{v:Value}(h:Told w B q n K v):K=tk n q/\iJ w B v (tl n q):=by
 rcases h with⟨h1,h2,rfl⟩|⟨h1,h2,h3,h4,h5⟩|⟨h1,h2,h3,rfl⟩
 ·refine⟨by simp[tk,h1,h2],?_⟩
  unfold tl;rw[ai (by simp[h1])];exact bR
 ·refine⟨by simp[tk,h1,h2,h3,h4],?_⟩
  unfold tl;rw[au ⟨h1,h2,h3⟩];unfold iJ;rw[dQ,dW];refine h5.alike λk hk=>?_;simp[bv,ay,hk]
 ·have h6:¬(n%8=0/\j3 q n=true):=by
   rintro⟨e1,e2⟩;rcases h2 with h|h
   ·exact h e1
   ·rw[e2]at h;cases h
  refine⟨by simp[tk,h1,h6,h3],?_⟩;unfold tl;rw[ai (λe=>h6 e.2)];exact bR
theorem EX(v:Value)(n:Nat)(a q:Nat->Int)(P:List Nat)(w:World)(h:Row w P v n a q):
  Calls Tryz.prog 155 #[v] w λe w'=>∃X Y,e=.returned (.tuple #[↑(tk n a),X,↑(tk n q),Y])/\iJ w' w X (tl n a)/\iJ w' w Y (tl n q)/\Below w w w':=by
 obtain⟨A,c,rfl,n1,n2,hs⟩:=h.sees;have h4:=h.n4;refine(Kn A n c a q w hs (λk _=>by have:=(h.one k).1;omega) (λk _=>by have:=(h.one k).2;omega) n1 n2 (by omega)).mono ?_;rintro e w1 ⟨K,X,L,Y,rfl,t1,t2,hb⟩;obtain⟨rfl,o1⟩:=t1.own;obtain⟨rfl,o2⟩:=t2.own;exact⟨X,Y,rfl,o1,o2,hb⟩
def jG(m:List Sd)(p:Int):Int:=if p<0 then 0 else sA m p.toNat
theorem xR(x b:Nat)(l:List (Value×Sd))(c d:Ch)(P:List Nat)(p:Int)(w:World)(h:XAt w P x b l c d)(hpl:p=-1\/∃j:Nat,p=j/\j<l.length):
  Calls Tryz.prog 157 #[↑(x,0),↑p] w λe w'=>e=.returned ↑(jG (l.map Prod.snd) p)/\w'=w:=by
 rcases hpl with rfl|⟨j,rfl,hj⟩
 ·exact(QM x w).mono λe w' h=>⟨h.1,h.2.symm⟩
 ·obtain⟨⟨v,s⟩,hk⟩:∃y,l[j]?=some y:=⟨_,aP hj⟩
  have e:jG (l.map Prod.snd) (j:Int)=s.at_:=by unfold jG sA;rw[ai (by omega)];simp[hk]
  rw[e];exact(QN x b j l v s c d P w h hk).mono λe w' h=>⟨h.1,h.2.symm⟩
theorem iJ.only{w w':World}{B g:Nat}{v:Value}{l:List Int}(h:iJ w B v l)(k:Only g w w')(hg:g<B):iJ w' B v l:=
 cB (row:=some g) h k (by
  rcases h.2 with⟨rfl,_⟩|⟨g',cap,cur,rfl,hb,_⟩
  ·exact .inl rfl
  ·refine .inr ?_
   simp only[Value.ownBlock,ne_eq,bB];omega)
structure Hd where
 A:Int
 B:Int
 X:Value
 Y:Value
 o:Int
def hdz:Hd:=⟨0,0,.slice none 0 0,.slice none 0 0,0⟩
def hdC(f:Nat->Hd):Array Value:=#[↑(f 0).A,↑(f 0).B,(f 0).X,(f 0).Y,↑(f 0).o,↑(f 1).A,↑(f 1).B,(f 1).X,(f 1).Y,↑(f 1).o,↑(f 2).A,↑(f 2).B,(f 2).X,(f 2).Y,↑(f 2).o,↑(f 3).A,↑(f 3).B,(f 3).X,(f 3).Y,↑(f 3).o,↑(f 4).A,↑(f 4).B,(f 4).X,(f 4).Y,↑(f 4).o,↑(f 5).A,↑(f 5).B,(f 5).X,(f 5).Y,↑(f 5).o,↑(f 6).A,↑(f 6).B,(f 6).X,(f 6).Y,↑(f 6).o,↑(f 7).A,↑(f 7).B,(f 7).X,(f 7).Y,↑(f 7).o]
def upH(f:Nat->Hd)(k:Nat)(h:Hd)(i:Nat):Hd:=if i=k then h else f i
theorem xk(f:Nat->Hd)(k:Nat)(hk:k<8):(hdC f)[k*5]?=some ↑(f k).A/\(hdC f)[k*5+1]?=some ↑(f k).B/\(hdC f)[k*5+2]?=some (f k).X/\(hdC f)[k*5+3]?=some (f k).Y/\(hdC f)[k*5+4]?=some ↑(f k).o:=by
 rcases(by omega:k=0\/k=1\/k=2\/k=3\/k=4\/k=5\/k=6\/k=7)with rfl|rfl|rfl|rfl|rfl|rfl|rfl|rfl<;>exact⟨rfl,rfl,rfl,rfl,rfl⟩
theorem DL(f:Nat->Hd)(k:Nat)(hk:k<8)(A B:Int)(X Y:Value):((((hdC f).setIfInBounds (k*5) ↑A).setIfInBounds (k*5+2) X).setIfInBounds (k*5+1) ↑B).setIfInBounds (k*5+3) Y=hdC (upH f k {f k with A:=A,B:=B,X:=X,Y:=Y}):=by
 rcases(by omega:k=0\/k=1\/k=2\/k=3\/k=4\/k=5\/k=6\/k=7)with rfl|rfl|rfl|rfl|rfl|rfl|rfl|rfl<;>simp[hdC,upH]
theorem DR(f:Nat->Hd)(k:Nat)(hk:k<8)(o:Int):(hdC f).setIfInBounds (k*5+4) ↑o=hdC (upH f k {f k with o:=o}):=by
 rcases(by omega:k=0\/k=1\/k=2\/k=3\/k=4\/k=5\/k=6\/k=7)with rfl|rfl|rfl|rfl|rfl|rfl|rfl|rfl<;>simp[hdC,upH]
structure jH(W:World)(Bs:Nat)(m:List Sd)(n:Nat)(qa qb:Nat->Int)(p:Int)(a:Nat->Int)(i:Nat)(h:Hd):Prop where
 A:h.A=if i<m.length/\(m[i]?.map Sd.df)≠some true then tk n qa else 0
 B:h.B=if i<m.length/\(m[i]?.map Sd.df)≠some true then tk n qb else 0
 X:iJ W Bs h.X (if i<m.length/\(m[i]?.map Sd.df)≠some true then tl n qa else [])
 Y:iJ W Bs h.Y (if i<m.length/\(m[i]?.map Sd.df)≠some true then tl n qb else [])
 o:h.o=if i<m.length/\0<=p then jG m p-a i else 0
theorem jH.below{W W':World}{Bs B':Nat}{m:List Sd}{n:Nat}{qa qb:Nat->Int}{p:Int}{a:Nat->Int}{i:Nat}{h:Hd}(H:jH W Bs m n qa qb p a i h)(hb:Below B' W W')(hB:W.heap.size<=B'):jH W' Bs m n qa qb p a i h:=⟨H.A,H.B,H.X.below hb hB,H.Y.below hb hB,H.o⟩
theorem jH.base{W:World}{Bs B':Nat}{m:List Sd}{n:Nat}{qa qb:Nat->Int}{p:Int}{a:Nat->Int}{i:Nat}{h:Hd}(H:jH W Bs m n qa qb p a i h)(hB:B'<=Bs):jH W B' m n qa qb p a i h:=⟨H.A,H.B,H.X.base hB,H.Y.base hB,H.o⟩
theorem jH.only{W W':World}{Bs g:Nat}{m:List Sd}{n:Nat}{qa qb:Nat->Int}{p:Int}{a:Nat->Int}{i:Nat}{h:Hd}(H:jH W Bs m n qa qb p a i h)(hb:Only g W W')(hB:g<Bs):jH W' Bs m n qa qb p a i h:=⟨H.A,H.B,H.X.only hb hB,H.Y.only hb hB,H.o⟩
theorem Only.setCells{g:Nat}{w:World}:∀(vs:List Value)(o:Nat){w1:World},Only g w w1->Only g w (w1.setCells g o vs)
 |[],_,_,h=>h
 |v::r,o,_,h=>by
  rw[World.setCells];exact Only.setCells r (o+1) (h.set o v)
theorem rm:(Tryz.prog.info? 154).map (λi=>i.size)=some 40:=by kernel_rfl
theorem lH(f:Nat->Hd)(h:∀i,i<8->∃A n c,(f i).X=.slice A n c)(h':∀i,i<8->∃A n c,(f i).Y=.slice A n c):(hdC f).all (·.oneCell')=true:=by
 have e:∀i,i<8->(f i).X.oneCell'=true/\(f i).Y.oneCell'=true:=λi hi=>by
  obtain⟨A,n,c,e⟩:=h i hi;obtain⟨A',n',c',e'⟩:=h' i hi;rw[e,e'];exact⟨rfl,rfl⟩
 have i0:∀a:Int,(Value.int .i64 a).oneCell'=true:=λa=>rfl;simp only[hdC,List.all_toArray,List.all_cons,List.all_nil,i0,e 0 (by omega),e 1 (by omega),e 2 (by omega),e 3 (by omega),e 4 (by omega),e 5 (by omega),e 6 (by omega),e 7 (by omega),Bool.and_self]
end
end Go.Proofs.YteadkhigkmijiaaGreat
