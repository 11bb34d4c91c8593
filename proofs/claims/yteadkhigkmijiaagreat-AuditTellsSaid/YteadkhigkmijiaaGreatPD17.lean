/- Texts NdB, GdD, RfC, RfS in one. -/
import Derived.BigQuiet
import Derived.Test.YteadkhigkmijiaaGreatPD1
import Derived.Test.YteadkhigkmijiaaGreatPD10
import Derived.Test.YteadkhigkmijiaaGreatPD12
import Derived.Test.YteadkhigkmijiaaGreatPD15
import Derived.Test.YteadkhigkmijiaaGreatPD16
set_option linter.all false
namespace Go.Proofs.YteadkhigkmijiaaGreat
section
open Go.RowKit
structure NodeMore(NAt:List Nat->World->Nat->NM->Prop):Prop where
 off:∀{F w g s},NAt F w g s->Calls Tryz.prog 31 #[↑(g,0)] w λe w'=>∃F',e=.returned (.tuple #[])/\NAt F' w' g s.off/\Eff F F' w w'
 write:∀{F w g s v l},NAt F w g s->iI w w v l->iK l->Calls Tryz.prog 32 #[↑(g,0),v] w λe w'=>∃F',e=.returned ↑(s.kN l)/\NAt F' w' g (s.write l)/\Eff F F' w w'
 read:∀{F w g s}(n:Int),NAt F w g s->Calls Tryz.prog 80 #[↑(g,0),↑n] w λe w'=>∃v,e=.returned (.agg #[v,↑(s.so.ga n),↑(s.so.gg n)])/\iI w' w' v (s.so.gd n)/\iK (s.so.gd n)/\Below w w w'
 rings:∀{F w g s}(n:Int),NAt F w g s->Calls Tryz.prog 82 #[↑(g,0),↑n] w λe w'=>e=.returned ↑((if isR s.al n then s.ar n.toNat else 0:Nat):Int)/\Below w w w'
 ack:∀{F w g s}(n:Int),NAt F w g s->Calls Tryz.prog 33 #[↑(g,0),↑n] w λe w'=>∃F',e=.returned ↑(jP s.al s.an s.ar n)/\NAt F' w' g {s with ar:=jS s.al s.an s.ar n}/\Eff F F' w w'
namespace NodeMore
variable {NAt:List Nat->World->Nat->NM->Prop}(M:NodeMore NAt){B:Nat}{P:List Nat}{w w':World}{g:Nat}{s:NM}
include M
end NodeMore
end
section
set_option maxRecDepth 100000
set_option maxHeartbeats 1000000
open Go.RowKit
def kZ(f:Nat->Bool):Value:=.agg #[↑(f 0),↑(f 1),↑(f 2),↑(f 3),↑(f 4),↑(f 5),↑(f 6),↑(f 7)]
def jK(f:Nat->Int):Value:=.agg #[↑(f 0),↑(f 1),↑(f 2),↑(f 3),↑(f 4),↑(f 5),↑(f 6),↑(f 7)]
def fst(f:Nat->Bool)(n:Nat):Int:=match(List.range n).find? f with|some k=>(k:Nat)|none=>-1
theorem tu{f:Nat->Bool}{n:Nat}(h:∀k,k<n->f k=false):fst f n=-1:=by
 unfold fst;rw[List.find?_eq_none.2 (λk hk=>by simp[h k (cA.1 hk)])]
theorem tA{f:Nat->Bool}{n k:Nat}(hk:k<n)(hf:f k=true)(h:∀j,j<k->f j=false):fst f n=(k:Nat):=by
 unfold fst;rw[List.find?_range_eq_some.2 ⟨hf,cA.2 hk,λj hj=>by simp[h j hj]⟩]
theorem tB(b n c:Nat)(f:Nat->Bool)(w:World)(h:∀k,k<n->w.cell? ⟨b,k,none⟩=some ↑(f k))(hn:n<=8):
  Calls Tryz.prog 152 #[.slice (some (b,0)) n c,↑true] w λe w'=>e=.returned ↑(fst f n)/\w=w':=by
 have H:=af h;have F0:=af (tu (f:=f) (n:=n));have F1:=λk h1 h2 h3=>af (tA (f:=f) (n:=n) (k:=k) h1 h2 h3);generalize fst f n=r at *;clear h
 go_enter Tryz.func152,Tryz.ntmps152
 go_wp2
 go_loopw [8] (λi wr=>∃k:Nat,k<=n/\i=↑k/\Hid (∀j,j<k->f j=false)/\w=wr) (λi _=>n-(intOf i).toNat)
 case atStart=>exact⟨0,by omega,rfl,af (λj hj=>by omega),rfl⟩
 case round=>
  obtain⟨k,hk,rfl,hz,rfl⟩:=hrel;by_cases hlt:k<n
  ·have q1:decide ((k:Int)<(n:Int))=true:=av (by omega)
   have ck:=H.o k hlt
   cases hf:f k
   ·rw[hf]at ck
    go_wp2;go_roundw
    case rel=>exact⟨k+1,by omega,by go_num,af (λj hj=>by
     by_cases e:j=k
     ·subst e;exact hf
     ·exact hz.o j (by omega)),trivial⟩
    case measure=>simp[intOf];omega
   ·rw[hf]at ck
    have e1:=F1 k hlt hf hz.o;go_wp2;go_ret;exact⟨by rw[e1.o];rfl,rfl⟩
  ·have q1:decide ((k:Int)<(n:Int))=false:=aj (by omega)
   have e1:=F0.o (λj hj=>hz.o j (by omega));go_wp2;go_ret;exact⟨by rw[e1];rfl,rfl⟩
def G.pass(s:G)(f:Nat->Bool)(a:Nat->Int):Int:=if s.kn then(if f s.slot&&lM (a s.slot) s.now s.wi then(s.slot:Nat)else -1)else fst f s.n
theorem lZ(f:Nat->Bool)(k:Nat)(hk:k<8):(#[↑(f 0),↑(f 1),↑(f 2),↑(f 3),↑(f 4),↑(f 5),↑(f 6),↑(f 7)]:Array Value)[k]?=some ↑(f k):=by
 rcases(by omega:k=0\/k=1\/k=2\/k=3\/k=4\/k=5\/k=6\/k=7)with rfl|rfl|rfl|rfl|rfl|rfl|rfl|rfl<;>rfl
theorem l7(f:Nat->Int)(k:Nat)(hk:k<8):(#[↑(f 0),↑(f 1),↑(f 2),↑(f 3),↑(f 4),↑(f 5),↑(f 6),↑(f 7)]:Array Value)[k]?=some ↑(f k):=by
 rcases(by omega:k=0\/k=1\/k=2\/k=3\/k=4\/k=5\/k=6\/k=7)with rfl|rfl|rfl|rfl|rfl|rfl|rfl|rfl<;>rfl
end
section
set_option maxRecDepth 100000
set_option maxHeartbeats 1000000
open Go.RowKit
open Clk (avg)
def jv:Value->Option Nat
 |.slice (some a) _ _=>some a.block
 |_=>none
theorem ja.only{W W':World}{B g:Nat}{v:Value}{l:List Int}(h:ja W B v l)(k:Only g W W')(hB:B<=W.heap.size)(hne:jv v≠some g):ja W' B v l:=⟨by
 obtain⟨A,c,rfl,h1,h2,h3,h4⟩:=h.at_;refine⟨A,c,rfl,h1,h2,λh0=>?_,h4⟩;obtain⟨b,off,rfl,hb,hc⟩:=h3 h0;refine⟨b,off,rfl,hb,λj hj=>?_⟩;rw[<-hc j hj];exact World.grownBy.cell_far k (b,off+j) (by show b<_;omega) (λe=>hne (by simp only[jv];exact e))⟩
structure RKt(c:Cx 11)(W:World)(g:Nat)(m:Int)(v:Value)(l:List Int):Prop where
 blk:PB c W g #[↑m,v]
 sees:ja W W v l
 far:jv v≠some g
theorem RKt.below{c:Cx 11}{W W':World}{g:Nat}{m:Int}{v:Value}{l:List Int}(h:RKt c W g m v l)(k:Below W W W'):RKt c W' g m v l:=
 ⟨h.blk.below k h.blk.lt,(h.sees.below k).more k.size,h.far⟩
theorem xu(c:Cx 11)(g:Nat)(m:Int)(v:Value)(l:List Int)(w:World)(h:RKt c w g m v l):
  Calls Tryz.prog 134 #[↑(g,11)] w λe w'=>e=.returned (.tuple #[])/\RKt c w' g m (.slice none 0 0) []/\Only g w w':=by
 have c1:=h.blk.cell 1 rfl;have f1:=h.blk.frozen 12;have hB:=af (h.blk.set 1 (by simp) (.slice none 0 0));clear h
 go_enter Tryz.func134,Tryz.ntmps134
 go_wp2;exact aD (ax (by rfl) _ _ _) rfl ⟨rfl,⟨hB.o,ja.nil,(by simp[jv])⟩,(aE g w).set 12 _⟩
theorem Eb(c:Cx 11)(g:Nat)(m:Int)(v:Value)(l:List Int)(w:World)(h:RKt c w g m v l)(hs:small l)(h4:l.length<=4)(hm:0<=m/\m<=1099511627776):
  Calls Tryz.prog 182 #[↑(g,11)] w λe w'=>e=.returned (.tuple #[↑(jb m l),↑(wiB m (avg l))])/\Below w w w':=by
 have c1:=h.blk.cell 1 rfl;have R:=af (zh l v w _ h.sees hs h4);have HC:Hid (∀W,Below w w W->W.cell? (g,11)=some ↑m):=af (λW hW=>(h.below hW).blk.cell 0 rfl);have hbd:=Clk.zo (B:=1099511627776) (by decide) hs h4;obtain⟨A,cc,rfl,-,-,-,-⟩:=h.sees.at_;unfold jb;have hwn:(wiB m (avg l)=true/\-m<=avg l/\avg l<=m)\/(wiB m (avg l)=false/\avg l < -m)\/(wiB m (avg l)=false/\m<avg l):=by
  by_cases h:-m<=avg l/\avg l<=m
  ·exact .inl ⟨av h,h⟩
  ·by_cases h':avg l < -m
   ·exact .inr (.inl ⟨aj h,h'⟩)
   ·exact .inr (.inr ⟨aj h,by omega⟩)
 obtain⟨m1,m2⟩:=hm;obtain⟨b1,b2⟩:=hbd;generalize avg l=r at *;generalize wiB m r=q at *;clear h hs h4;rcases hwn with⟨rfl,d1,d2⟩|⟨rfl,d1⟩|⟨rfl,d1⟩
 all_goals
  go_enter Tryz.func182,Tryz.ntmps182
  go_wp2_with fail;refine R.o.mono ?_;rintro e w1 ⟨rfl,hb1⟩;have c0:=HC.o w1 hb1;go_wp2;go_ret2;exact⟨rfl,hb1⟩
theorem Ei(c:Cx 11)(g:Nat)(m:Int)(v:Value)(l:List Int)(n:Int)(w:World)(h:RKt c w g m v l)(h4:l.length<=4):
  Calls Tryz.prog 124 #[↑(g,11),↑n] w λe w'=>e=.returned (.tuple #[])/\(∃v',RKt c w' g m v' (iT l n)/\∀b,jv v'=some b->w.heap.size<=b)/\Only g w w':=by
 have HK4:Hid (l.length=4->iT l n=(l++[n]).drop 1):=af (λh=>by
  unfold iT;rw[au h,List.drop_append_of_le_length (by omega)])
 have HKn:Hid (¬l.length=4->iT l n=l++[n]):=af (λh=>by unfold iT;rw[ai h]);generalize iT l n=K at *;have a1:=bn (.cells #[] 3) (h.blk.cell 1 rfl);have hem:=af (uV w 3 rfl w w lr rfl);have hse:=af (h.sees.alloc (.cells #[] 3));have hgl:=h.blk.lt;have hbA:=af ((ah w w).alloc lr (.cells #[] 3));have HB:Hid (∀W,Below w w W->PB c W g #[↑m,v]):=af (λW hW=>h.blk.below hW h.blk.lt);clear h
 go_enter Tryz.func124,Tryz.ntmps124
 go_wp2_with (at_builtin;go_loud (refine pE _ rfl (.tmp 5) (.tmp 9) 33 rfl w oh Tryz.underlying33 _ [] hem.o rfl _ v l rfl hse.o (by simp) (by simp;omega) ?_));intro v1 w1 ho1 hx1;have hb1:=hbA.o.trans (hx1.toBelow (B:=w.heap.size) (by simp) (λj hj=>by simp[Value.ownBlock]at hj;omega));have ho1:OwnsI w1 w v1 l:=ho1;clear a1 hem hse hbA hx1;have hsX:=af (tE w1 3 #[↑n] [n] rfl (w1.heap.size+1) (by omega) (by simp[maxLen]) _ 1 1 rfl rfl rfl);go_wp2_with (at_builtin;go_loud (refine pE _ rfl (.tmp 10) (.tmp 12) 33 rfl w oh Tryz.underlying33 _ l (ho1.alloc _) rfl _ _ [n] rfl hsX.o (by have:=hb1.size;simp;omega) (by simp;omega) ?_));intro v2 w2 ho2 hx2;have hb2:=(hb1.alloc hb1.size (.cells #[↑n] 3)).trans (hx2.toBelow (B:=w.heap.size) (by have:=hb1.size;simp;omega) (λj hj=>(ho1.lt j hj).1));have hB2:=HB.o w2 hb2;have d1:=hB2.cell 1 rfl;have e1:=hB2.frozen 12;obtain⟨b,cp,rfl,k1,k2,k3,k4⟩:=ho2.uW (by simp);have hl5:(l++[n]).length=l.length+1:=by simp
 have hown2:=af ho2;have hs2:=af (ho2.sees.only (g:=g) ((aE g w2).set 12 (.slice (some (b,0)) (l++[n]).length cp)) lr (by simp[jv];omega));have hB3:=af (hB2.set 1 (by simp) (.slice (some (b,0)) (l++[n]).length cp));rw[hl5]at hs2 hB3 k1 ⊢;have H5:=af hl5;clear hl5 hown2 ho2 ho1 hx2 hsX;by_cases hl:l.length=4
 ·have q1:decide ((4:Int)<((l.length:Nat):Int)+1)=true:=av (by omega)
  have q2:¬cp=1:=by omega
  have hs4:=af (hs2.o.sub H5.o.symm 1 (l.length+1) (by omega) lr (by omega) (o:=1) (by omega) (m:=l.length+1-1) rfl (c':=cp-1) rfl);have hs5:=af (hs4.o.only (g:=g) ((aE g _).set 12 (.slice (some (b,1)) (l.length+1-1) (cp-1))) (by simp[World.setCell]) (by simp[jv];omega));have hB5:=af (hB3.o.set 1 (by simp) (.slice (some (b,1)) (l.length+1-1) (cp-1)));have HL:=af hl;clear hl hs4;go_wp2;refine aD (ax (by rfl) _ _ _) rfl ⟨rfl,⟨.slice (some (b,1)) (l.length+1-1) (cp-1),?_⟩,((iQ g hb2).trans ((aE g w2).set 12 _)).set 12 _⟩;rw[HK4.o HL.o];have h1:=hs5.o;rw[gE (by simp)]at h1;exact⟨⟨hB5.o,h1.more (by simp[World.setCell]),(by simp[jv];omega)⟩,λj hj=>by simp[jv]at hj;omega⟩
 ·have q1:decide ((4:Int)<((l.length:Nat):Int)+1)=false:=aj (by omega)
  have hKn:=af (HKn.o hl);clear hl;go_wp2;refine aD (ax (by rfl) _ _ _) rfl ⟨rfl,⟨.slice (some (b,0)) (l.length+1) cp,?_⟩,(iQ g hb2).trans ((aE g w2).set 12 _)⟩;rw[hKn.o];exact⟨⟨hB3.o,hs2.o.more (by simp[World.setCell]),(by simp[jv];omega)⟩,λj hj=>by simp[jv]at hj;omega⟩
end
section
set_option maxRecDepth 100000
set_option maxHeartbeats 2000000
open Go.RowKit
def SRt(G:Nat->Prop)(F:List Nat)(W:World)(g:Nat)(s:MS):Prop:=(∃V,Blk W g (stc V s.a s.g) 167/\∀i,i<8->jr G F W (V i) (s.d i))/\s.ok
section
variable {G:Nat->Prop}{F:List Nat}{W W':World}{g g':Nat}{s s':MS}
theorem SRt.lt(h:SRt G F W g s):g<W.heap.size:=by
 obtain⟨⟨V,hB,-⟩,-⟩:=h;exact hB.lt
theorem SRt.below(h:SRt G F W g s)(k:Below W W W'):SRt G F W' g s:=by
 obtain⟨⟨V,hB,hD⟩,hk⟩:=h;exact⟨⟨V,hB.below k hB.lt,λi hi=>(hD i hi).keep (ku k)⟩,hk⟩
theorem SRt.alike(h:SRt G F W g s)(hd:∀i,i<8->s.d i=s'.d i)(ha:∀i,i<8->s.a i=s'.a i)(hg:∀i,i<8->s.g i=s'.g i):SRt G F W g s':=by
 obtain⟨⟨V,hB,hD⟩,hk⟩:=h;refine⟨⟨V,hB.eq (En (λ_ _=>rfl) ha hg),λi hi=>hd i hi▸hD i hi⟩,⟨λi hi=>hd i hi▸hk.len i hi,λi hi=>hd i hi▸hk.byt i hi,λi hi=>ha i hi▸hk.lo i hi,λi hi=>ha i hi▸hk.hi i hi⟩⟩
theorem SRt.cd(h:SRt G F W g s){i:Nat}(hi:i<8):∃v,W.cell? (g,i*3)=some v/\jr G F W v (s.d i):=by
 obtain⟨⟨V,hB,hD⟩,-⟩:=h;exact⟨V i,hB.cell _ (Eo _ _ _ hi),hD i hi⟩
theorem SRt.cs(h:SRt G F W g s){i:Nat}(hi:i<8):∃A c,W.cell? (g,i*3)=some (.slice A (s.d i).length c)/\jr G F W (.slice A (s.d i).length c) (s.d i):=by
 obtain⟨v,h1,h2⟩:=h.cd hi;obtain⟨A,c,rfl,-⟩:=h2.1.1.at_;exact⟨A,c,h1,h2⟩
theorem SRt.ca(h:SRt G F W g s){i:Nat}(hi:i<8):W.cell? (g,i*3+1)=some ↑(s.a i):=by
 obtain⟨⟨V,hB,hD⟩,-⟩:=h;exact hB.cell _ (Ep _ _ _ hi)
theorem SRt.cg(h:SRt G F W g s){i:Nat}(hi:i<8):W.cell? (g,i*3+2)=some ↑(s.g i):=by
 obtain⟨⟨V,hB,hD⟩,-⟩:=h;exact hB.cell _ (Er _ _ _ hi)
theorem SRt.frozen(h:SRt G F W g s)(o:Nat):W.frozen? (g,o)=false:=by
 obtain⟨⟨V,hB,hD⟩,-⟩:=h;exact hB.frozen _
abbrev ij:=@SRt.frozen
theorem SRt.OP{F':List Nat}(h:SRt G F W g s)(hs:∀i,i<8->s.d i=[]):SRt G F' W g s:=by
 obtain⟨⟨V,hB,hD⟩,hk⟩:=h;exact⟨⟨V,hB,λi hi=>⟨⟨(hD i hi).1.1,λ_ _ hl=>absurd (hs i hi) hl⟩,(hD i hi).2⟩⟩,hk⟩
theorem SRt.drew(h:SRt G F W g s):SRt G F W.drew g s:=h.below (ah _ W).drew
theorem SRt.rG(h:SRt G F W g s)(hg:g∈F){i:Nat}(hi:i<8){v:Value}{l:List Int}(hv:jr G F W v l)(hl:l.length<=8)(hb:iK l):SRt G F (W.setCell (g,i*3) v) g {s with d:=upd s.d i l}:=by
 obtain⟨⟨V,hB,hD⟩,hk⟩:=h;have hkp:Kp F W (W.setCell (g,i*3) v):=((aE g W).set _ _).kp hg;refine⟨⟨upd V i v,(hB.set _ _).eq (Es _ _ _ hi _),λj hj=>?_⟩,⟨λj hj=>?_,λj hj=>?_,hk.lo,hk.hi⟩⟩<;>simp only[upd]<;>split
 ·exact hv.keep hkp
 ·exact(hD j hj).keep hkp
 ·exact hl
 ·exact hk.len j hj
 ·exact hb
 ·exact hk.byt j hj
theorem SRt.oW(h:SRt G F W g s)(hg:g∈F){i:Nat}(hi:i<8)(a:Int)(hl:-1<=a)(hh:a<=65535):SRt G F (W.setCell (g,i*3+1) ↑a) g {s with a:=upd s.a i a}:=by
 obtain⟨⟨V,hB,hD⟩,hk⟩:=h;have hkp:Kp F W (W.setCell (g,i*3+1) ↑a):=((aE g W).set _ _).kp hg;refine⟨⟨V,(hB.set _ _).eq (Et _ _ _ hi _),λj hj=>(hD j hj).keep hkp⟩,⟨hk.len,hk.byt,λj hj=>?_,λj hj=>?_⟩⟩<;>simp only[upd]<;>split
 ·exact hl
 ·exact hk.lo j hj
 ·exact hh
 ·exact hk.hi j hj
theorem SRt.rH(h:SRt G F W g s)(hg:g∈F){i:Nat}(hi:i<8)(b:Bool):SRt G F (W.setCell (g,i*3+2) ↑b) g {s with g:=upd s.g i b}:=by
 obtain⟨⟨V,hB,hD⟩,hk⟩:=h;have hkp:Kp F W (W.setCell (g,i*3+2) ↑b):=((aE g W).set _ _).kp hg;exact⟨⟨V,(hB.set _ _).eq (Eu _ _ _ hi _),λj hj=>(hD j hj).keep hkp⟩,⟨hk.len,hk.byt,hk.lo,hk.hi⟩⟩
end
theorem SRt.mono{G G':Nat->Prop}{F:List Nat}{W:World}{g:Nat}{s:MS}(h:SRt G F W g s)(hG:∀b,G b->G' b):SRt G' F W g s:=by
 obtain⟨⟨V,hB,hD⟩,hk⟩:=h;exact⟨⟨V,hB,λi hi=>⟨(hD i hi).1,λh0 b hb=>hG b ((hD i hi).2 h0 b hb)⟩⟩,hk⟩
theorem uE(G:Nat->Prop)(F:List Nat)(g:Nat)(s:MS)(n:Int)(b:Bool)(w:World)(h:SRt G F w g s)(hg:g∈F):
  Calls Tryz.prog 132 #[↑(g,0),↑n,↑b] w λe w'=>e=.returned (.tuple #[])/\SRt G F w' g (s.member n b)/\Only g w w':=by
 have HN:=λW=>af (xO n W);by_cases hn:isN n
 ·rw[av hn]at HN
  rw[show s.member n b={s with g:=upd s.g n.toNat b} by unfold MS.member;rw[au hn]];unfold isN at hn;obtain⟨i,rfl⟩:∃i:Nat,n=i:=⟨n.toNat,by omega⟩;have hi:i<8:=by omega
  rw[aQ];have c:=SRt.cg h hi;have f:=ij h (i*3+2);have H:=af (SRt.rH h hg hi b);clear h
  go_enter Tryz.func132,Tryz.ntmps132
  go_wp2_with fail;refine(HN _).o.mono ?_;rintro _ _ ⟨rfl,rfl⟩;go_wp2;exact aD (ax (by rfl) _ _ _) rfl ⟨rfl,H.o,(aE g _).set _ _⟩
 ·rw[aj hn]at HN
  rw[show s.member n b=s by unfold MS.member;rw[ai hn]]
  go_enter Tryz.func132,Tryz.ntmps132
  go_wp2_with fail;refine(HN _).o.mono ?_;rintro _ _ ⟨rfl,rfl⟩;go_wp2;exact aD (ax (by rfl) _ _ _) rfl ⟨rfl,h,aE _ _⟩
theorem DV(G:Nat->Prop)(F:List Nat)(g:Nat)(s:MS)(w:World)(h:SRt G F w g s)(hg:g∈F):
  Calls Tryz.prog 92 #[↑(g,0)] w λe w'=>e=.returned (.tuple #[])/\SRt G F w' g MS.new/\Only g w w':=by
 go_enter Tryz.func92,Tryz.ntmps92
 go_wp2_with fail
 go_loopw [2] (λi wr=>∃k:Nat,k<=8/\i=↑k/\SRt G F wr g (s.clr k)/\Only g w wr) (λi _=>8-(intOf i).toNat)
 case atStart=>exact⟨0,by omega,rfl,SRt.alike h (λ_ _=>rfl) (λ_ _=>rfl) (λ_ _=>rfl),aE _ _⟩
 case round=>
  clear h;obtain⟨k,hk,rfl,h,o⟩:=hrel;by_cases hlt:k<8
  ·have r1:decide ((k:Int)<8)=true:=av (by omega)
   obtain⟨v,c0,-⟩:=SRt.cd h hlt;have c1:=SRt.ca h hlt;have c2:=SRt.cg h hlt;have f0:=ij h (k*3);have f1:=ij h (k*3+1);have f2:=ij h (k*3+2);have H:=af (SRt.alike (SRt.rH (SRt.oW (SRt.rG h hg hlt jr.nil (by simp) (λx hx=>by simp at hx)) hg hlt (-1) (by omega) (by omega)) hg hlt false) (s':=s.clr (k+1)) (λi _=>(qm s k).1 i) (λi _=>(qm s k).2.1 i) (λi _=>(qm s k).2.2 i));clear h;go_wp2;go_roundw
   case rel=>exact⟨k+1,by omega,by go_num,H.o,((o.set _ _).set _ _).set _ _⟩
   case measure=>simp[intOf];omega
  ·obtain rfl:k=8:=by omega
   go_wp2;exact aD (ax (by rfl) _ _ _) rfl ⟨rfl,SRt.alike h (λi hi=>by simp[MS.clr,MS.new,hi]) (λi hi=>by simp[MS.clr,MS.new,hi]) (λi hi=>by simp[MS.clr,MS.new,hi]),o⟩
theorem Ec(G:Nat->Prop)(F:List Nat)(g:Nat)(s:MS)(w:World)(h:SRt G F w g s)(hg:g∈F):
  Calls Tryz.prog 183 #[↑(g,0)] w λe w'=>e=.returned (.tuple #[])/\SRt G F w' g s.age/\Only g w w':=by
 have hok:=h.2
 go_enter Tryz.func183,Tryz.ntmps183
 go_wp2_with fail
 go_loopw [2] (λi wr=>∃k:Nat,k<=8/\i=↑k/\SRt G F wr g (s.agd k)/\Only g w wr) (λi _=>8-(intOf i).toNat)
 case atStart=>exact⟨0,by omega,rfl,SRt.alike h (λ_ _=>rfl) (λ_ _=>rfl) (λ_ _=>rfl),aE _ _⟩
 case round=>
  clear h;obtain⟨k,hk,rfl,h,o⟩:=hrel;by_cases hlt:k<8
  ·have r1:decide ((k:Int)<8)=true:=av (by omega)
   have c1:=SRt.ca h hlt;have f1:=ij h (k*3+1);have e1:(s.agd k).a k=s.a k:=by simp[MS.agd]
   rw[e1]at c1;have l1:=hok.lo k hlt;have l2:=hok.hi k hlt;obtain⟨p1,p2⟩:=Ev l1 l2;have H:=af (SRt.alike (SRt.oW h hg hlt (older (s.a k)) p1 p2) (s':=s.agd (k+1)) (λi _=>rfl) (λi _=>Ew s k i) (λi _=>rfl));by_cases hpos:0<=s.a k
   ·have q2:decide ((0:Int)<=s.a k)=true:=av hpos
    have e2:older (s.a k)=if 65535<s.a k+1 then 65535 else s.a k+1:=by unfold older;rw[au hpos];split<;>omega
    rw[e2]at H;clear h e1 e2 p1 p2;generalize s.a k=x at *;go_wp2_with fail
    go_region
    all_goals
     go_wp2;go_roundw
     case rel=>exact⟨k+1,by omega,by go_num,SRt.drew H.o,(o.set _ _).drew⟩
     case measure=>simp[intOf];omega
   ·have q2:decide ((0:Int)<=s.a k)=false:=aj hpos
    have e2:s.agd (k+1)=s.agd k:=by
     unfold MS.agd
     congr 1
     funext i
     rcases nX i k with h|h|h
     ·rw[au (by omega),au (by omega)]
     ·subst h;rw[au (by omega),ai (by omega)];unfold older;rw[ai hpos]
     ·rw[ai (by omega),ai (by omega)]
    clear H e1 p1 p2;go_wp2;go_roundw
    case rel=>exact⟨k+1,by omega,by go_num,e2▸h,o⟩
    case measure=>simp[intOf];omega
  ·obtain rfl:k=8:=by omega
   go_wp2;exact aD (ax (by rfl) _ _ _) rfl ⟨rfl,SRt.alike h (λi hi=>rfl) (λi hi=>by simp[MS.agd,MS.age,hi]) (λi hi=>rfl),o⟩
theorem Og(G:Nat->Prop)(w:World):
  Calls Tryz.prog 65 #[] w λe w'=>∃g,e=.returned (.pointer (some ⟨g,0,none⟩))/\w.heap.size<=g/\(∀F,SRt G F w' g MS.new)/\Below w w w':=by
 have H0:Hid (SRt G [w.heap.size] (w.alloc (.cells (stc (λ_=>.slice none 0 0) (λ_=>0) (λ_=>false)) 167)) w ⟨λ_=>[],λ_=>0,λ_=>false⟩):=af ⟨⟨_,aJ _ _ rfl _ _,λ_ _=>jr.nil⟩,⟨λ_ _=>by simp,λ_ _ x hx=>by simp at hx,λ_ _=>by simp,λ_ _=>by simp⟩⟩;have HC:=λW(h:SRt G [w.heap.size] W w ⟨λ_=>[],λ_=>0,λ_=>false⟩)=>af (DV G [w.heap.size] w _ W h (by simp));have hb:=(ah w w).alloc lr (.cells (stc (λ_=>.slice none 0 0) (λ_=>0) (λ_=>false)) 167);have hz:(w.alloc (.cells (stc (λ_=>.slice none 0 0) (λ_=>0) (λ_=>false)) 167)).heap.size=w.heap.size+1:=by simp
 unfold stc at H0 hb hz
 go_enter Tryz.func65,Tryz.ntmps65
 go_wp2_with fail;refine(HC _ H0.o).o.mono ?_;rintro _ w2 ⟨rfl,h2,o2⟩;have hb2:=hb.trans (o2.below lr (by rw[hz];omega));go_wp2;go_ret;exact⟨_,rfl,aR _,λF=>SRt.OP h2 (λi _=>rfl),hb2⟩
theorem D9(G:Nat->Prop)(F:List Nat)(g:Nat)(s:MS)(n:Int)(w:World)(h:SRt G F w g s):
  Calls Tryz.prog 47 #[↑(g,0),↑n] w λe w'=>∃v,e=.returned (.agg #[v,↑(s.ga n),↑(s.gg n)])/\iI w' w' v (s.gd n)/\Below w w w':=by
 have HN:=λW=>af (xO n W);by_cases hn:isN n
 ·rw[av hn]at HN
  rw[show s.ga n=s.a n.toNat by unfold MS.ga;rw[au hn],show s.gg n=s.g n.toNat by unfold MS.gg;rw[au hn],show s.gd n=s.d n.toNat by unfold MS.gd;rw[au hn]];unfold isN at hn;obtain⟨i,rfl⟩:∃i:Nat,n=i:=⟨n.toNat,by omega⟩;have hi:i<8:=by omega
  rw[aQ];have hgl:=SRt.lt h;obtain⟨A,c,c0,hD⟩:=SRt.cs h hi;have c1:=SRt.ca h hi;have c2:=SRt.cg h hi;have HD:=af hD;clear hD;clear h
  go_enter Tryz.func47,Tryz.ntmps47
  go_wp2_with fail;refine(HN _).o.mono ?_;rintro _ w1 ⟨rfl,rfl⟩;go_wp2;refine aK (v:=.agg #[.slice A (s.d i).length c,↑(s.a i),↑(s.g i)]) ?_ rfl ?_
  ·rw[j4 rfl]
   go_simp
  ·refine⟨_,rfl,Ey HD.o.1 ?_⟩
   (repeat' (first|exact ah _ _|exact aR _|(with_reducible refine aU ?_ ?_ _)|(with_reducible refine bE ?_ lr _)|(with_reducible refine aC ?_ _)|(with_reducible refine bL ?_)))
 ·rw[aj hn]at HN
  rw[show s.ga n=-1 by unfold MS.ga;rw[ai hn],show s.gg n=false by unfold MS.gg;rw[ai hn],show s.gd n=[] by unfold MS.gd;rw[ai hn]];clear h
  go_enter Tryz.func47,Tryz.ntmps47
  go_wp2_with fail;refine(HN _).o.mono ?_;rintro _ w1 ⟨rfl,rfl⟩;go_wp2;refine aK (v:=.agg #[.slice none 0 0,↑(-1:Int),↑false]) ?_ rfl ?_
  ·rw[j4 rfl]
   go_simp
  ·refine⟨_,rfl,Ey (F:=[]) Dat.nil ?_⟩
   (repeat' (first|exact ah _ _|exact aR _|(with_reducible refine aU ?_ ?_ _)|(with_reducible refine bE ?_ lr _)|(with_reducible refine aC ?_ _)|(with_reducible refine bL ?_)))
theorem xL(G:Nat->Prop)(F:List Nat)(g:Nat)(s:MS)(n:Int)(v:Value)(l:List Int)(B:Nat)(w:World)(h:SRt G F w g s)(hg:g∈F)(hF:∀f,f∈F->f<w.heap.size)(hGn:∀b,w.heap.size<=b->G b)(hv:iI w B v l)(hl:iK l):
  Calls Tryz.prog 129 #[↑(g,0),↑n,v] w λe w'=>e=.returned (.tuple #[])/\SRt G F w' g (s.put n l)/\Only g w w':=by
 have HN:=λW=>af (xO n W);obtain⟨A,c,rfl,v1,v2,v3,v4⟩:=hv.at_;unfold maxLen at v2;by_cases hn:isN n
 case neg=>
  rw[aj hn]at HN;rw[show s.put n l=s by unfold MS.put;rw[ai (λh=>hn h.1)]];clear v3 v4
  go_enter Tryz.func129,Tryz.ntmps129
  go_wp2_with fail;refine(HN _).o.mono ?_;rintro _ _ ⟨rfl,rfl⟩;go_wp2;exact aD (ax (by rfl) _ _ _) rfl ⟨rfl,h,aE _ _⟩
 rw[av hn]at HN;by_cases h8:l.length<=8
 case neg=>
  have q8:decide (((l.length:Nat):Int)<=8)=false:=aj (by omega);rw[show s.put n l=s by unfold MS.put;rw[ai (λh=>h8 h.2)]];clear v3 v4
  go_enter Tryz.func129,Tryz.ntmps129
  go_wp2_with fail;refine(HN _).o.mono ?_;rintro _ _ ⟨rfl,rfl⟩;go_wp2;exact aD (ax (by rfl) _ _ _) rfl ⟨rfl,h,aE _ _⟩
 have q8:decide (((l.length:Nat):Int)<=8)=true:=av (by omega);rw[show s.put n l=⟨upd s.d n.toNat l,upd s.a n.toNat 0,s.g⟩ by unfold MS.put;rw[au ⟨hn,h8⟩]];unfold isN at hn;obtain⟨i,rfl⟩:∃i:Nat,n=i:=⟨n.toNat,by omega⟩;have hi:i<8:=by omega
 rw[aQ];have hv:=af hv;clear v3 v4
 go_enter Tryz.func129,Tryz.ntmps129
 go_wp2_with fail;refine(HN _).o.mono ?_;rintro _ w1 ⟨rfl,rfl⟩;go_wp2_with fail
 go_region_law (first
  |((refine Jp _ rfl (.tmp 17) (.tmp 18) 41 rfl w1 kx Tryz.underlying41 (.slice (some (w1,0)) 0 0) [] ?_ rfl B (.slice A l.length c) l rfl ?_ ?_ ?_ ?_);(focus (exact(mL _ _ rfl _ _ lr rfl).drew));(focus (exact(hv.o.alloc _).drew));(focus (simp));(focus (simp;omega));intro v2 w2 ho2 hx2;(have hb2:=(((ah w1 w1).alloc lr (.cells #[] 5)).drew).trans (hx2.toBelow (B:=w1.heap.size) (by simp) (λj hj=>by cases hj;exact aR _)));(have hD2:jr G F w2 v2 l:=⟨iJ.dat (F:=F) ho2 hF,λ_ b hb=>hGn b (ho2.lt b hb).1⟩);(obtain⟨A2,d2,rfl,-⟩:=hD2.1.1.at_);(have hE2:=af hD2);clear hD2;(have h2:=SRt.below h hb2);(have cd2:=SRt.cd h2 hi);(have ca2:=SRt.ca h2 hi);(have f2:=ij h2 (i*3));(have f2':=ij h2 (i*3+1));(obtain⟨u2,cu2,-⟩:=cd2);(have o2:=af (iQ g hb2));(have h2:=af h2);clear hb2 hx2 ho2))
 all_goals exact aD (ax (by rfl) _ _ _) rfl ⟨rfl,SRt.oW (SRt.rG h2.o hg hi hE2.o h8 hl) hg hi 0 (by omega) (by omega),(o2.o.set _ _).set _ _⟩
end
end Go.Proofs.YteadkhigkmijiaaGreat
