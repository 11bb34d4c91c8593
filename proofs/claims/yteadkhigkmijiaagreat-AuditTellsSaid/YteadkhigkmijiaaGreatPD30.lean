/- Texts GdE, GdG, GdL, QmD in one. -/
import Derived.Deep.RegionWith
import Derived.Test.YteadkhigkmijiaaGreatPD1
import Derived.Test.YteadkhigkmijiaaGreatPD6
import Derived.Test.YteadkhigkmijiaaGreatPD17
import Derived.Test.YteadkhigkmijiaaGreatPD18
import Derived.Test.YteadkhigkmijiaaGreatPD20
import Derived.Test.YteadkhigkmijiaaGreatPD23
import Derived.Test.YteadkhigkmijiaaGreatPD29
set_option linter.all false
namespace Go.Proofs.YteadkhigkmijiaaGreat
section
set_option maxRecDepth 100000
set_option maxHeartbeats 4000000
open Go.RowKit
open Tb (D T)
def newG(t:T):G:={sy:=λk=>(t.ns.getD k default).sy,n:=t.ns.length,wi:=t.wi,lm:=t.lm,l:=[],now:=0,kn:=false,slot:=0,si:=0}
def nM(t:T)(k:Nat):G:={newG t with sy:=λj=>if j<k then(t.ns.getD j default).sy else false}
theorem J4(t:T):nM t t.ns.length=newG t:=by
 have e:(λj=>if j<t.ns.length then(t.ns.getD j default).sy else false)=λj=>(t.ns.getD j default).sy:=by
  funext j
  split
  ·rfl
  ·rename_i h
   rw[ay,aY (by omega)]
   rfl
 unfold nM;rw[e]
 rfl
theorem J5(t:T)(k:Nat)(hk:k<8):(grd (nM t k)).setIfInBounds k ↑(t.ns.getD k default).sy=grd (nM t (k+1)):=by
 rcases(by omega:k=0\/k=1\/k=2\/k=3\/k=4\/k=5\/k=6\/k=7)with rfl|rfl|rfl|rfl|rfl|rfl|rfl|rfl<;>simp[grd,nM,newG]
theorem J6(t:T)(v:Value)(w:World)(hv:jh w w v t.ns)(ht:t.is=true):
  Calls Tryz.prog 56 #[jW t v] w λe w'=>∃g,e=.returned (.tuple #[.pointer (some ⟨g,0,none⟩),↑(0:Int)])/\w.heap.size<=g/\GAt w' g (newG t)/\Below w w w':=by
 have hmay:=Tb.T.may ht;obtain⟨A,c,rfl,v1,v2,v3,-⟩:=hv.at_;have hB0:=(ah w w).alloc lr (.cells #[.slice A t.ns.length c,↑t.dr,↑t.wi,↑t.lm] 31);have hX:=aJ w _ rfl #[.slice A t.ns.length c,↑t.dr,↑t.wi,↑t.lm] 31;have hI:=af (vT t (.slice A t.ns.length c) (w.alloc (.cells #[.slice A t.ns.length c,↑t.dr,↑t.wi,↑t.lm] 31)) w (by simp) (hv.below hB0));rw[ht]at hI;unfold jW at hI ⊢;have HV:=af v3;clear hv v3;have t0:=hX.cell 0 (x:=.slice A t.ns.length c) rfl;have t1:=hX.cell 1 (x:=↑t.dr) rfl;have t2:=hX.cell 2 (x:=↑t.wi) rfl;have t3:=hX.cell 3 (x:=↑t.lm) rfl
 go_enter Tryz.func56,Tryz.ntmps56
 go_wp2_with fail;refine hI.o.mono ?_;rintro e w2 ⟨rfl,hb2⟩;have HX:Hid (∀W,Below w2 w2 W->W.cell? (w,0)=some (.slice A t.ns.length c)/\W.cell? (w,2)=some ↑t.wi/\W.cell? (w,3)=some ↑t.lm):=af λW hW=>by
  have hz:=hb2.size;simp only[gy]at hz;have hx:=(hX.below hb2 hX.lt).below hW (by omega);exact⟨hx.cell 0 rfl,hx.cell 2 rfl,hx.cell 3 rfl⟩
 obtain⟨u0,u2,u3⟩:=HX.o w2 (ah _ _);have hb0:=ah w2 w2;have HN:=λW(hW:W.heap.size=w2.heap.size)=>af (show Calls Tryz.prog 59 #[↑t.lm] W λe w'=>e=.returned ↑(w2,0)/\oq w' w2 t.lm []/\Below w2 W w'/\w'.heap.size=w2.heap.size+1 from hW▸zk t.lm W);go_wp2_with fail
 go_cut [4]from 10 (λs4 W=>∃g,s4=.pointer (some ⟨g,0,none⟩)/\w2.heap.size<=g/\GAt W g (nM t 0)/\Below w2 w2 W)
 case first=>
  go_region_with (first
   |((go_at_call 59;(with_reducible refine(HN _ ?_).o.mono ?_));(first|rfl|simp);rintro e w3 ⟨rfl,hc3,hb3,hz3⟩;obtain⟨k0,k1,k2,k3,k4,k5⟩:=hc3.cells;have hb1:=hb0.drew.trans hb3;obtain⟨u0,u2,u3⟩:=HX.o _ hb1)
   |fail)
  all_goals
   go_wp2_with fail
   go_meet
   refine⟨_,rfl,?_,⟨aJ _ _ ?_ _ _,by simp[nM,newG]⟩,?_⟩
   ·omega
   ·first|exact hz3.symm|(simp;omega)
   ·exact hb1.alloc hb1.size _
 case rest=>
  obtain⟨g,rfl,hg,hG,hb⟩:=hcut;have HS:=af (J4 t);have HP:=λk hk=>af (J5 t k hk);have hn8:=hmay.n8;obtain⟨u0,u2,u3⟩:=HX.o _ hb;clear HX HN hI hX t0 t1 t2 t3;go_wp2
  go_loopw [25] (λi wr=>∃k:Nat,k<=t.ns.length/\i=↑k/\GAt wr g (nM t k)/\Below w2 w2 wr) (λi _=>t.ns.length-(intOf i).toNat)
  case atStart=>exact⟨0,by omega,rfl,hG,hb⟩
  case round=>
   obtain⟨k,hk,rfl,hGk,hbk⟩:=hrel;by_cases hlt:k<t.ns.length
   ·have q1:decide ((k:Int)<(t.ns.length:Int))=true:=av (by omega)
    have hS:=HV.o.below ((hB0.trans (hb2.mono hB0.size)).trans (hbk.mono (by have:=hb2.size;simp at this;omega)));obtain⟨b,off,rfl,hbb,hd⟩:=hS (by omega);obtain⟨d0,d1,d2,d3⟩:=hd k hlt;have i1:(0:Int)<=(k:Int):=by omega
    have i2:(k:Int)<8:=by omega
    have i3:(k:Int)<(t.ns.length:Int):=by omega
    have HPk:=af (HP k (by omega)).o;generalize t.ns.getD k default=d at *;have hbA:=(ah wr wr).alloc lr (.cells #[↑d.sy,↑d.inf,↑d.li,↑d.sz] 67);have hGA:=hGk.below hbA hGk.lt;have e0:=(aJ wr _ rfl #[↑d.sy,↑d.inf,↑d.li,↑d.sz] 67).cell 0 (x:=↑d.sy) rfl;have BN:=hbk.trans (hbA.mono hbk.size);go_wp2_with fail;generalize wr.alloc (.cells #[↑d.sy,↑d.inf,↑d.li,↑d.sz] 67)=wA at *;clear d0 d1 d2 d3 hd hS hbA hGk hbk;have fk:=hGA.1.frozen k;have ck:=hGA.1.cell k (vR _ k (by omega));have HG:=af hGA;have HB:=af BN;clear hGA BN
    go_region
    go_wp2;go_roundw
    case rel=>exact⟨k+1,by omega,by go_num,⟨(HG.o.1.set k ↑d.sy).drew.eq HPk.o,HG.o.2⟩,(HB.o.setCell (p:=(g,k)) hg _).drew⟩
    case measure=>simp[intOf];omega
   ·have q1:decide ((k:Int)<(t.ns.length:Int))=false:=aj (by omega)
    obtain rfl:k=t.ns.length:=by omega
    go_wp2;go_ret2;exact⟨g,rfl,by have:=hb2.size;simp at this;omega,HS.o▸hGk,(hB0.trans (hb2.mono hB0.size)).trans (hbk.mono (by have:=hb2.size;simp at this;omega))⟩
end
section
open Go.RowKit
open Tb (D T)
end
section
open Go.RowKit
open Clk (avg)
open Fr (St F)
def G.told(s:G)(k:Nat)(at_:Int):G:={s with kn:=true,slot:=(k+1)%s.n,now:=at_,si:=0,l:=[]}
end
section
set_option maxRecDepth 100000
set_option maxHeartbeats 4000000
open Go.RowKit
theorem Air.nO(f:Ft)(x:Air)(h4:f.k≠4)(h7:f.k≠7):x.fault f={x with s:=upV x.s f.n.toNat ((x.s f.n.toNat).fault f)}:=by
 unfold Air.fault;rw[ai h4,ai h7]
 congr 1
 funext i
 unfold upV;by_cases e:i=f.n.toNat
 ·rw[au e,au e,e]
 ·rw[ai e,ai e]
def nB(ab:Nat)(f:Ft)(x:Air)(w:World)(e:Ending)(w':World):Prop:=e=.returned (.tuple #[])/\∃V',jF w' ab V' (x.fault f)/\Only ab w w'
theorem M5(V:Nat->Value)(x:Air)(j:Nat)(hj:j<2)(a:Int)(dl:List Int):(jC V x).setIfInBounds (24+j) ↑true=jC V (x.fault ⟨4,(j:Nat),a,dl⟩):=by
 rw[M0 V x j hj];unfold Air.fault;rw[au rfl];refine qY (λ_ _=>rfl) (λ_ _=>rfl) (λ_ _=>rfl) (λi _=>?_) (λ_ _=>rfl);show upV x.bl j true i=(x.bl i||decide (((j:Nat):Int)=(i:Int)));unfold upV;by_cases e:i=j
 ·subst e;simp
 ·rw[ai e,aj (by omega),gX]
theorem M6(V:Nat->Value)(x:Air)(j:Nat)(hj:j<2)(a:Int)(dl:List Int):(jC V x).setIfInBounds (26+j) ↑true=jC V (x.fault ⟨7,(j:Nat),a,dl⟩):=by
 rw[M4 V x j hj];unfold Air.fault;rw[ai (by simp),au rfl];refine qY (λ_ _=>rfl) (λ_ _=>rfl) (λ_ _=>rfl) (λ_ _=>rfl) (λi _=>?_);show upV x.lk j true i=(x.lk i||decide (((j:Nat):Int)=(i:Int)));unfold upV;by_cases e:i=j
 ·subst e;simp
 ·rw[ai e,aj (by omega),gX]
theorem M7(V:Nat->Value)(x:Air)(j:Nat)(hj:j<8)(a:Int)(dl:List Int):(jC V x).setIfInBounds (16+j) ↑true=jC V (x.fault ⟨3,(j:Nat),a,dl⟩):=by
 rw[MZ V x j hj,Air.nO ⟨3,(j:Nat),a,dl⟩ x (by simp) (by simp)]
 rfl
theorem qC(V:Nat->Value)(x:Air)(j:Nat)(hj:j<8)(a:Int)(dl:List Int):(jC V x).setIfInBounds (8+j) ↑((x.s j).at_+a:Int)=jC V (x.fault ⟨6,(j:Nat),a,dl⟩):=by
 rw[Dp V x j hj,Air.nO ⟨6,(j:Nat),a,dl⟩ x (by simp) (by simp)]
 rfl
theorem Dat.M8{F:List Nat}{W:World}:Dat F W (.slice none 0 0) []:=⟨gR,λ_ _ h=>absurd rfl h⟩
theorem Dq{W:World}{ab:Nat}{v:Value}{l:List Int}(h:iI W ab v l)(hb:ab<W.heap.size):Dat [ab] W v l:=⟨h.more (Nat.le_of_lt hb),λf hf h0 e=>by
 rw[bD.1 hf]at e;obtain⟨A,c,rfl,-,-,h3,-⟩:=h.at_;obtain⟨b,off,rfl,hb,-⟩:=h3 (aX.2 h0);simp only[Value.ownBlock,bB]at e;omega⟩
theorem M9(ab:Nat)(V:Nat->Value)(x:Air)(j:Nat)(a:Int)(dv:Value)(dl:List Int)(w:World)(h:jF w ab V x)(hj:j<8)(hd:iI w ab dv dl)(hy:iK dl)(h24:dl.length<=24):
  Calls Tryz.prog 118 #[↑(ab,0),.agg #[↑(1:Int),↑(j:Nat),↑a,dv]] w (nB ab ⟨1,(j:Nat),a,dl⟩ x w):=by
 have hb0:=(ah w w).alloc lr (.cells #[↑(1:Int),↑(j:Nat),↑a,dv] 56);have hX:=aJ w _ rfl #[↑(1:Int),↑(j:Nat),↑a,dv] 56;obtain⟨Ad,cd,rfl,-⟩:=hd.at_;have H:=h.below hb0;have hok:=h.ok.fault (f:=⟨1,(j:Nat),a,dl⟩) hy h24;have o0:=iQ ab hb0;have x0:=hX.cell 0 (x:=↑(1:Int)) rfl;have x1:=hX.cell 1 (x:=↑(j:Nat)) rfl;have x2:=hX.cell 2 (x:=↑a) rfl;have x3:=hX.cell 3 (x:=.slice Ad dl.length cd) rfl;have j8:(j:Int)<8:=by omega
 have y:=H.blk.cell (j) (nN V x j hj);have fz:=H.blk.frozen (j);have HH:=af (H.wW hj Dat.M8 (x':=x.fault ⟨1,(j:Nat),a,dl⟩) (Air.nO _ _ (by simp) (by simp)) hok).drew;have KK:=af (o0.set (j) (.slice none 0 0)).drew;clear hX h H hb0 hd o0 hok
 go_enter Tryz.func118,Tryz.ntmps118
 go_wp2_with fail
 go_region
 all_goals
  go_wp2;exact aD (ax (by rfl) _ _ _) rfl ⟨rfl,_,HH.o,KK.o⟩
theorem Na(ab:Nat)(V:Nat->Value)(x:Air)(j:Nat)(a:Int)(dv:Value)(dl:List Int)(w:World)(h:jF w ab V x)(hj:j<8)(hd:iI w ab dv dl)(hy:iK dl)(h24:dl.length<=24):
  Calls Tryz.prog 118 #[↑(ab,0),.agg #[↑(3:Int),↑(j:Nat),↑a,dv]] w (nB ab ⟨3,(j:Nat),a,dl⟩ x w):=by
 have hb0:=(ah w w).alloc lr (.cells #[↑(3:Int),↑(j:Nat),↑a,dv] 56);have hX:=aJ w _ rfl #[↑(3:Int),↑(j:Nat),↑a,dv] 56;obtain⟨Ad,cd,rfl,-⟩:=hd.at_;have H:=h.below hb0;have hok:=h.ok.fault (f:=⟨3,(j:Nat),a,dl⟩) hy h24;have o0:=iQ ab hb0;have x0:=hX.cell 0 (x:=↑(3:Int)) rfl;have x1:=hX.cell 1 (x:=↑(j:Nat)) rfl;have x2:=hX.cell 2 (x:=↑a) rfl;have x3:=hX.cell 3 (x:=.slice Ad dl.length cd) rfl;have j8:(j:Int)<8:=by omega
 have y:=H.blk.cell (16+j) (tQ V x j hj);have fz:=H.blk.frozen (16+j);have HH:=af (H.j5 (16+j) ↑true (M7 V x j hj a dl) (λi hi=>by rw[Air.nO ⟨3,(j:Nat),a,dl⟩ x (by simp) (by simp)];show(upV x.s j _ i).b=_;unfold upV;split<;>simp_all[Db.fault]) hok).drew;have KK:=af (o0.set (16+j) ↑true).drew;clear hX h H hb0 hd o0 hok
 go_enter Tryz.func118,Tryz.ntmps118
 go_wp2_with fail
 go_region
 all_goals
  go_wp2;exact aD (ax (by rfl) _ _ _) rfl ⟨rfl,_,HH.o,KK.o⟩
theorem Nb(ab:Nat)(V:Nat->Value)(x:Air)(j:Nat)(a:Int)(dv:Value)(dl:List Int)(w:World)(h:jF w ab V x)(hj:j<2)(hd:iI w ab dv dl)(hy:iK dl)(h24:dl.length<=24):
  Calls Tryz.prog 118 #[↑(ab,0),.agg #[↑(4:Int),↑(j:Nat),↑a,dv]] w (nB ab ⟨4,(j:Nat),a,dl⟩ x w):=by
 have hb0:=(ah w w).alloc lr (.cells #[↑(4:Int),↑(j:Nat),↑a,dv] 56);have hX:=aJ w _ rfl #[↑(4:Int),↑(j:Nat),↑a,dv] 56;obtain⟨Ad,cd,rfl,-⟩:=hd.at_;have H:=h.below hb0;have hok:=h.ok.fault (f:=⟨4,(j:Nat),a,dl⟩) hy h24;have o0:=iQ ab hb0;have x0:=hX.cell 0 (x:=↑(4:Int)) rfl;have x1:=hX.cell 1 (x:=↑(j:Nat)) rfl;have x2:=hX.cell 2 (x:=↑a) rfl;have x3:=hX.cell 3 (x:=.slice Ad dl.length cd) rfl;have j8:(j:Int)<2:=by omega
 have y:=H.blk.cell (24+j) (wU V x j hj);have fz:=H.blk.frozen (24+j);have HH:=af (H.j5 (24+j) ↑true (M5 V x j hj a dl) (λi hi=>rfl) hok).drew;have KK:=af (o0.set (24+j) ↑true).drew;clear hX h H hb0 hd o0 hok
 go_enter Tryz.func118,Tryz.ntmps118
 go_wp2_with fail
 go_region
 all_goals
  go_wp2;exact aD (ax (by rfl) _ _ _) rfl ⟨rfl,_,HH.o,KK.o⟩
theorem Nc(ab:Nat)(V:Nat->Value)(x:Air)(j:Nat)(a:Int)(dv:Value)(dl:List Int)(w:World)(h:jF w ab V x)(hj:j<2)(hd:iI w ab dv dl)(hy:iK dl)(h24:dl.length<=24):
  Calls Tryz.prog 118 #[↑(ab,0),.agg #[↑(7:Int),↑(j:Nat),↑a,dv]] w (nB ab ⟨7,(j:Nat),a,dl⟩ x w):=by
 have hb0:=(ah w w).alloc lr (.cells #[↑(7:Int),↑(j:Nat),↑a,dv] 56);have hX:=aJ w _ rfl #[↑(7:Int),↑(j:Nat),↑a,dv] 56;obtain⟨Ad,cd,rfl,-⟩:=hd.at_;have H:=h.below hb0;have hok:=h.ok.fault (f:=⟨7,(j:Nat),a,dl⟩) hy h24;have o0:=iQ ab hb0;have x0:=hX.cell 0 (x:=↑(7:Int)) rfl;have x1:=hX.cell 1 (x:=↑(j:Nat)) rfl;have x2:=hX.cell 2 (x:=↑a) rfl;have x3:=hX.cell 3 (x:=.slice Ad dl.length cd) rfl;have j8:(j:Int)<2:=by omega
 have y:=H.blk.cell (26+j) (wV V x j hj);have fz:=H.blk.frozen (26+j);have HH:=af (H.j5 (26+j) ↑true (M6 V x j hj a dl) (λi hi=>rfl) hok).drew;have KK:=af (o0.set (26+j) ↑true).drew;clear hX h H hb0 hd o0 hok
 go_enter Tryz.func118,Tryz.ntmps118
 go_wp2_with fail
 go_region
 all_goals
  go_wp2;exact aD (ax (by rfl) _ _ _) rfl ⟨rfl,_,HH.o,KK.o⟩
theorem Nf(ab:Nat)(V:Nat->Value)(x:Air)(j:Nat)(a:Int)(dv:Value)(dl:List Int)(w:World)(h:jF w ab V x)(hj:j<8)(hd:iI w ab dv dl)(hy:iK dl)(h24:dl.length<=24)(ha:-1000<=a/\a<=1000)(hs:∀i,i<8->wide (x.s i).at_):
  Calls Tryz.prog 118 #[↑(ab,0),.agg #[↑(6:Int),↑(j:Nat),↑a,dv]] w (nB ab ⟨6,(j:Nat),a,dl⟩ x w):=by
 have hb0:=(ah w w).alloc lr (.cells #[↑(6:Int),↑(j:Nat),↑a,dv] 56);have hX:=aJ w _ rfl #[↑(6:Int),↑(j:Nat),↑a,dv] 56;obtain⟨Ad,cd,rfl,-⟩:=hd.at_;have H:=h.below hb0;have hok:=h.ok.fault (f:=⟨6,(j:Nat),a,dl⟩) hy h24;have o0:=iQ ab hb0;have x0:=hX.cell 0 (x:=↑(6:Int)) rfl;have x1:=hX.cell 1 (x:=↑(j:Nat)) rfl;have x2:=hX.cell 2 (x:=↑a) rfl;have x3:=hX.cell 3 (x:=.slice Ad dl.length cd) rfl;have j8:(j:Int)<8:=by omega
 have y:=H.blk.cell (8+j) (nA V x j hj);have fz:=H.blk.frozen (8+j);have hw:=hs j hj;have w1:IntKind.i64.wrap ((x.s j).at_+a)=(x.s j).at_+a:=aO _ (by unfold wide at hw;omega);have HH:=af (H.j5 (8+j) ↑((x.s j).at_+a:Int) (qC V x j hj a dl) (λi hi=>by rw[Air.nO ⟨6,(j:Nat),a,dl⟩ x (by simp) (by simp)];show(upV x.s j _ i).b=_;unfold upV;split<;>simp_all[Db.fault]) hok).drew;have KK:=af (o0.set (8+j) ↑((x.s j).at_+a:Int)).drew;clear hX h H hb0 hd o0 hok hs hw;generalize(x.s j).at_=z at *
 go_enter Tryz.func118,Tryz.ntmps118
 go_wp2_with fail
 go_region
 all_goals
  go_wp2;exact aD (ax (by rfl) _ _ _) rfl ⟨rfl,_,HH.o,KK.o⟩
theorem Ng(ab:Nat)(V:Nat->Value)(x:Air)(j:Nat)(a:Int)(dv:Value)(dl:List Int)(w:World)(h:jF w ab V x)(hj:j<8)(hd:iI w ab dv dl)(hy:iK dl)(h24:dl.length<=24)(ha:-1000<=a/\a<=1000)(hs:∀i,i<8->wide (x.s i).at_):
  Calls Tryz.prog 118 #[↑(ab,0),.agg #[↑(5:Int),↑(j:Nat),↑a,dv]] w (nB ab ⟨5,(j:Nat),a,dl⟩ x w):=by
 have hb0:=(ah w w).alloc lr (.cells #[↑(5:Int),↑(j:Nat),↑a,dv] 56);have hX:=aJ w _ rfl #[↑(5:Int),↑(j:Nat),↑a,dv] 56;obtain⟨Ad,cd,rfl,-⟩:=hd.at_;have H:=h.below hb0;have hok:=h.ok.fault (f:=⟨5,(j:Nat),a,dl⟩) hy h24;have o0:=iQ ab hb0;have x0:=hX.cell 0 (x:=↑(5:Int)) rfl;have x1:=hX.cell 1 (x:=↑(j:Nat)) rfl;have x2:=hX.cell 2 (x:=↑a) rfl;have x3:=hX.cell 3 (x:=.slice Ad dl.length cd) rfl;have j8:(j:Int)<8:=by omega
 have y:=H.blk.cell j (nN V x j hj);have fz:=H.blk.frozen j;have hz0:(w.alloc (.cells #[↑(5:Int),↑(j:Nat),↑a,.slice Ad dl.length cd] 56)).heap.size=w.heap.size+1:=by simp
 have hlt:=h.lt;have hD:Dat [ab] (w.alloc (.cells #[↑(5:Int),↑(j:Nat),↑a,.slice Ad dl.length cd] 56)) (.slice Ad dl.length cd) dl:=Dq (hd.below (hb0.mono (by omega))) (by omega);have hy1:iK dl:=hy;have H1:=H.wW (u:=.slice Ad dl.length cd) (l:=dl) hj hD rfl ⟨λi=>by
  show Db.Ok (upV x.s j _ i);unfold upV
  split
  ·exact⟨hy1,by show dl.length<=50;omega⟩
  ·exact h.ok.s i⟩
 have hw:=hs j hj;have w1:IntKind.i64.wrap ((x.s j).at_+a)=(x.s j).at_+a:=aO _ (by unfold wide at hw;omega);have o1:=o0.set j (.slice Ad dl.length cd);have hX1:=hX.only ((aE ab _).set j (.slice Ad dl.length cd)) (by omega)
 go_enter Tryz.func118,Tryz.ntmps118
 go_wp2_with fail;generalize(w.alloc (.cells #[↑(5:Int),↑(j:Nat),↑a,.slice Ad dl.length cd] 56))=w0 at *;have hX1:=af hX1;have H1:=af H1;have o1:=af o1;clear H hX hD h
 go_region
 all_goals
  have hX1:=hX1.o;have H1:=H1.o;have o1:=o1.o;have H2:=H1.drew;have o2:=o1.drew;have hX2:=hX1.drew;generalize(World.setCell _ _ _).drew=w2 at *;clear x0 x1 x2 x3 y fz;have x0:=hX2.cell 0 (x:=↑(5:Int)) rfl;have x1:=hX2.cell 1 (x:=↑(j:Nat)) rfl;have x2:=hX2.cell 2 (x:=↑a) rfl;have y:=H2.blk.cell (8+j) (nA _ _ j hj);rw[show(({x with s:=upV x.s j {x.s j with b:=dl}}:Air).s j).at_=(x.s j).at_ by show(upV x.s j _ j).at_=_;unfold upV;rw[au rfl]]at y;have fz:=H2.blk.frozen (8+j);have HH:=af (H2.j5 (x':=x.fault ⟨5,(j:Nat),a,dl⟩) (8+j) ↑((x.s j).at_+a:Int) (by
   rw[Dp _ _ j hj,Air.nO ⟨5,(j:Nat),a,dl⟩ x (by simp) (by simp)];refine qY (λ_ _=>rfl) (λi _=>?_) (λi _=>?_) (λ_ _=>rfl) (λ_ _=>rfl)
   ·simp only[upV,aQ,Db.fault];split<;>simp_all
   ·simp only[upV,aQ,Db.fault];split<;>simp_all) (λi hi=>by
   rw[Air.nO ⟨5,(j:Nat),a,dl⟩ x (by simp) (by simp)];simp only[upV,aQ,Db.fault];split<;>simp_all) hok).drew
  have KK:=af (o2.set (8+j) ↑((x.s j).at_+a:Int)).drew;clear hb0 hd o0 hok hs hw H1 H2 o1 o2 hX1 hX2;generalize(x.s j).at_=z at *;go_wp2_with fail
  go_region
  all_goals
   go_wp2;exact aD (ax (by rfl) _ _ _) rfl ⟨rfl,_,HH.o,KK.o⟩
theorem Nh(ab:Nat)(V:Nat->Value)(x:Air)(j:Nat)(a:Int)(dv:Value)(dl:List Int)(w:World)(h:jF w ab V x)(hj:j<8)(hd:iI w ab dv dl)(hy:iK dl)(h24:dl.length<=24)(ha:-1000<=a/\a<=1000):
  Calls Tryz.prog 118 #[↑(ab,0),.agg #[↑(2:Int),↑(j:Nat),↑a,dv]] w (nB ab ⟨2,(j:Nat),a,dl⟩ x w):=by
 have hb0:=(ah w w).alloc lr (.cells #[↑(2:Int),↑(j:Nat),↑a,dv] 56);have hX:=aJ w _ rfl #[↑(2:Int),↑(j:Nat),↑a,dv] 56;obtain⟨Ad,cd,rfl,-⟩:=hd.at_;have H:=h.below hb0;have hok:=h.ok.fault (f:=⟨2,(j:Nat),a,dl⟩) hy h24;have o0:=iQ ab hb0;have x0:=hX.cell 0 (x:=↑(2:Int)) rfl;have x1:=hX.cell 1 (x:=↑(j:Nat)) rfl;have x2:=hX.cell 2 (x:=↑a) rfl;have x3:=hX.cell 3 (x:=.slice Ad dl.length cd) rfl;have j8:(j:Int)<8:=by omega
 obtain⟨Av,cv,eV⟩:=H.form hj;have y:=H.blk.cell j (nN V x j hj);have hdj:=H.dat j hj;rw[eV]at y hdj;have fz:=H.blk.frozen j;have hbj:=H.ok.s j;have HC:=λW(hW:Below (w.alloc (.cells #[↑(2:Int),↑(j:Nat),↑a,.slice Ad dl.length cd] 56)).heap.size (w.alloc (.cells #[↑(2:Int),↑(j:Nat),↑a,.slice Ad dl.length cd] 56)) W)=>af (MX (.slice Av (x.s j).b.length cv) (x.s j).b a W ((hdj.1.below hW).more hW.size) hbj.b hbj.l ha);have HN:Hid (∀W,Below (w.alloc (.cells #[↑(2:Int),↑(j:Nat),↑a,.slice Ad dl.length cd] 56)).heap.size (w.alloc (.cells #[↑(2:Int),↑(j:Nat),↑a,.slice Ad dl.length cd] 56)) W->jF W ab V x/\Only ab w W/\W.cell? (w,1)=some ↑(j:Nat)/\W.cell? (w,2)=some ↑a/\W.cell? (ab,j)=some (.slice Av (x.s j).b.length cv)/\W.frozen? (ab,j)=false):=af λW hW=>by
  have hX2:=hX.below hW hX.lt;have hA:=H.below hW;exact⟨hA,o0.trans (iQ ab hW),hX2.cell 1 rfl,hX2.cell 2 rfl,eV▸hA.blk.cell j (nN V x j hj),hA.blk.frozen j⟩
 have hlt:=H.lt;clear hd hdj hbj;have hN:=af (aL hok (aL hX hb0));clear h H hX hb0 o0 hok
 go_enter Tryz.func118,Tryz.ntmps118
 go_wp2_with fail;generalize(w.alloc (.cells #[↑(2:Int),↑(j:Nat),↑a,.slice Ad dl.length cd] 56))=w1 at *;have hB1:=ah w1 w1
 go_region_with (first
  |(go_at_call 174;refine(HC w1.drew hB1.drew).o.mono ?_;rintro e w2 ⟨u,rfl,hu,hnw,hb2⟩;have hB2:=hB1.drew.trans hb2;obtain⟨H2,o2,z1,z2,z3,z4⟩:=HN.o w2 hB2;obtain⟨A2,c2,rfl,-⟩:=hu.at_)
  |fail)
 all_goals
  have HH:=af (H2.wW (u:=_) (l:=kV (x.s j).b a) (x':=x.fault ⟨2,(j:Nat),a,dl⟩) hj ⟨hu,λf hf h0 e=>by rw[bD.1 hf]at e;have:=hnw h0 _ e;simp at this;omega⟩ (Air.nO _ _ (by simp) (by simp)) hN.o.1);have KK:=af (o2.set j (.slice A2 (kV (x.s j).b a).length c2));clear HC HN hu hnw;go_wp2;exact aD (ax (by rfl) _ _ _) rfl ⟨rfl,_,HH.o,KK.o⟩
theorem Ni(ab:Nat)(V:Nat->Value)(x:Air)(f:Ft)(dv:Value)(w:World)(h:jF w ab V x)(hm:f.may=true)(hd:iI w ab dv f.d)(hy:iK f.d)(hs:∀i,i<8->wide (x.s i).at_):
  Calls Tryz.prog 118 #[↑(ab,0),ftV f dv] w (nB ab f x w):=by
 obtain⟨fk,fn,fa,fd⟩:=f;unfold Ft.may at hm;rw[nu]at hm;simp only at hm hd hy;obtain⟨k1,k2,k3,k4,k5,k6,k7⟩:=hm;obtain⟨j,rfl⟩:∃j:Nat,fn=j:=⟨fn.toNat,by omega⟩;unfold ftV;rcases(by omega:fk=1\/fk=2\/fk=3\/fk=4\/fk=5\/fk=6\/fk=7)with rfl|rfl|rfl|rfl|rfl|rfl|rfl
 ·exact M9 ab V x j fa dv fd w h (by simp at k4;omega) hd hy k7
 ·exact Nh ab V x j fa dv fd w h (by simp at k4;omega) hd hy k7 ⟨k5,k6⟩
 ·exact Na ab V x j fa dv fd w h (by simp at k4;omega) hd hy k7
 ·exact Nb ab V x j fa dv fd w h (by simp at k4;omega) hd hy k7
 ·exact Ng ab V x j fa dv fd w h (by simp at k4;omega) hd hy k7 ⟨k5,k6⟩ hs
 ·exact Nf ab V x j fa dv fd w h (by simp at k4;omega) hd hy k7 ⟨k5,k6⟩ hs
 ·exact Nc ab V x j fa dv fd w h (by simp at k4;omega) hd hy k7
end
end Go.Proofs.YteadkhigkmijiaaGreat
