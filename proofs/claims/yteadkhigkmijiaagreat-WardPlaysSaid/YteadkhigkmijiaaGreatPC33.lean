/- Texts SfB, QgB, QgC, RnP, RaE in one. -/
import Derived.Deep.RegionWith
import Derived.Test.YteadkhigkmijiaaGreatPC1
import Derived.Test.YteadkhigkmijiaaGreatPC8
import Derived.Test.YteadkhigkmijiaaGreatPC14
import Derived.Test.YteadkhigkmijiaaGreatPC18
import Derived.Test.YteadkhigkmijiaaGreatPC20
import Derived.Test.YteadkhigkmijiaaGreatPC25
import Derived.Test.YteadkhigkmijiaaGreatPC26
import Derived.Test.YteadkhigkmijiaaGreatPC27
import Derived.Test.YteadkhigkmijiaaGreatPC31
import Derived.Test.YteadkhigkmijiaaGreatPC32
set_option linter.all false
namespace Go.Proofs.YteadkhigkmijiaaGreat
section
open Go.RowKit
structure jy where
 c:ChR
 d:ChR
def Air.said(x:Air)(N:Nat)(first p0 p1:Int):jy:=⟨chan N (λi=>rn (x.s i).b) (λi=>(x.s i).row) first p0 (x.bl 0) (x.lk 0),chan N (λi=>rn (x.s i).b) (λi=>(x.s i).row) first p1 (x.bl 1) (x.lk 1)⟩
def l6(m:List Sd)(first p0 p1:Int)(b0 b1 l0 l1:Bool):jy:=⟨chan m.length (mN m) (mR m) first p0 b0 l0,chan m.length (mN m) (mR m) first p1 b1 l1⟩
theorem jU.Po{m:List Sd}{x:Air}(h:jU m x)(first p0 p1:Int)(h0:p0<0\/p0.toNat<m.length)(h1:p1<0\/p1.toNat<m.length):l6 m first p0 p1 (x.bl 0) (x.bl 1) (x.lk 0) (x.lk 1)=x.said m.length first p0 p1:=by
 unfold l6 Air.said;rw[h.EL first p0 _ _ h0,h.EL first p1 _ _ h1]
def jy.n(z:jy):Nat:=max z.c.n z.d.n
def jy.who(z:jy):Int:=if z.c.p<0 then z.d.p else z.c.p
def Air.jq(x:Air)(p:Int):Int:=if p<0 then 0 else(x.s p.toNat).at_
theorem jU.jq{m:List Sd}{x:Air}(h:jU m x)(p:Int)(hp:p<0\/p.toNat<m.length):jG m p=x.jq p:=by
 unfold jG Air.jq;by_cases hn:p<0
 ·rw[au hn,au hn]
 ·rw[ai hn,ai hn]
  exact h.sA_ _ (hp.resolve_left hn)
def jy.hear(z:jy)(x:Air)(a:Int)(i:Nat):Hn:=⟨if(x.s i).df then 0 else tk z.n z.c.q,if(x.s i).df then 0 else tk z.n z.d.q,if(x.s i).df then []else tl z.n z.c.q,if(x.s i).df then []else tl z.n z.d.q,if z.who<0 then 0 else x.jq z.who-a⟩
theorem jy.zT(z:jy)(x:Air)(a:Int)(i:Nat):iK (z.hear x a i).x/\iK (z.hear x a i).y:=by
 unfold jy.hear;simp only;constructor
 ·split
  ·exactλ_ h=>by cases h
  ·exact qg _ _
 ·split
  ·exactλ_ h=>by cases h
  ·exact qg _ _
theorem Air.nI(x:Air)(p B:Int)(hB:0<=B)(h:∀i,-B<=(x.s i).at_/\(x.s i).at_<=B):-B<=x.jq p/\x.jq p<=B:=by
 unfold Air.jq
 split
 ·omega
 ·exact h _
theorem jy.zU(z:jy)(x:Air)(a:Int)(i:Nat)(B:Int)(hB:0<=B)(h:∀i,-B<=(x.s i).at_/\(x.s i).at_<=B)(ha:-B<=a/\a<=B):-(2*B)<=(z.hear x a i).o/\(z.hear x a i).o<=2*B:=by
 have hw:=x.nI z.who B hB h;unfold jy.hear;simp only
 split<;>omega
theorem Pp{N:Nat}{n:Nat->Nat}{r:Nat->Nat->Int}{first pass:Int}{bl lk:Bool}(hf:first=-1\/∃j:Nat,first=j/\j<N)(hp:pass=-1\/∃j:Nat,pass=j/\j<N):(chan N n r first pass bl lk).p=-1\/∃j:Nat,(chan N n r first pass bl lk).p=j/\j<N:=by
 unfold chan
 split
 ·exact .inl rfl
 split
 ·exact hf
 split
 ·exact .inl rfl
 ·exact hp
theorem jy.xP{z:jy}{N:Nat}(h0:z.c.p=-1\/∃j:Nat,z.c.p=j/\j<N)(h1:z.d.p=-1\/∃j:Nat,z.d.p=j/\j<N):z.who=-1\/∃j:Nat,z.who=j/\j<N:=by
 unfold jy.who
 split
 ·exact h1
 ·exact h0
theorem Air.Pq(x:Air)(N:Nat)(first p:Int)(bl lk:Bool)(j:Nat)(hj:(chan N (λi=>rn (x.s i).b) (λi=>(x.s i).row) first p bl lk).n<=j):(chan N (λi=>rn (x.s i).b) (λi=>(x.s i).row) first p bl lk).q j=0:=by
 have hr:∀(y:Db)(j:Nat),rn y.b<=j->y.row j=0:=λy j h=>by unfold Db.row;rw[ai (by omega)]
 unfold chan at hj ⊢
 split
 ·rfl
 split
 ·rename_i h1 h2
  rw[ai h1,au h2]at hj;exact wZ (n:=λi=>rn (x.s i).b) (λi h=>hr _ _ h) hj
 split
 ·rfl
 ·rename_i h1 h2 h3
  rw[ai h1,ai h2,ai h3]at hj;exact hr _ _ hj
end
section
set_option maxRecDepth 100000
set_option maxHeartbeats 4000000
open Go.RowKit
open Clk (avg)
def rgc(t:Tb.T)(V L:Value)(kn:Bool)(sl now si:Int):Array Value:=#[V,↑t.dr,↑t.wi,↑t.lm,↑kn,↑sl,↑now,↑t.lm,L,↑si]
structure RC(Q:GS)(W:World)(g:Nat)(t:Tb.T)(kn:Bool)(sl now si:Int)(L:Value)(l:List Int):Prop where
 ex:∃V,Blk W g (rgc t V L kn sl now si) 176/\jh W W V t.ns/\(t.ns≠[]->V.ownBlock≠some g)/\Nar (λk=>Q k\/Q.ro k) V t.ns
 ls:ja W W L l
 lf:jv L≠some g
 ln:l≠[]->∀b,jv L=some b->Q b
 q:Q g
section
variable {Q:GS}{W W':World}{g:Nat}{t:Tb.T}{kn:Bool}{sl now si:Int}{L:Value}{l:List Int}
theorem RC.lt(h:RC Q W g t kn sl now si L l):g<W.heap.size:=by
 obtain⟨V,hB,-⟩:=h.ex;exact hB.lt
theorem RC.below(h:RC Q W g t kn sl now si L l)(b:Below W W W'):RC Q W' g t kn sl now si L l:=by
 obtain⟨V,hB,hT,hf,hn⟩:=h.ex;exact⟨⟨V,hB.below b hB.lt,(hT.below b).more b.size,hf,hn⟩,(h.ls.below b).more b.size,h.lf,h.ln,h.q⟩
theorem RC.drew(h:RC Q W g t kn sl now si L l):RC Q W.drew g t kn sl now si L l:=h.below (ah _ W).drew
theorem RC.drewN(h:RC Q W g t kn sl now si L l)(n:Nat):RC Q (W.drewN n) g t kn sl now si L l:=h.below (aC (ah _ W) n)
theorem RC.alloc(h:RC Q W g t kn sl now si L l)(o:Obj):RC Q (W.alloc o) g t kn sl now si L l:=h.below ((ah _ W).alloc lr o)
theorem RC.up(h:RC Q W g t kn sl now si L l)(k:Nat)(y:Value){kn':Bool}{sl' now' si':Int}(e:∀V,(rgc t V L kn sl now si).setIfInBounds k y=rgc t V L kn' sl' now' si'):RC Q (W.setCell (g,k) y) g t kn' sl' now' si' L l:=by
 obtain⟨V,hB,hT,hf,hn⟩:=h.ex;have o:Only g W (W.setCell (g,k) y):=(aE g W).set k y;have kk:Kp [g] W (W.setCell (g,k) y):=o.kp (by simp);exact⟨⟨V,(hB.set k y).eq (e V),hT.p9 (λf hf' h0=>by rw[bD.1 hf'];exact hf h0) kk,hf,hn⟩,h.ls.p9 (λf hf' _=>by rw[bD.1 hf'];exact h.lf) kk,h.lf,h.ln,h.q⟩
theorem RC.clock(h:RC Q W g t kn sl now si L l):∃c:Cx 7,RKg c W g t.lm L l/\
  ∀W' v' l',RKg c W' g t.lm v' l'->Only g W W'->(l'≠[]->∀k,jv v'=some k->Q k)->RC Q W' g t kn sl now si v' l':=by
 obtain⟨V,hB,hT,hf,hn⟩:=h.ex;refine⟨⟨#[V,↑t.dr,↑t.wi,↑t.lm,↑kn,↑sl,↑now],#[↑si],176,rfl⟩,⟨hB,h.ls,h.lf⟩,λW' v' l' hk o hq=>?_⟩;exact⟨⟨V,hk.blk,hT.p9 (λf hf' h0=>by rw[bD.1 hf'];exact hf h0) (o.kp (F:=[g]) (by simp)),hf,hn⟩,hk.sees,hk.far,hq,h.q⟩
theorem RC.frozen(h:RC Q W g t kn sl now si L l)(o:Nat):W.frozen? (g,o)=false:=by
 obtain⟨V,hB,-⟩:=h.ex;exact hB.frozen o
theorem RC.c2(h:RC Q W g t kn sl now si L l):W.cell? (g,2)=some ↑t.wi:=by obtain⟨V,hB,-⟩:=h.ex;exact hB.cell 2 rfl
theorem RC.c4(h:RC Q W g t kn sl now si L l):W.cell? (g,4)=some ↑kn:=by obtain⟨V,hB,-⟩:=h.ex;exact hB.cell 4 rfl
theorem RC.c5(h:RC Q W g t kn sl now si L l):W.cell? (g,5)=some ↑sl:=by obtain⟨V,hB,-⟩:=h.ex;exact hB.cell 5 rfl
theorem RC.c6(h:RC Q W g t kn sl now si L l):W.cell? (g,6)=some ↑now:=by obtain⟨V,hB,-⟩:=h.ex;exact hB.cell 6 rfl
theorem RC.c9(h:RC Q W g t kn sl now si L l):W.cell? (g,9)=some ↑si:=by obtain⟨V,hB,-⟩:=h.ex;exact hB.cell 9 rfl
theorem RC.c0(h:RC Q W g t kn sl now si L l):∃A c,W.cell? (g,0)=some (.slice A t.ns.length c)/\jh W W (.slice A t.ns.length c) t.ns:=by
 obtain⟨V,hB,hT,-⟩:=h.ex;obtain⟨A,c,rfl,-⟩:=hT.at_;exact⟨A,c,hB.cell 0 rfl,hT⟩
theorem RC.lV(h:RC Q W g t kn sl now si L l){j:Nat}(hj:j<t.ns.length):∃bl off c,W.cell? (g,0)=some (.slice (some ⟨bl,off,none⟩) t.ns.length c)/\W.cell? ⟨bl,off+j*4,none⟩=some ↑(t.ns.getD j default).sy/\t.ns.length<=c:=by
 obtain⟨A,c,h0,hs⟩:=h.c0;obtain⟨A',c',e,h1,-,h3,-⟩:=hs.at_
 cases e
 obtain⟨bl,off,rfl,hb,hd⟩:=h3 (by omega);exact⟨bl,off,c,h0,(hd j hj).1,h1⟩
end
def nxt(N k:Nat):Nat:=if k+1=N then 0 else k+1
theorem MF(Q:GS)(g:Nat)(t:Tb.T)(kn:Bool)(k:Nat)(now si:Int)(L:Value)(l:List Int)(w:World)(h:RC Q w g t kn (k:Nat) now si L l)(hk:k<t.ns.length)(h8:t.ns.length<=8)(hsm:small l)(h4:l.length<=4)(hlm:0<=t.lm/\t.lm<=1099511627776)(jz:-2251799813685248<=now/\now<=2251799813685248):
  Calls Tryz.prog 210 #[↑(g,0)] w λe w'=>e=.returned (.tuple #[])/\(∃L',RC Q w' g t kn (nxt t.ns.length k:Nat) (if k+1=t.ns.length then now+jb t.lm l else now) si L' (if k+1=t.ns.length then []else l))/\Only g w w':=by
 have x5:=h.c5;have f5:=h.frozen 5;have h1:=h.up 5 ↑((k:Int)+1:Int) (sl':=(k:Int)+1) (λ_=>rfl);have o1:=(aE g w).set 5 ↑((k:Int)+1:Int);have wk:IntKind.i64.wrap ((k:Int)+1)=(k:Int)+1:=aO _ (by omega);have H:=af (aL h h1);by_cases hN:k+1=t.ns.length
 ·rw[au hN,au hN,show nxt t.ns.length k=0 by unfold nxt;rw[au hN]]
  have q1:decide ((k:Int)+1<((t.ns.length:Nat):Int))=false:=aj (by omega);obtain⟨A,c,x0,-⟩:=h1.c0;have y5:=h1.c5;obtain⟨T,hT0⟩:∃T,now+jb t.lm l=T:=⟨_,rfl⟩;rw[hT0];have hT1:=af hT0;clear h h1 hT0
  go_enter Tryz.func210,Tryz.ntmps210
  go_wp2_with fail;generalize w.setCell (g,5) ↑((k:Int)+1:Int)=w1 at *
  go_quiet (fail)
  have h2:=H.o.2.drewN nq;have o2:=o1.trans (iQ g (aC (ah _ w1) nq));clear x0 y5 H o1 x5 f5;generalize w1.drewN nq=w2 at *;have x5:=h2.c5;have f5:=h2.frozen 5;have h3:=h2.up 5 ↑(0:Int) (sl':=0) (λ_=>rfl);have o3:=o2.set 5 ↑(0:Int);obtain⟨cx,hc,hup⟩:=h3.clock;have hT:=af (MD cx g t.lm L l _ hc hsm h4 hlm);have h3:=af h3;clear h2 hc hup;go_wp2_with fail;refine hT.o.mono ?_;rintro _ w4 ⟨rfl,b4⟩;have h4':=h3.o.below b4;have o4:=o3.trans (iQ g b4);clear hT h3 o3 x5 f5 o2;have tv:=sX t.lm l hlm.1;have tn:wiB t.lm (avg l)=false->jb t.lm l=0:=λe=>by unfold jb;rw[e];rfl
  have x6:=h4'.c6;have f6:=h4'.frozen 6
  cases hw:wiB t.lm (avg l)
  ·obtain rfl:now=T:=by have:=hT1.o;rw[tn hw]at this;omega
   obtain⟨cy,hc,hup⟩:=h4'.clock;have hC:=af (wR cy g t.lm L l _ hc);have hup:=af hup;clear h4' hc;go_wp2_with fail;refine hC.o.mono ?_;rintro _ w5 ⟨rfl,hk5,o5⟩;have h6:=af (hup.o _ _ _ hk5 o5 (λh=>absurd rfl h));go_wp2;exact aD (ax (by rfl) _ _ _) rfl ⟨rfl,⟨_,by simpa using h6.o⟩,o4.trans o5⟩
  ·have w6:IntKind.i64.wrap (now+jb t.lm l)=T:=(aO _ (by omega)).trans hT1.o
   have h5:=h4'.up 6 ↑T (now':=T) (λ_=>rfl);have o5:=o4.set 6 ↑T;obtain⟨cy,hc,hup⟩:=h5.clock;have hC:=af (wR cy g t.lm L l _ hc);have hup:=af hup;clear h4' hc h5 tn;go_wp2_with fail;refine hC.o.mono ?_;rintro _ w5 ⟨rfl,hk5,o6⟩;have h6:=af (hup.o _ _ _ hk5 o6 (λh=>absurd rfl h));go_wp2;exact aD (ax (by rfl) _ _ _) rfl ⟨rfl,⟨_,by simpa using h6.o⟩,o5.trans o6⟩
 ·rw[ai hN,ai hN,show nxt t.ns.length k=k+1 by unfold nxt;rw[ai hN]]
  have q1:decide ((k:Int)+1<((t.ns.length:Nat):Int))=true:=av (by omega);obtain⟨A,c,x0,-⟩:=h1.c0;have y5:=h1.c5;clear h h1
  go_enter Tryz.func210,Tryz.ntmps210
  go_wp2_with fail;generalize w.setCell (g,5) ↑((k:Int)+1:Int)=w1 at *
  go_quiet (fail)
  have h2:=af (H.o.2.drewN nq);have o2:=af (o1.trans (iQ g (aC (ah _ w1) nq)));go_wp2;exact aK (ax (by rfl) _ _ _) rfl ⟨rfl,⟨L,by have:=h2.o;simpa using this⟩,o2.o⟩
end
section
set_option maxRecDepth 100000
set_option maxHeartbeats 4000000
open Go.RowKit
structure GT(t:Tb.T)(s:G):Prop where
 n:s.n=t.ns.length
 wi:s.wi=t.wi
 lm:s.lm=t.lm
 sy:∀j,j<t.ns.length->s.sy j=(t.ns.getD j default).sy
 l4:s.l.length<=4
def RG(Q:GS)(W:World)(g:Nat)(t:Tb.T)(s:G):Prop:=(∃sl si L,RC Q W g t s.kn sl s.now si L s.l/\(s.kn=true->sl=(s.slot:Nat)/\si=(s.si:Nat)))/\GT t s
theorem RG.below{Q:GS}{W W':World}{g:Nat}{t:Tb.T}{s:G}(h:RG Q W g t s)(b:Below W W W'):RG Q W' g t s:=by
 obtain⟨⟨sl,si,L,h,hk⟩,hg⟩:=h;exact⟨⟨sl,si,L,h.below b,hk⟩,hg⟩
theorem RG.of{Q:GS}{W:World}{g:Nat}{t:Tb.T}{s s':G}(e:s=s')(h:RG Q W g t s):RG Q W g t s':=e▸h
theorem RG.lt{Q:GS}{W:World}{g:Nat}{t:Tb.T}{s:G}(h:RG Q W g t s):g<W.heap.size:=by
 obtain⟨⟨sl,si,L,h,-⟩,-⟩:=h;exact h.lt
theorem Dj(Q:GS)(g:Nat)(t:Tb.T)(s:G)(f:Nat->Bool)(a:Nat->Int)(w:World)(h:RG Q w g t s)(h8:t.ns.length<=8)(hs:s.slot<t.ns.length)(jz:time s.now)(hat:time (a s.slot))(hwi:0<=s.wi/\s.wi<=2305843009213693952):
  Calls Tryz.prog 175 #[↑(g,0),kZ f,jK a] w λe w'=>e=.returned ↑(s.pass f a)/\Below w w w':=by
 have hB:=((ah w w).alloc lr (.cells #[↑(f 0),↑(f 1),↑(f 2),↑(f 3),↑(f 4),↑(f 5),↑(f 6),↑(f 7)] 110)).alloc (by simp) (.cells (aI a) 22);have hX:=(aJ w _ rfl #[↑(f 0),↑(f 1),↑(f 2),↑(f 3),↑(f 4),↑(f 5),↑(f 6),↑(f 7)] 110).alloc (.cells (aI a) 22);have hY:=aJ (w.alloc (.cells #[↑(f 0),↑(f 1),↑(f 2),↑(f 3),↑(f 4),↑(f 5),↑(f 6),↑(f 7)] 110)) (w.heap.size+1) (by simp) (aI a) 22;obtain⟨⟨sl,si,L,hc,hk⟩,hg⟩:=h;have hG:=hc.below (hB.mono lr);have en:=hg.n;have ewi:=hg.wi;rw[ewi]at hwi;clear hc hg;unfold kZ jK
 go_enter Tryz.func175,Tryz.ntmps175
 generalize hw0:(w.alloc (.cells #[↑(f 0),↑(f 1),↑(f 2),↑(f 3),↑(f 4),↑(f 5),↑(f 6),↑(f 7)] 110)).alloc (.cells (aI a) 22)=w0 at *;have c4:=hG.c4;unfold G.pass
 cases hkn:s.kn
 ·rw[hkn]at c4
  obtain⟨A,c,c0,-⟩:=hG.c0;rw[en];simp only[bA,dB];generalize t.ns.length=N at *;have hF:Hid (∀k,k<N->w0.cell? ⟨w.heap.size,k,none⟩=some ↑(f k)):=af λk hk=>hX.cell k (lZ f k (by omega));have h1:Hid (∀k,k<N->f k=true->(∀j,j<k->f j=false)->fst f N=(k:Nat)):=af λk hk hf hj=>tA hk hf hj;have h2:Hid ((∀k,k<N->f k=false)->fst f N=-1):=af λh=>tu h;generalize fst f N=r at *;clear hX hY hG hk;go_wp2_with fail
  go_loopw [8] (λi wr=>∃k:Nat,k<=N/\i=↑k/\Hid (∀j,j<k->f j=false)/\wr=w0) (λi _=>N-(intOf i).toNat)
  case atStart=>exact⟨0,by omega,rfl,af (λj hj=>absurd hj (Nat.not_lt_zero _)),rfl⟩
  case round=>
   obtain⟨k,hk,rfl,hn,rfl⟩:=hrel;by_cases hlt:k<N
   ·have r1:decide ((k:Int)<((N:Nat):Int))=true:=av (by omega)
    have k8:(k:Int)<8:=by omega
    have cf:=hF.o k hlt
    cases hf:f k
    ·rw[hf]at cf
     go_wp2_with fail;go_roundw
     case rel=>exact⟨k+1,by omega,by go_num,af (λj hj=>by
      rcases(by omega:j<k\/j=k)with h|rfl
      ·exact hn.o j h
      ·exact hf),trivial⟩
     case measure=>simp[intOf];omega
    ·rw[hf]at cf
     have er:=af (h1.o k hlt hf hn.o);go_wp2_with fail;go_ret;exact⟨by rw[er.o];rfl,hB⟩
   ·obtain rfl:k=N:=by omega
    have r1:decide ((k:Int)<((k:Nat):Int))=false:=aj (by omega);have er:=af (h2.o hn.o);go_wp2_with fail;go_ret;exact⟨by rw[er.o];rfl,hB⟩
 ·rw[hkn]at c4
  obtain⟨rfl,-⟩:=hk hkn;have c2:=hG.c2;have c5:=hG.c5;have c6:=hG.c6;rw[ewi];clear ewi;have cx:=hX.cell s.slot (lZ f s.slot (by omega));have cy:=hY.cell s.slot (l7 a s.slot (by omega));have i1:(0:Int)<=(s.slot:Int):=by omega
  have i2:(s.slot:Int)<8:=by omega
  have wd:IntKind.i64.wrap (a s.slot-s.now)=a s.slot-s.now:=aO _ (by unfold time at jz hat;omega);have wm:IntKind.i64.wrap (-t.wi)=-t.wi:=aO _ (by omega);have HB:Hid (∀n,Below w w (w0.drewN n)):=af λn=>aC hB n;have HG:Hid (∀n,RC Q (w0.drewN n) g t s.kn (s.slot:Nat) s.now si L s.l/\Blk (w0.drewN n) w #[↑(f 0),↑(f 1),↑(f 2),↑(f 3),↑(f 4),↑(f 5),↑(f 6),↑(f 7)] 110):=af λn=>⟨hG.drewN n,hX.drewN n⟩;have hnb:lM (a s.slot) s.now t.wi=(decide (-t.wi<=a s.slot-s.now)&&decide (a s.slot-s.now<=t.wi)):=by unfold lM;rw[Bool.decide_and]
  have hfs:=af (lZ f s.slot (by omega));rw[hnb];clear hnb;generalize hq:f s.slot=q at *;generalize a s.slot=x at *;have hC:(q=false)\/(q=true/\decide (-t.wi<=x-s.now)=false)\/(q=true/\decide (-t.wi<=x-s.now)=true/\decide (x-s.now<=t.wi)=false)\/(q=true/\decide (-t.wi<=x-s.now)=true/\decide (x-s.now<=t.wi)=true):=by
   cases q<;>cases decide (-t.wi<=x-s.now)<;>cases decide (x-s.now<=t.wi)<;>simp
  clear hX hY hG;rcases hC with rfl|⟨rfl,e1⟩|⟨rfl,e1,e2⟩|⟨rfl,e1,e2⟩
  all_goals
   first
    |simp only[e1,e2,cK,dD,eG,Bool.and_true,Bool.and_self,bA,dB,dG]
    |simp only[e1,cK,dD,eG,Bool.and_self,bA,dB,dG]
    |simp only[dD,eG,Bool.and_self,bA,dB,dG]
   go_wp2_with fail
   go_quiet (fail)
   obtain⟨hG,hX⟩:=HG.o nq;have hB':=HB.o nq;clear c2 c4 c5 c6 cx cy HG HB;generalize w0.drewN nq=w3 at *;have c2:=hG.c2;have c5:=hG.c5;have cx:=hX.cell s.slot hfs.o;clear hG hX;go_wp2
   all_goals
    go_ret;exact⟨rfl,hB'⟩
end
section
open Go.RowKit
section
variable {b:Bool}{G G':GS}{w W W':World}{g:Nat}{m:NM}{x:RX}
def Gp(G:GS)(w W:World):GS:=⟨λk=>G k/\¬(w.heap.size<=k/\k<W.heap.size),G.ro⟩
theorem qz{v:Value}{l:List Tb.D}(h:jh W W v l)(h0:l≠[]){k:Nat}(e:v.ownBlock=some k):k<W.heap.size:=by
 by_cases hk:k<W.heap.size
 ·exact hk
 ·exact absurd e (EG h (by omega) h0)
theorem xB{v:Value}{l:List R4}(h:jl W W v l)(h0:l≠[]){k:Nat}(e:v.ownBlock=some k):k<W.heap.size:=by
 by_cases hk:k<W.heap.size
 ·exact hk
 ·exact absurd e (EH h (by omega) h0)
theorem Em{v:Value}{l:List Int}(h:iI W W v l)(h0:l≠[]){k:Nat}(e:v.ownBlock=some k):k<W.heap.size:=by
 by_cases hk:k<W.heap.size
 ·exact hk
 ·exact absurd e (EI h (by omega) h0)
theorem jr.past{P:List Nat}{v:Value}{l:List Int}(h:jr G P w v l)(V:World):jr (Gp G w V) P w v l:=
 ⟨h.1,λh0 k e=>⟨h.2 h0 k e,λq=>by have:=Em h.1.1 h0 e;omega⟩⟩
theorem RA.OZ(h:RA b G w g m x)(V:World):RA b (Gp G w V) w g m x:=by
 obtain⟨Vn,L,D,R,hB,hA,hV⟩:=h.ex;obtain⟨⟨sv,hS,hd⟩,hk⟩:=h.so;exact⟨⟨Vn,L,D,R,hB,hA,⟨hV.t,hV.tf,λh0 k e=>(hV.tn h0 k e).imp (λh=>⟨h,λq=>by have:=qz hV.t h0 e;omega⟩) id,hV.l,hV.lf,λh0 k e=>⟨hV.ln h0 k e,λq=>by have:=hV.ll k e;omega⟩,hV.ll,hV.d.past V,hV.r,hV.rf,λh0 k e=>(hV.rn h0 k e).imp (λh=>⟨h,λq=>by have:=xB hV.r h0 e;omega⟩) id⟩⟩,h.ty,⟨⟨sv,hS,λi hi=>(hd i hi).past V⟩,hk⟩,h.nb,h.rb,h.nd,λk hk=>⟨h.gs k hk,λq=>by have:=h.lts k hk;omega⟩,h.al2,h.cko,h.n16⟩
theorem RA.past(h:RA b G w g m x)(bw:Below w w W):RA b (Gp G w W) W g m x:=(h.OZ W).below bw
theorem Gp.gn(h:GN G w)(k:w.heap.size<=W.heap.size):GN (Gp G w W) W:=λi hi=>⟨h i (aW k hi),λq=>by omega⟩
theorem KG.mono(h:KG G W W')(hg:∀k,G k->G' k):KG G' W W':=⟨h.os,h.tape,h.output,h.size,λk hk hn=>h.block k hk λhg'=>hn (hg k hg')⟩
theorem KG.up(h:KG (Gp G w W) W W'):KG G W W':=h.mono λ_ h=>h.1
theorem RS.up(h:RS b (Gp G w W) W' g m):RS b G W' g m:=by
 obtain⟨x,h⟩:=h;exact⟨x,h.mono (λ_ h=>h.1) λ_ h=>h⟩
theorem KG.kept(h:KG (Gp G w W) W W'){k:Nat}(h1:w.heap.size<=k)(h2:k<W.heap.size):W'.heap[k]?=W.heap[k]?:=h.block k h2 λq=>q.2 ⟨h1,h2⟩
theorem KG.blk{k:Nat}{cs:Array Value}{t:TypeId}(h:KG (Gp G w W) W W')(h1:w.heap.size<=k)(hB:Blk W k cs t):Blk W' k cs t:=(h.kept h1 hB.lt).trans hB
theorem KG.xI{v:Value}{l:List Int}(h:KG (Gp G w W) W W')(hs:iI W W v l)(h1:∀k,l≠[]->v.ownBlock=some k->w.heap.size<=k):iI W' W' v l:=⟨by
 obtain⟨A,c,rfl,v1,v2,v3,v4⟩:=hs.at_;refine⟨A,c,rfl,v1,v2,λh0=>?_,v4⟩;obtain⟨bl,off,rfl,hb,hc⟩:=v3 h0;refine⟨bl,off,rfl,aN hb h.size,λj hj=>?_⟩;rw[<-hc j hj];simp only[World.cell?,h.kept (h1 bl (aX.1 h0) rfl) hb]⟩
end
end
section
set_option maxRecDepth 100000
set_option maxHeartbeats 2000000
open Go.RowKit
def Ent(G:GS)(g:Nat)(m:NM)(w:World):Prop:=Calls Tryz.prog 114 #[↑(g,0)] w λe w'=>e=.returned ↑(decide (m.enter.st=4))/\RS false G w' g m.enter/\KG G w w'
theorem Nv(G:GS)(g:Nat)(m:NM)(x:RX)(w:World)(h:RA false G w g m x)(hG:GN G w)(hst:m.st=2)(ha:m.ty.a<1000)(h0:m.ty.a=0):Ent G g m w:=by
 unfold Ent;have e:m.enter=m.anew 1:=by
  have ka:m.alone↔m.ty.a=0:=fS;have kc:m.clique↔m.ty.f<=m.ty.a:=fS;unfold NM.enter;rw[au hst,au (ka.2 h0)]
 have c6:_=some (Value.int .i64 ((m.st:Nat):Int)):=h.c6;rw[hst]at c6;have c6:w.cell? (g,6)=some ↑(2:Int):=c6;have c9:=h.c9;have hg:=h.G_;have ca:=h.ty.c1;rw[h0]at ca;have ca:w.cell? (x.m,1)=some ↑(0:Int):=ca;have hA:=af (λW(hr:RA false G W g m x)(hgn:GN G W)=>qi false G g m x 1 W hr hgn);have hk:=af h;clear h
 go_enter Tryz.func114,Tryz.ntmps114
 go_wp2_with fail;refine(hA.o w hk.o hG).mono ?_;rintro _ w2 ⟨rfl,⟨x2,h2⟩,k2⟩;have d6:w2.cell? (g,6)=some ↑(1:Int):=h2.c6;have h2:=af h2;clear hA c6 c9 ca;go_wp2;go_ret;rw[e];exact⟨rfl,⟨x2,h2.o⟩,k2⟩
theorem Nw(G:GS)(g:Nat)(m:NM)(x:RX)(w:World)(h:RA false G w g m x)(hG:GN G w)(hst:m.st=2)(ha:m.ty.a<1000)(h0:m.ty.a≠0):Ent G g m w:=by
 unfold Ent;have e:m.enter={m with st:=4}:=by
  have ka:m.alone↔m.ty.a=0:=fS;have kc:m.clique↔m.ty.f<=m.ty.a:=fS;unfold NM.enter;rw[au hst,ai (λh=>h0 (ka.1 h))]
 have c6:_=some (Value.int .i64 ((m.st:Nat):Int)):=h.c6;rw[hst]at c6;have c6:w.cell? (g,6)=some ↑(2:Int):=c6;have c9:=h.c9;have hg:=h.G_;have ca:=h.ty.c1;have qa:(((m.ty.a:Nat):Int)==0)=false:=by rw[aB];omega
 have f6:=h.frozen 6;have h2:=af (h.sSt 4);have k2:Hid (KG G w (w.setCell (g,6) ↑(4:Nat))):=af (((aE g w).set 6 _).kg hg);clear h
 go_enter Tryz.func114,Tryz.ntmps114
 go_wp2;go_ret;rw[e];exact⟨rfl,⟨x,h2.o⟩,k2.o⟩
theorem Ny(G:GS)(g:Nat)(m:NM)(x:RX)(w:World)(h:RA false G w g m x)(hG:GN G w)(hst:m.st=3)(ha:m.ty.a<1000)(h0:m.ty.a≠0)(hc:m.ty.f<=m.ty.a):Ent G g m w:=by
 unfold Ent;have e:m.enter={m with st:=4}:=by
  have ka:m.alone↔m.ty.a=0:=fS;have kc:m.clique↔m.ty.f<=m.ty.a:=fS;unfold NM.enter;rw[ai (by omega),au hst,au ⟨λh=>h0 (ka.1 h),kc.2 hc⟩]
 have c6:_=some (Value.int .i64 ((m.st:Nat):Int)):=h.c6;rw[hst]at c6;have c6:w.cell? (g,6)=some ↑(3:Int):=c6;have c9:=h.c9;have hg:=h.G_;have ca:=h.ty.c1;have qa:(((m.ty.a:Nat):Int)==0)=false:=by rw[aB];omega
 have hC:=af (λW(hr:RA false G W g m x)=>ru x.m m.ty W hr.ty ha);rw[av hc]at hC;have hk:=af h;have H2:=af (λn=>aL ((h.drewN n).c6) (aL ((h.drewN n).frozen 6) (aL ((h.drewN n).sSt 4) ((iZ (G:=G) (aC (ah _ w) n)).trans (((aE g (w.drewN n)).set 6 ↑(4:Nat)).kg hg)))));clear h
 go_enter Tryz.func114,Tryz.ntmps114
 go_wp2_with fail;refine(hC.o w hk.o).mono ?_;rintro _ w2 ⟨rfl,n,rfl⟩;obtain⟨d6,f6,h2,k2⟩:=H2.o n;have h2:=af h2;have k2:=af k2;go_wp2;go_ret;rw[e];exact⟨rfl,⟨x,h2.o⟩,k2.o⟩
theorem Nz(G:GS)(g:Nat)(m:NM)(x:RX)(w:World)(h:RA false G w g m x)(hG:GN G w)(hst:m.st=3)(ha:m.ty.a<1000)(h0:m.ty.a=0):Ent G g m w:=by
 unfold Ent;have e:m.enter={m with ty:=m.ty.clear}:=by
  have ka:m.alone↔m.ty.a=0:=fS;have kc:m.clique↔m.ty.f<=m.ty.a:=fS;unfold NM.enter;rw[ai (by omega),au hst,ai (λh=>h.1 (ka.2 h0))]
 have c6:_=some (Value.int .i64 ((m.st:Nat):Int)):=h.c6;rw[hst]at c6;have c6:w.cell? (g,6)=some ↑(3:Int):=c6;have c9:=h.c9;have hg:=h.G_;have ca:=h.ty.c1;rw[h0]at ca;have ca:w.cell? (x.m,1)=some ↑(0:Int):=ca;have hL:=af (xw x.m m.ty w h.ty);have hk:=af h;have hgm:=h.gs x.m (by simp[RX.own]);clear h
 go_enter Tryz.func114,Tryz.ntmps114
 go_wp2_with fail;refine hL.o.mono ?_;rintro _ w3 ⟨rfl,hT,o3⟩;have h3:RA false G w3 g {m with ty:=m.ty.clear} x:=hk.o.upM hT o3;have k3:=af ((o3.kg hgm));have d6:w3.cell? (g,6)=some ↑((m.st:Nat):Int):=h3.c6;rw[hst]at d6;have d6:w3.cell? (g,6)=some ↑(3:Int):=d6;have h3:=af h3;clear hT o3;go_wp2;go_ret;rw[e];exact⟨by show _=Ending.returned ↑(decide (m.st=4));rw[hst];rfl,⟨x,h3.o⟩,k3.o⟩
theorem NC(G:GS)(g:Nat)(m:NM)(x:RX)(w:World)(h:RA false G w g m x)(hG:GN G w)(hst:m.st=3)(ha:m.ty.a<1000)(h0:m.ty.a≠0)(hc:¬m.ty.f<=m.ty.a):Ent G g m w:=by
 unfold Ent;have e:m.enter={m with ty:=m.ty.clear}:=by
  have ka:m.alone↔m.ty.a=0:=fS;have kc:m.clique↔m.ty.f<=m.ty.a:=fS;unfold NM.enter;rw[ai (by omega),au hst,ai (λh=>hc (kc.1 h.2))]
 have c6:_=some (Value.int .i64 ((m.st:Nat):Int)):=h.c6;rw[hst]at c6;have c6:w.cell? (g,6)=some ↑(3:Int):=c6;have c9:=h.c9;have hg:=h.G_;have ca:=h.ty.c1;have qa:(((m.ty.a:Nat):Int)==0)=false:=by rw[aB];omega
 have hC:=af (λW(hr:RA false G W g m x)=>ru x.m m.ty W hr.ty ha);rw[aj hc]at hC;have hL:=af (λn=>xw x.m m.ty (w.drewN n) (h.drewN n).ty);have hk:=af h;have hgm:=h.gs x.m (by simp[RX.own]);have C:=af (λn=>aL ((h.drewN n).c6) ((h.drewN n).c9));clear h
 go_enter Tryz.func114,Tryz.ntmps114
 go_wp2_with fail;refine(hC.o w hk.o).mono ?_;rintro _ w2 ⟨rfl,n,rfl⟩;obtain⟨d6,d9⟩:=C.o n;rw[hst]at d6;go_wp2_with fail;refine(hL.o n).mono ?_;rintro _ w3 ⟨rfl,hT,o3⟩;have h3:RA false G w3 g {m with ty:=m.ty.clear} x:=(hk.o.drewN n).upM hT o3;have k3:=af ((iZ (aC (ah _ w) n)).trans (o3.kg hgm));have d6:w3.cell? (g,6)=some ↑((m.st:Nat):Int):=h3.c6;rw[hst]at d6;have d6:w3.cell? (g,6)=some ↑(3:Int):=d6;have h3:=af h3;clear hT o3;go_wp2;go_ret;rw[e];exact⟨by show _=Ending.returned ↑(decide (m.st=4));rw[hst];rfl,⟨x,h3.o⟩,k3.o⟩
theorem ND(G:GS)(g:Nat)(m:NM)(x:RX)(w:World)(h:RA false G w g m x)(hG:GN G w)(hst:m.st=4)(ha:m.ty.a<1000)(hc:¬m.ty.f<=m.ty.a):Ent G g m w:=by
 unfold Ent;have e:m.enter={m with st:=5}:=by
  have ka:m.alone↔m.ty.a=0:=fS;have kc:m.clique↔m.ty.f<=m.ty.a:=fS;unfold NM.enter;rw[ai (by omega),ai (by omega),au (λh=>hc (kc.1 h))]
 have c6:_=some (Value.int .i64 ((m.st:Nat):Int)):=h.c6;rw[hst]at c6;have c6:w.cell? (g,6)=some ↑(4:Int):=c6;have c9:=h.c9;have hg:=h.G_;have ca:=h.ty.c1;have hC:=af (λW(hr:RA false G W g m x)=>ru x.m m.ty W hr.ty ha);rw[aj hc]at hC;have hk:=af h;have H2:=af (λn=>aL ((h.drewN n).c6) (aL ((h.drewN n).frozen 6) (aL ((h.drewN n).sSt 5) ((iZ (G:=G) (aC (ah _ w) n)).trans (((aE g (w.drewN n)).set 6 ↑(5:Nat)).kg hg)))));clear h;generalize(m.ty.a:Nat)=aa at ca
 go_enter Tryz.func114,Tryz.ntmps114
 go_wp2_with fail;refine(hC.o w hk.o).mono ?_;rintro _ w2 ⟨rfl,n,rfl⟩;obtain⟨d6,f6,h2,k2⟩:=H2.o n;have h2:=af h2;have k2:=af k2;go_wp2;go_ret;rw[e];exact⟨rfl,⟨x,h2.o⟩,k2.o⟩
theorem NH(G:GS)(g:Nat)(m:NM)(x:RX)(w:World)(h:RA false G w g m x)(hG:GN G w)(hst:m.st=4)(ha:m.ty.a<1000)(h0:m.ty.a=0)(hc:m.ty.f<=m.ty.a):Ent G g m w:=by
 unfold Ent;have e:m.enter=m.anew 1:=by
  have ka:m.alone↔m.ty.a=0:=fS;have kc:m.clique↔m.ty.f<=m.ty.a:=fS;unfold NM.enter;rw[ai (by omega),ai (by omega),ai (λh=>h (kc.2 hc)),au (ka.2 h0)]
 have c6:_=some (Value.int .i64 ((m.st:Nat):Int)):=h.c6;rw[hst]at c6;have c6:w.cell? (g,6)=some ↑(4:Int):=c6;have c9:=h.c9;have hg:=h.G_;have ca:=h.ty.c1;rw[h0]at ca;have ca:w.cell? (x.m,1)=some ↑(0:Int):=ca;have hC:=af (λW(hr:RA false G W g m x)=>ru x.m m.ty W hr.ty ha);rw[av hc]at hC;have hA:=af (λW(hr:RA false G W g m x)(hgn:GN G W)=>qi false G g m x 1 W hr hgn);have hk:=af h;clear h
 go_enter Tryz.func114,Tryz.ntmps114
 go_wp2_with fail;refine(hC.o w hk.o).mono ?_;rintro _ w1 ⟨rfl,n,rfl⟩;go_wp2_with fail;refine(hA.o _ (hk.o.drewN n) (hG.up (by simp))).mono ?_;rintro _ w2 ⟨rfl,⟨x2,h2⟩,k2⟩;have d6:w2.cell? (g,6)=some ↑(1:Int):=h2.c6;have h2:=af h2;clear hA c6 c9 ca;go_wp2;go_ret;rw[e];exact⟨rfl,⟨x2,h2.o⟩,(iZ (aC (ah _ w) n)).trans k2⟩
theorem NK(G:GS)(g:Nat)(m:NM)(x:RX)(w:World)(h:RA false G w g m x)(hG:GN G w)(hst:m.st=4)(ha:m.ty.a<1000)(h0:m.ty.a≠0)(hc:m.ty.f<=m.ty.a):Ent G g m w:=by
 unfold Ent;have e:m.enter=m:=by
  have ka:m.alone↔m.ty.a=0:=fS;have kc:m.clique↔m.ty.f<=m.ty.a:=fS;unfold NM.enter;rw[ai (by omega),ai (by omega),ai (λh=>h (kc.2 hc)),ai (λh=>h0 (ka.1 h))]
 have c6:_=some (Value.int .i64 ((m.st:Nat):Int)):=h.c6;rw[hst]at c6;have c6:w.cell? (g,6)=some ↑(4:Int):=c6;have c9:=h.c9;have hg:=h.G_;have ca:=h.ty.c1;have qa:(((m.ty.a:Nat):Int)==0)=false:=by rw[aB];omega
 have hC:=af (λW(hr:RA false G W g m x)=>ru x.m m.ty W hr.ty ha);rw[av hc]at hC;have hk:=af h;have C:=af (λn=>(h.drewN n).c6);clear h
 go_enter Tryz.func114,Tryz.ntmps114
 go_wp2_with fail;refine(hC.o w hk.o).mono ?_;rintro _ w2 ⟨rfl,n,rfl⟩;have d6:=C.o n;rw[hst]at d6;go_wp2;go_ret;rw[e,hst];exact⟨rfl,⟨x,hk.o.drewN n⟩,iZ (aC (ah _ w) n)⟩
theorem DW(G:GS)(g:Nat)(m:NM)(x:RX)(w:World)(h:RA false G w g m x)(hG:GN G w)(hst:m.st=2\/m.st=3\/m.st=4)(ha:m.ty.a<1000):Ent G g m w:=by
 rcases hst with hs|hs|hs
 ·by_cases h0:m.ty.a=0
  ·exact Nv G g m x w h hG hs ha h0
  ·exact Nw G g m x w h hG hs ha h0
 ·by_cases h0:m.ty.a=0
  ·exact Nz G g m x w h hG hs ha h0
  ·by_cases hc:m.ty.f<=m.ty.a
   ·exact Ny G g m x w h hG hs ha h0 hc
   ·exact NC G g m x w h hG hs ha h0 hc
 ·by_cases hc:m.ty.f<=m.ty.a
  ·by_cases h0:m.ty.a=0
   ·exact NH G g m x w h hG hs ha h0 hc
   ·exact NK G g m x w h hG hs ha h0 hc
  ·exact ND G g m x w h hG hs ha hc
end
end Go.Proofs.YteadkhigkmijiaaGreat
