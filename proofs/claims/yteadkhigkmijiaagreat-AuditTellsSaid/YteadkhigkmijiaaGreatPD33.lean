/- Texts RaL, RaO in one. -/
import Derived.Deep.RegionHeld3
import Derived.RegionTactic
import Derived.BigRegion
import Derived.Deep.CutRange
import Derived.Test.YteadkhigkmijiaaGreatPD1
import Derived.Test.YteadkhigkmijiaaGreatPD6
import Derived.Test.YteadkhigkmijiaaGreatPD7
import Derived.Test.YteadkhigkmijiaaGreatPD13
import Derived.Test.YteadkhigkmijiaaGreatPD17
import Derived.Test.YteadkhigkmijiaaGreatPD25
import Derived.Test.YteadkhigkmijiaaGreatPD31
set_option linter.all false
namespace Go.Proofs.YteadkhigkmijiaaGreat
section
set_option maxRecDepth 100000
set_option maxHeartbeats 4000000
open Go.RowKit
theorem rA{K:Nat}(h2:K=0\/K=2){f h:Nat->Nat}(e:∀i,i<K->f i=h i):two K f=two K h:=by
 rcases h2 with rfl|rfl
 ·rfl
 unfold two;rw[e 0 (by omega),e 1 (by omega)]
theorem Oh(a n:Nat):(a ||| n) ||| n=a ||| n:=by rw[Nat.or_assoc,Nat.or_self]
def NM.lk(m:NM)(k:Nat):NM:={m with an:=λi=>if i<k then iR m.al m.so i else m.an i,ar:=λi=>if i<k then m.ar i ||| iR m.al m.so i else m.ar i}
section
variable {b:Bool}{G:GS}{W W':World}{g:Nat}{m:NM}{x:RX}
theorem RA.D7(h:RA b G W g m x){an ar:Nat->Nat}(ea:∀i,i<m.al.length->m.an i=an i)(er:∀i,i<m.al.length->m.ar i=ar i):RA b G W g {m with an:=an,ar:=ar} x:=
 h.upN an ar (Kq.refl _ _) (h.nb.eq (rA h.al2 ea)) (h.rb.eq (rA h.al2 er)) λi hi=>by
  rw[<-ea i hi,<-er i hi];exact h.n16 i hi
end
theorem Oi(b:Bool)(G:GS)(g:Nat)(m:NM)(x:RX)(i:Int)(w:World)(h:RA b G w g m x):
  Calls Tryz.prog 49 #[↑(x.a,0),↑i] w λe w'=>e=.returned ↑((if isR m.al i then m.ar i.toNat else 0:Nat):Int)/\w'=w:=by
 obtain⟨K,hK⟩:∃K,m.al.length=K:=⟨_,rfl⟩;obtain⟨A,c,a0,-,-⟩:=h.a0 hK;have a2:=h.a2 hK;by_cases h0:i<0
 ·rw[ai (by unfold isR;omega)]
  clear h hK
  go_enter Tryz.func49,Tryz.ntmps49
  go_wp2;go_ret;exact⟨rfl,rfl⟩
 ·obtain⟨k,rfl⟩:∃k:Nat,i=k:=⟨i.toNat,by omega⟩
  rw[aQ];by_cases h1:k<K
  ·rw[au (by unfold isR;omega)]
   have d1:decide ((K:Int)<=(k:Int))=false:=aj (by omega);have c2:=h.r_ (hK▸h1);clear h hK
   go_enter Tryz.func49,Tryz.ntmps49
   go_wp2;go_ret;exact⟨rfl,rfl⟩
  ·rw[ai (by unfold isR;omega)]
   have d1:decide ((K:Int)<=(k:Int))=true:=av (by omega);clear h hK
   go_enter Tryz.func49,Tryz.ntmps49
   go_wp2;go_ret;exact⟨rfl,rfl⟩
theorem Oj:∀a c:Fin 16,a.val ||| c.val=a.val->(nW a.val c.val=0↔a.val=c.val):=by decide+kernel
theorem Ol(b:Bool)(G:GS)(g:Nat)(m:NM)(x:RX)(i:Int)(w:World)(h:RA b G w g m x):
  Calls Tryz.prog 37 #[↑(x.a,0),↑i] w λe w'=>e=.returned ↑(jP m.al m.an m.ar i)/\RA b G w' g {m with ar:=jS m.al m.an m.ar i} x/\KG G w w':=by
 obtain⟨K,hK⟩:∃K,m.al.length=K:=⟨_,rfl⟩;obtain⟨A,c,a0,-,-⟩:=h.a0 hK;have a1:=h.a1 hK;have a2:=h.a2 hK;have h2:=af h.al2;have hk:=af h;by_cases h0:i<0
 ·rw[show jP m.al m.an m.ar i=1 by unfold jP;rw[ai (by unfold isR;omega)],show jS m.al m.an m.ar i=m.ar by unfold jS;rw[ai (by unfold isR;omega)]]
  clear h hK
  go_enter Tryz.func37,Tryz.ntmps37
  go_wp2;go_ret;exact⟨rfl,hk.o,KG.refl _ _⟩
 obtain⟨k,rfl⟩:∃k:Nat,i=k:=⟨i.toNat,by omega⟩;by_cases h1:k<K
 case neg=>
  rw[show jP m.al m.an m.ar k=1 by unfold jP;rw[ai (by unfold isR;omega)],show jS m.al m.an m.ar k=m.ar by unfold jS;rw[ai (by unfold isR;omega)]];have d1:decide ((K:Int)<=(k:Int))=true:=av (by omega);clear h hK
  go_enter Tryz.func37,Tryz.ntmps37
  go_wp2;go_ret;exact⟨rfl,hk.o,KG.refl _ _⟩
 have d1:decide ((K:Int)<=(k:Int))=false:=aj (by omega);obtain⟨b1,b2,b3⟩:=h.n16 k (hK▸h1);have hq:=Oj ⟨m.ar k,b2⟩ ⟨m.an k,b1⟩ b3;simp only at hq;have cn:=h.n_ (hK▸h1);have cr:=h.r_ (hK▸h1);have fr:=h.rb.frozen k;have hR:isR m.al k:=by unfold isR;omega
 by_cases he:m.ar k=m.an k
 ·rw[show jP m.al m.an m.ar k=4 by unfold jP;rw[au hR,aQ,au (hq.2 he)],show jS m.al m.an m.ar k=m.ar by unfold jS;rw[au hR,aQ,au (hq.2 he)]]
  rw[he]at cr;clear h hq hR he hK
  go_enter Tryz.func37,Tryz.ntmps37
  go_wp2_with fail
  go_quiet (fail)
  go_wp2;go_ret;exact⟨rfl,hk.o.drewN _,iZ (aC (ah _ _) _)⟩
 ·rw[show jP m.al m.an m.ar k=0 by unfold jP;rw[au hR,aQ,ai (λh=>he (hq.1 h))],show jS m.al m.an m.ar k=upd m.ar k (m.an k) by unfold jS;rw[au hR,aQ,ai (λh=>he (hq.1 h))]]
  have hne:(((m.ar k:Nat):Int)==((m.an k:Nat):Int))=false:=by rw[aB];omega
  obtain⟨n1,n2,n3,n4,n5,n6,n7,n8,n9,n10,n11,n12,n13,n14,n15⟩:=h.ne;have hg:=h.gs x.r (by simp[RX.own]);have hfin:Hid (∀n:Nat,RA b G ((w.drewN n).setCell (x.r,k) ↑(m.an k:Nat)) g {m with ar:=upd m.ar k (m.an k)} x):=af λn=>by
   refine((h.drewN n).upN m.an (upd m.ar k (m.an k)) (W':=(w.drewN n).setCell (x.r,k) ↑(m.an k:Nat)) (((aE x.r _).set k _).kq (by simp)) ((h.nb.drewN n).other (x.r,k) n15 _) (((h.rb.drewN n).set k _).eq ((xD h2.o _ (hK▸h1) _).trans (rA h2.o λi _=>rfl))) λi hi=>?_);obtain⟨c1,c2,c3⟩:=h.n16 i hi;unfold upd
   split
   ·rename_i e;subst e;exact⟨b1,b1,Nat.or_self _⟩
   ·exact⟨c1,c2,c3⟩
  have hkg:Hid (∀n:Nat,KG G w ((w.drewN n).setCell (x.r,k) ↑(m.an k:Nat))):=af λn=>
   (iZ (aC (ah _ w) n)).trans (((aE x.r _).set k _).kg hg)
  clear h hq hR he b3 hK
  go_enter Tryz.func37,Tryz.ntmps37
  go_wp2_with fail
  go_quiet (fail)
  go_wp2_with fail
  go_region
  all_goals
   go_wp2;go_ret;exact⟨rfl,hfin.o _,hkg.o _⟩
theorem D8(b:Bool)(G:GS)(g:Nat)(m:NM)(x:RX)(w:World)(h:RA b G w g m x):
  Calls Tryz.prog 184 #[↑(x.a,0),↑(x.s,0)] w λe w'=>e=.returned (.tuple #[])/\RA b G w' g {m with an:=iR m.al m.so,ar:=λi=>m.ar i ||| iR m.al m.so i} x/\KG G w w':=by
 obtain⟨K,hK⟩:∃K,m.al.length=K:=⟨_,rfl⟩;have h2:=af h.al2;have hK':∀k,(m.lk k).al.length=K:=λ_=>hK;have hK2:K<=2:=by have:=h.al2;omega
 have hN:=rU m.al m.so;obtain⟨n1,n2,n3,n4,n5,n6,n7,n8,n9,n10,n11,n12,n13,n14,n15⟩:=h.ne;have hgn:=h.gs x.n (by simp[RX.own]);have hgr:=h.gs x.r (by simp[RX.own]);have hby:=(h.so.2).gd;have hn6:=h.n16;have h16:∀i,i<m.al.length->m.ar i<16:=λi hi=>(h.n16 i hi).2.1
 go_enter Tryz.func184,Tryz.ntmps184
 go_wp2_with fail
 go_loopw [4] (λi wr=>∃k:Nat,k<=K/\i=↑k/\RA b G wr g (m.lk k) x/\KG G w wr) (λi _=>K-(intOf i).toNat)
 case atStart=>exact⟨0,by omega,rfl,h.D7 (λ_ _=>rfl) (λ_ _=>rfl),KG.refl _ _⟩
 case round=>
  clear h;obtain⟨k,hk,rfl,h,o⟩:=hrel;obtain⟨A,c,a0,hS,hSf⟩:=h.a0 (hK' k);by_cases hlt:k<K
  ·have Hlt:=af hlt
   have r1:decide ((k:Int)<(K:Int))=true:=av (by omega);have q1:(0:Int)<=(k:Int):=by omega
   have q2:(k:Int)<K:=by omega
   have q3:((k:Nat):Int).toNat=k:=aQ k;obtain⟨A',c',e',v1,v2,v3,v4⟩:=hS.at_;simp only[fq]at e';obtain⟨rfl,-,rfl⟩:=e';obtain⟨bl,off,rfl,hb,hG⟩:=v3 (by show 0<(m.lk k).al.length;rw[show(m.lk k).al=m.al from rfl];omega);have hA:mJ wr bl (off+k*4) (m.al.getD k default):=hG k (by show k<m.al.length;omega);have hnk:iR m.al m.so k=lE (m.al.getD k default) (m.so.gd (m.al.getD k default).n) (m.so.ga (m.al.getD k default).n) (m.so.gg (m.al.getD k default).n):=by unfold iR;rw[au (by omega)]
   generalize m.al.getD k default=q at *;have hGt:=λW(hW:RA b G W g (m.lk k) x)=>af (D9 G (x.own g) x.s m.so q.n W hW.so);have hWy:=λv B W hv=>af (GF q v (m.so.gd q.n) (m.so.ga q.n) (m.so.gg q.n) B W hv (hby q.n).2);have hSX:Hid (∀W,Below wr wr W->RA b G W g (m.lk k) x):=af λW hW=>h.below hW;have HS:∀W,Below wr wr W->W.cell? (x.a,0)=some (.slice (some (bl,off)) K c)/\W.cell? (x.a,1)=some (.slice (some (x.n,0)) K K)/\W.cell? (bl,off+k*4)=some ↑q.n/\W.cell? (bl,off+k*4+1)=some ↑q.lo/\W.cell? (bl,off+k*4+2)=some ↑q.hi/\W.cell? (bl,off+k*4+3)=some ↑q.st:=λW hW=>by
    have h':=h.below hW;have hA':=hA.keep (w':=W) λo=>hW.cell (p:=(bl,o)) (by show bl<_;omega);exact⟨(hW.cell (p:=(x.a,0)) (h.lts x.a (by simp))).trans a0,h'.a1 (hK' k),hA'.c0,hA'.c1,hA'.c2,hA'.c3⟩
   have hbn:bl≠x.n:=λe=>hSf x.n (by simp[RX.own]) (by omega) (by rw[<-e];rfl);have HY:Hid (∀W,Below wr wr W->W.cell? (x.n,k)=some ↑((m.lk k).an k:Nat)/\W.frozen? (x.n,k)=false):=af λW hW=>⟨(h.below hW).n_ ((hK' k).symm▸hlt),(h.below hW).nb.frozen k⟩;have HT:Hid (∀W v,Below wr wr W->((W.setCell (x.n,k) v).cell? (x.a,0)=some (.slice (some (bl,off)) K c)/\(W.setCell (x.n,k) v).cell? (x.a,1)=some (.slice (some (x.n,0)) K K)/\(W.setCell (x.n,k) v).cell? (bl,off+k*4)=some ↑q.n/\(W.setCell (x.n,k) v).cell? (bl,off+k*4+1)=some ↑q.lo/\(W.setCell (x.n,k) v).cell? (bl,off+k*4+2)=some ↑q.hi/\(W.setCell (x.n,k) v).cell? (bl,off+k*4+3)=some ↑q.st)):=af λW v hW=>by
    obtain⟨p0,p1,p2,p3,p4,p5⟩:=HS W hW;have o:Only x.n W (W.setCell (x.n,k) v):=(aE _ _).set k v;have e1:(W.setCell (x.n,k) v).heap[x.a]?=W.heap[x.a]?:=o.block x.a (by have:=hW.size;have:=h.lts x.a (by simp);omega) (by simpa using n4);have e2:(W.setCell (x.n,k) v).heap[bl]?=W.heap[bl]?:=o.block bl (by have:=hW.size;omega) (by simpa using hbn);refine⟨gQ ?_ p0,gQ ?_ p1,gQ ?_ p2,gQ ?_ p3,gQ ?_ p4,gQ ?_ p5⟩<;>simp only[World.cell?,e1,e2]
   clear hS hSf hG v1 v2 v3 v4 hA h a0;have hbr:=(ah wr wr).drew;have S0:=af (HS wr.drew hbr);have hRd:=af (hSX.o wr.drew hbr);have HH:=af HS;obtain⟨y0,-⟩:=HS _ (ah _ wr);clear HS;go_wp2_with fail;clear y0
   go_region_held3 (λW=>W.cell? (x.a,0)=some (.slice (some (bl,off)) K c)/\W.cell? (x.a,1)=some (.slice (some (x.n,0)) K K)/\W.cell? (bl,off+k*4)=some ↑q.n/\W.cell? (bl,off+k*4+1)=some ↑q.lo/\W.cell? (bl,off+k*4+2)=some ↑q.hi/\W.cell? (bl,off+k*4+3)=some ↑q.st) ((first|exact S0.o|exact S1.o|exact S2.o|exact S3.o _))
    (first
     |(go_at_call 47;refine(hGt wr.drew hRd.o).o.mono ?_;rintro _ w4 ⟨v4,rfl,hv4,b4⟩;(have b5:=hbr.trans (b4.mono hbr.size));(have S1:=af (HH.o w4 b5)))
     |(go_at_call 212;refine(hWy v4 w4 w4 hv4).o.mono ?_;rintro _ w6 ⟨rfl,b6⟩;(have b7:=b5.trans (b6.mono b5.size));(have S2:=af (HH.o w6 b7));(have S3:=af (λv=>HT.o w6 v b7));(obtain⟨y7,y8⟩:=HY.o w6 b7))
     |fail)
   clear S0 S1 S2 S3 HH HT HY hRd hGt hWy y7 y8;have h6:=hSX.o w6 b7;have ho6:=af (o.trans ((iZ b7)));rw[<-hnk];have hn16:=hN k;have Om:=(h16 k (hK.symm▸hlt));have eAr:(m.lk k).ar k=m.ar k:=ai (fD k);have hor:=yH Om hn16;have o7:Only x.n w6 (w6.setCell (x.n,k) ↑(iR m.al m.so k:Nat)):=(aE _ _).set k _;have hnb:=(h6.nb.set k ↑(iR m.al m.so k:Nat)).eq (xD h2.o _ (hK.symm▸hlt) _);have hrb:=h6.rb.other (x.n,k) (dH n15) ↑(iR m.al m.so k:Nat);have a1:(w6.setCell (x.n,k) ↑(iR m.al m.so k:Nat)).cell? (x.a,1)=some (.slice (some (x.n,0)) K K):=by
    refine gQ ?_ (h6.a1 (hK' k));simp only[World.cell?,o7.block x.a (h6.lts x.a (by simp)) (by simpa using n4)]
   have a2:(w6.setCell (x.n,k) ↑(iR m.al m.so k:Nat)).cell? (x.a,2)=some (.slice (some (x.r,0)) K K):=by
    refine gQ ?_ (h6.a2 (hK' k));simp only[World.cell?,o7.block x.a (h6.lts x.a (by simp)) (by simpa using n4)]
   have HF:Hid (RA b G ((w6.setCell (x.n,k) ↑(iR m.al m.so k:Nat)).setCell (x.r,k) ↑(m.ar k ||| iR m.al m.so k:Nat)) g (m.lk (k+1)) x/\KG G w ((w6.setCell (x.n,k) ↑(iR m.al m.so k:Nat)).setCell (x.r,k) ↑(m.ar k ||| iR m.al m.so k:Nat))):=af ⟨by
    refine h6.upN (m.lk (k+1)).an (m.lk (k+1)).ar ((o7.kq (by simp)).trans (((aE x.r _).set k _).kq (by simp))) ((hnb.other (x.r,k) n15 _).eq (rA h2.o λi hi=>?_)) (((hrb.set k _).eq (xD h2.o _ (hK.symm▸hlt) _)).eq (rA h2.o λi hi=>?_)) λi hi=>?_
    ·show upn (m.lk k).an k (iR m.al m.so k) i=if i<k+1 then iR m.al m.so i else m.an i
     unfold upn;by_cases e:i=k
     ·subst e;rw[au rfl,au (by omega)]
     ·rw[ai e]
      show(if i<k then iR m.al m.so i else m.an i)=_;by_cases e2:i<k
      ·rw[au e2,au (by omega)]
      ·rw[ai e2,ai (by omega)]
    ·show upn (m.lk k).ar k (m.ar k ||| iR m.al m.so k) i=if i<k+1 then m.ar i ||| iR m.al m.so i else m.ar i
     unfold upn;by_cases e:i=k
     ·subst e;rw[au rfl,au (by omega)]
     ·rw[ai e]
      show(if i<k then m.ar i ||| iR m.al m.so i else m.ar i)=_;by_cases e2:i<k
      ·rw[au e2,au (by omega)]
      ·rw[ai e2,ai (by omega)]
    ·show(if i<k+1 then iR m.al m.so i else m.an i)<16/\(if i<k+1 then m.ar i ||| iR m.al m.so i else m.ar i)<16/\(if i<k+1 then m.ar i ||| iR m.al m.so i else m.ar i) ||| (if i<k+1 then iR m.al m.so i else m.an i)=(if i<k+1 then m.ar i ||| iR m.al m.so i else m.ar i)
     by_cases e:i<k+1
     ·rw[au e,au e]
      exact⟨hN i,yI (h16 i hi) (hN i),Oh _ _⟩
     ·rw[ai e,ai e]
      exact hn6 i hi,ho6.o.trans ((o7.kg hgn).trans (((aE x.r _).set k _).kg hgr))⟩
   have cn:=hnb.cell k (nR h2.o _ (hK.symm▸hlt));have cr:=hrb.cell k (nR h2.o _ (hK.symm▸hlt));have fr:=hrb.frozen k;rw[show upn (m.lk k).an k (iR m.al m.so k) k=iR m.al m.so k from au rfl]at cn;rw[eAr]at cr;clear h6 ho6 o7 hnb hrb hSX b7 b5 b4 b6 hbr eAr hnk;generalize w6.setCell (x.n,k) _=w7 at *;generalize iR m.al m.so k=nk at *;generalize m.ar k=ak at *;go_wp2_with fail
   go_region
   all_goals
    go_wp2;go_roundw
    case rel=>exact⟨k+1,by have:=Hlt.o;omega,by go_num,HF.o.1.drew,HF.o.2.trans (iZ (ah _ _).drew)⟩
    case measure=>simp[intOf];have:=Hlt.o;omega
  ·obtain rfl:k=K:=by omega
   have hf:=af (h.D7 (an:=iR m.al m.so) (ar:=λi=>m.ar i ||| iR m.al m.so i) (λi hi=>au (by have:i<m.al.length:=hi;omega)) (λi hi=>au (by have:i<m.al.length:=hi;omega)));have ho:=af o;clear h hS hSf o;go_wp2;exact aD (ax (by rfl) _ _ _) rfl ⟨rfl,hf.o,ho.o⟩
end
section
set_option maxRecDepth 100000
set_option maxHeartbeats 4000000
open Go.RowKit
open Clk (avg)
def OnC(b:Bool)(G:GS)(g:Nat)(m m':NM)(w:World):Prop:=Calls Tryz.prog 125 #[↑(g,0)] w λe w'=>e=.returned (.tuple #[])/\RS b G w' g m'/\KG G w w'
theorem xG(b:Bool)(G:GS)(g:Nat)(m:NM){m':NM}(x:RX)(w:World)(h:RA b G w g m x)(hG:GN G w)(hN:NG m)(hk:nxS m.t.ns.length m.sl≠0/\m.nxt=m'\/nxS m.t.ns.length m.sl=0/\wiB m.t.lm (avg m.ck)=true/\m.nxt.kr=m'\/nxS m.t.ns.length m.sl=0/\wiB m.t.lm (avg m.ck)=false/\m.nxt.kr=m'):OnC b G g m m' w:=by
 unfold OnC;obtain⟨hE,⟨n4,n8⟩,hsl,hrd⟩:=hN;obtain⟨A,c,c0,-⟩:=h.c0;obtain⟨N,hNe⟩:∃N,m.t.ns.length=N:=⟨_,rfl⟩;rw[hNe]at n4 n8 hsl c0 hk;have hg:=h.G_;have HV:=λW(hW:Below w w W)=>af (show Calls Tryz.prog 43 #[↑(g,0)] W λe w'=>e=.returned (.agg #[↑m.rd,↑(m.sl:Nat),↑(m.ty.m:Nat)])/\Below W W w' from ug b G g m x W (h.below hW));have HX:=λW=>af (show Calls Tryz.prog 181 #[.agg #[.slice A N c,↑m.t.dr,↑m.t.wi,↑m.t.lm],.agg #[↑m.rd,↑(m.sl:Nat),↑(m.ty.m:Nat)]] W λe w'=>e=.returned (.agg #[↑(nxR N m.rd m.sl),↑(nxS N m.sl),↑(m.ty.m:Nat)])/\Below W W w' from Oz A N c m.t.dr m.t.wi m.t.lm m.rd (m.sl:Nat) (m.ty.m:Nat) W (by omega) (by omega) hrd);have HS:∀W,Below w w W->(W.cell? (g,0)=some (.slice A N c)/\W.cell? (g,1)=some ↑m.t.dr/\W.cell? (g,2)=some ↑m.t.wi/\W.cell? (g,3)=some ↑m.t.lm):=λW hW=>by
  have h':=h.below hW;exact⟨(hW.cell (p:=(g,0)) h.lt).trans c0,h'.c1,h'.c2,h'.c3⟩
 have hB:=λW(hW:Below w w W)=>h.below hW;have hgl:=h.lt;have b0:=(ah w w).drew;have S0:=af (HS _ b0);have HH:=af HS;have hBH:=af hB;have hnx:(nxS N m.sl).toNat=nxS N m.sl:=by unfold nxS;split<;>omega
 have hmn:m.nxt={m with rd:=nxR N m.rd m.sl,sl:=(nxS N m.sl).toNat,se:=false}:=by unfold NM.nxt;rw[hNe]
 clear HS hB h c0 hsl hrd;generalize hRn:nxR N m.rd m.sl=Rn at *;generalize hSn:nxS N m.sl=Sn at *;clear hRn hSn;have hK:=af hk;clear hk
 go_enter Tryz.func125,Tryz.ntmps125
 go_wp2_with fail
 go_cut [2]from 5 to 11 (λs2 wx=>∃a,s2=.pointer (some ⟨a,0,none⟩)/\Blk wx a #[↑Rn,↑Sn,↑(m.ty.m:Nat)] 96/\Below w w wx/\w.heap.size<=a)
 case first=>
  refine cW (S:=λW=>W.cell? (g,0)=some (.slice A N c)/\W.cell? (g,1)=some ↑m.t.dr/\W.cell? (g,2)=some ↑m.t.wi/\W.cell? (g,3)=some ↑m.t.lm) (by kernel_rfl) S0.o (λhHeld=>?_);refine wT 0 5 ?_;refine wT 1 6 ?_;refine wT 2 7 ?_;refine wT 3 8 ?_;refine wT 4 9 ?_;refine aM (rs:=[5,7]) (by kernel_rfl) (by simp) ?_;refine(aA rfl (λK hK=>?_) (aA rfl (λK hK=>?_) aG))
  ·skip
   go_simp;refine(HV _ b0).o.mono ?_;rintro _ w2 ⟨rfl,b2⟩;have b3:=b0.trans (b2.mono b0.size);refine hK.o _ _ (HH.o _ b3) (λhHeld=>?_);clear hK K
   try simp only[qq]
   refine aM (rs:=[6,7]) (by kernel_rfl) (by simp) ?_;refine(aA rfl (λK hK=>?_) (aA rfl (λK hK=>?_) aG))
   ·skip
    go_simp;refine(HX _).o.mono ?_;rintro _ w4 ⟨rfl,b4⟩;have b5:=b3.trans (b4.mono b3.size);refine hK.o _ _ (HH.o _ b5) (λhHeld=>?_);clear hK K
    try simp only[qq]
    refine aM (rs:=[7]) (by kernel_rfl) (by simp) ?_;refine(aA rfl (λK hK=>?_) aG);go_simp;have b6:=b5.alloc b5.size (.cells #[↑(0:Int),↑(0:Int),↑(0:Int)] 96);refine hK.o _ _ (HH.o _ b6) (λhHeld=>?_);clear hK K
    try simp only[qq]
    refine aM (rs:=[8]) (by kernel_rfl) (by simp) ?_;refine(aA rfl (λK hK=>?_) aG);have X:=aJ w4 w4 rfl #[↑(0:Int),↑(0:Int),↑(0:Int)] 96;have y0:=X.cell 0 (x:=↑(0:Int)) rfl;have y1:=X.cell 1 (x:=↑(0:Int)) rfl;have y2:=X.cell 2 (x:=↑(0:Int)) rfl;have z0:=X.frozen 0;have z1:=X.frozen 1;have z2:=X.frozen 2;go_simp;have XF:=aJ w4 w4 rfl #[↑Rn,↑Sn,↑(m.ty.m:Nat)] 96;have bF:=b5.alloc b5.size (.cells #[↑Rn,↑Sn,↑(m.ty.m:Nat)] 96);have le:w.heap.size<=w4.heap.size:=b5.size;refine hK.o _ _ (HH.o _ bF) (λhHeld=>?_);clear hK K y0 y1 y2 z0 z1 z2
    try simp only[qq]
    refine bP (by kernel_rfl) ?_ _;go_wp2_with fail
    go_meet
    exact⟨_,rfl,XF,bF,le⟩
   ·skip
    go_simp;have b3x:=b3.alloc b3.size (.cells #[↑(0:Int),↑(0:Int),↑(0:Int)] 96);refine hK.o _ _ (HH.o _ b3x) (λhHeld=>?_);clear hK K
    try simp only[qq]
    refine aM (rs:=[6]) (by kernel_rfl) (by simp) ?_;refine(aA rfl (λK hK=>?_) aG);go_simp;refine(HX _).o.mono ?_;rintro _ w4 ⟨rfl,b4⟩;have b5:=b3x.trans (b4.mono b3x.size);refine hK.o _ _ (HH.o _ b5) (λhHeld=>?_);clear hK K
    try simp only[qq]
    refine aM (rs:=[8]) (by kernel_rfl) (by simp) ?_;refine(aA rfl (λK hK=>?_) aG);have X:=(aJ w2 w2 rfl #[↑(0:Int),↑(0:Int),↑(0:Int)] 96).below b4 (by simp);have y0:=X.cell 0 (x:=↑(0:Int)) rfl;have y1:=X.cell 1 (x:=↑(0:Int)) rfl;have y2:=X.cell 2 (x:=↑(0:Int)) rfl;have z0:=X.frozen 0;have z1:=X.frozen 1;have z2:=X.frozen 2;go_simp;have le:w.heap.size<=w2.heap.size:=b3.size;have XF:Blk _ w2 #[↑Rn,↑Sn,↑(m.ty.m:Nat)] 96:=(((X.set 0 ↑Rn).set 1 ↑Sn).set 2 ↑(m.ty.m:Nat)).eq (by simp);have bF:=((b5.setCell (p:=(w2.heap.size,0)) le ↑Rn).setCell (p:=(w2.heap.size,1)) le ↑Sn).setCell (p:=(w2.heap.size,2)) le ↑(m.ty.m:Nat);refine hK.o _ _ (HH.o _ bF) (λhHeld=>?_);clear hK K y0 y1 y2 z0 z1 z2
    try simp only[qq]
    refine bP (by kernel_rfl) ?_ _;go_wp2_with fail
    go_meet
    exact⟨_,rfl,XF,bF,le⟩
  ·skip
   go_simp;have b0x:=b0.alloc b0.size (.cells #[↑(0:Int),↑(0:Int),↑(0:Int)] 96);refine hK.o _ _ (HH.o _ b0x) (λhHeld=>?_);clear hK K
   try simp only[qq]
   refine aM (rs:=[5]) (by kernel_rfl) (by simp) ?_;refine(aA rfl (λK hK=>?_) aG);go_simp;refine(HV _ b0x).o.mono ?_;rintro _ w2 ⟨rfl,b2⟩;have b3:=b0x.trans (b2.mono b0x.size);refine hK.o _ _ (HH.o _ b3) (λhHeld=>?_);clear hK K
   try simp only[qq]
   refine aM (rs:=[6]) (by kernel_rfl) (by simp) ?_;refine(aA rfl (λK hK=>?_) aG);go_simp;refine(HX _).o.mono ?_;rintro _ w4 ⟨rfl,b4⟩;have b5:=b3.trans (b4.mono b3.size);refine hK.o _ _ (HH.o _ b5) (λhHeld=>?_);clear hK K
   try simp only[qq]
   refine aM (rs:=[8]) (by kernel_rfl) (by simp) ?_;refine(aA rfl (λK hK=>?_) aG);have X:=((aJ w.drew w rfl #[↑(0:Int),↑(0:Int),↑(0:Int)] 96).below b2 (by simp)).below b4 (by have:=b2.size;simp at this;omega);have y0:=X.cell 0 (x:=↑(0:Int)) rfl;have y1:=X.cell 1 (x:=↑(0:Int)) rfl;have y2:=X.cell 2 (x:=↑(0:Int)) rfl;have z0:=X.frozen 0;have z1:=X.frozen 1;have z2:=X.frozen 2;go_simp;have le:w.heap.size<=w.heap.size:=aR _;have XF:Blk _ w #[↑Rn,↑Sn,↑(m.ty.m:Nat)] 96:=(((X.set 0 ↑Rn).set 1 ↑Sn).set 2 ↑(m.ty.m:Nat)).eq (by simp);have bF:=((b5.setCell (p:=(w.heap.size,0)) le ↑Rn).setCell (p:=(w.heap.size,1)) le ↑Sn).setCell (p:=(w.heap.size,2)) le ↑(m.ty.m:Nat);refine hK.o _ _ (HH.o _ bF) (λhHeld=>?_);clear hK K y0 y1 y2 z0 z1 z2
   try simp only[qq]
   refine bP (by kernel_rfl) ?_ _;go_wp2_with fail
   go_meet
   exact⟨_,rfl,XF,bF,le⟩
 case rest=>
  clear S0 HH HV HX;obtain⟨a,rfl,hX,b5,hal⟩:=hcut;rcases hK.o with⟨hk,rfl⟩|⟨hk,hw,rfl⟩|⟨hk,hw,rfl⟩
  ·clear hK
   have hK:=af hk;have h5:=hBH.o wc b5;have y0:=hX.cell 0 (x:=↑Rn) rfl;have y1:=hX.cell 1 (x:=↑Sn) rfl;have c7:=h5.c7;have c8:=h5.c8;have f7:=h5.frozen 7;have f8:=h5.frozen 8;have h7:RA b G ((wc.setCell (g,7) ↑Rn).setCell (g,8) ↑Sn) g m.nxt x:=by
    have:=((h5.sRd Rn).sSl Sn.toNat).se_ false;rw[hnx]at this;rw[hmn];exact this
   have k7:=af ((iZ (G:=G) b5).trans (((((aE g wc).set 7 ↑Rn).set 8 ↑Sn)).kg hg));have h7:=af h7.drew;have k7:=af (k7.o.trans (iZ (ah _ _).drew));clear h5 hBH hX b5 hmn hnx hNe;have qs:(Sn != 0)=true:=by rw[bV];exact hK.o
   go_wp2_with fail
   go_region
   all_goals
    go_wp2;exact aK (v:=.tuple #[]) (ax (by rfl) _ _ _) rfl ⟨rfl,⟨x,h7.o⟩,k7.o⟩
  ·clear hK
   have hK:=af hk;have hk:=hK.o;have hsl0:m.nxt.sl=0:=by rw[hmn];show Sn.toNat=0;rw[hk];rfl
   have htl:m.nxt.t.lm=m.t.lm:=rfl;have hck:small m.nxt.ck:=hE.ck;obtain⟨hl1,hl2⟩:=hE.lm;obtain⟨ht1,ht2⟩:=hE.tm;obtain⟨hd1,hd2⟩:=hE.dr;have hfin:=af (show m.nxt.kr={({m.nxt with tm:=m.nxt.tm+jb m.nxt.t.lm m.nxt.ck+m.nxt.dr}:NM)with ck:=[],so:=m.nxt.so.age,an:=iR m.nxt.al m.nxt.so.age,ar:=λi=>m.nxt.ar i ||| iR m.nxt.al m.nxt.so.age i}from by
    unfold NM.kr;rw[au (show wiB m.nxt.t.lm (avg m.nxt.ck)=true from hw)])
   have hwb:wiB m.nxt.t.lm (avg m.nxt.ck)=true:=hw;have OA:-4611687117939015680<=m.nxt.tm:=ht1;have OB:m.nxt.tm<=4611687117939015680:=ht2;have OC:-1000<=m.nxt.dr:=hd1;have OD:m.nxt.dr<=1000:=hd2;have hb:=qR m.nxt.t.lm m.nxt.ck hl1;have hb1:-1000<=jb m.nxt.t.lm m.nxt.ck:=by rw[htl]at *;omega
   have hb2:jb m.nxt.t.lm m.nxt.ck<=1000:=by rw[htl]at *;omega
   clear hb hw hk;have h5:=hBH.o wc b5;have y0:=hX.cell 0 (x:=↑Rn) rfl;have y1:=hX.cell 1 (x:=↑Sn) rfl;have c7:=h5.c7;have c8:=h5.c8;have f7:=h5.frozen 7;have f8:=h5.frozen 8;have h7:RA b G ((wc.setCell (g,7) ↑Rn).setCell (g,8) ↑Sn) g m.nxt x:=by
    have:=((h5.sRd Rn).sSl Sn.toNat).se_ false;rw[hnx]at this;rw[hmn];exact this
   have k7:=af ((iZ (G:=G) b5).trans (((((aE g wc).set 7 ↑Rn).set 8 ↑Sn)).kg hg));have h7:=af h7.drew;have k7:=af (k7.o.trans (iZ (ah _ _).drew));clear h5 hBH hX b5 hmn hnx hNe;have qs:(Sn != 0)=false:=by rw[hK.o];rfl
   go_wp2_with fail
   go_region
   all_goals
    clear y0 y1 c7 c8 f7 f8;have xH:(0:Int)=Sn:=hK.o.symm;subst xH;generalize(World.setCell _ (g,8) _).drew=w6 at *;have c8:w6.cell? (g,8)=some ↑(0:Int):=by
     have:=h7.o.c8;rw[hsl0]at this;exact this
    obtain⟨cc,L,hcc,hup⟩:=h7.o.clock;have hT:=af (Eb cc g _ L _ w6 hcc hck h7.o.cko ⟨by rw[htl];omega,by rw[htl];omega⟩);clear hup hcc;go_wp2_with fail;refine hT.o.mono ?_;rintro _ w7 ⟨rfl,b7⟩;have h8:=h7.o.below b7;have k8:=af (k7.o.trans (iZ b7));clear hT h7 k7 c8;have c10:=h8.c10;have c5:=h8.c5;have f10:=h8.frozen 10;have h9:=af ((h8.sTm (m.nxt.tm+jb m.nxt.t.lm m.nxt.ck+m.nxt.dr)).drew);have k9:=af ((k8.o.trans (((aE g w7).set 10 ↑(m.nxt.tm+jb m.nxt.t.lm m.nxt.ck+m.nxt.dr:Int)).kg hg)).trans (iZ (ah _ _).drew));clear h8 k8;rw[hwb];generalize jb m.nxt.t.lm m.nxt.ck=tv at *;generalize m.nxt.tm=tm at *;generalize m.nxt.dr=dr at *;have hw1:IntKind.i64.wrap (tm+tv)=tm+tv:=aO _ (by omega);have hw2:IntKind.i64.wrap (tm+tv+dr)=tm+tv+dr:=aO _ (by omega);go_wp2_with fail
    go_region
    all_goals
     clear c10 c5 f10;generalize(World.setCell _ (g,10) _).drew=w9 at *;obtain⟨cc2,L2,rC,rD⟩:=h9.o.clock;have hC:=af (xu cc2 g _ L2 _ w9 rC);go_wp2_with fail;refine hC.o.mono ?_;rintro _ w10 ⟨rfl,rE,o10⟩;have h10:=rD _ _ _ rE o10 (λk e=>by simp[jv]at e) (by simp) (λi hi=>hG i (aW k9.o.size hi));have k10:=af (k9.o.trans (o10.kg hg));have hgs:=h10.gs x.s (by simp[RX.own]);have c13:w10.cell? (g,13)=some ↑(x.s,0):=h10.c13;have hA:=af (Ec G _ x.s _ w10 h10.so (by simp[RX.own]));have h10:=af h10;clear hC rC rD rE o10 h9 k9;go_wp2_with fail;refine hA.o.mono ?_;rintro _ w11 ⟨rfl,h11,o11⟩;have h12:=h10.o.upS h11 o11;have k12:=af (k10.o.trans (o11.kg hgs));have c13:w11.cell? (g,13)=some ↑(x.s,0):=h12.c13;have c14:w11.cell? (g,14)=some ↑(x.a,0):=h12.c14;have hL:=af (D8 b G g _ x w11.drew h12.drew);clear hA h11 o11 h10 k10 h12;go_wp2_with fail
     go_region_with (first
      |(go_at_call 184;refine hL.o.mono ?_;rintro _ w13 ⟨rfl,h13,k13⟩;(have hF:=af h13);(have kF:=af ((k12.o.trans (iZ (ah _ w11).drew)).trans k13)))
      |fail)
     all_goals
      clear c13 c14 hL h13 k13 k12;go_wp2;refine aD (ax (by rfl) _ _ _) rfl ⟨rfl,?_,kF.o⟩;rw[hfin.o];exact⟨x,hF.o⟩
  ·clear hK
   have hK:=af hk;have hk:=hK.o;have hsl0:m.nxt.sl=0:=by rw[hmn];show Sn.toNat=0;rw[hk];rfl
   have htl:m.nxt.t.lm=m.t.lm:=rfl;have hck:small m.nxt.ck:=hE.ck;obtain⟨hl1,hl2⟩:=hE.lm;obtain⟨ht1,ht2⟩:=hE.tm;obtain⟨hd1,hd2⟩:=hE.dr;have hfin:=af (show m.nxt.kr={({m.nxt with st:=5}:NM)with ck:=[],so:=m.nxt.so.age,an:=iR m.nxt.al m.nxt.so.age,ar:=λi=>m.nxt.ar i ||| iR m.nxt.al m.nxt.so.age i}from by
    unfold NM.kr;rw[ai (show ¬wiB m.nxt.t.lm (avg m.nxt.ck)=true from by rw[show wiB m.nxt.t.lm (avg m.nxt.ck)=false from hw];decide)])
   have hwb:wiB m.nxt.t.lm (avg m.nxt.ck)=false:=hw;have OA:-4611687117939015680<=m.nxt.tm:=ht1;have OB:m.nxt.tm<=4611687117939015680:=ht2;have OC:-1000<=m.nxt.dr:=hd1;have OD:m.nxt.dr<=1000:=hd2;have hb:=qR m.nxt.t.lm m.nxt.ck hl1;have hb1:-1000<=jb m.nxt.t.lm m.nxt.ck:=by rw[htl]at *;omega
   have hb2:jb m.nxt.t.lm m.nxt.ck<=1000:=by rw[htl]at *;omega
   clear hb hw hk;have h5:=hBH.o wc b5;have y0:=hX.cell 0 (x:=↑Rn) rfl;have y1:=hX.cell 1 (x:=↑Sn) rfl;have c7:=h5.c7;have c8:=h5.c8;have f7:=h5.frozen 7;have f8:=h5.frozen 8;have h7:RA b G ((wc.setCell (g,7) ↑Rn).setCell (g,8) ↑Sn) g m.nxt x:=by
    have:=((h5.sRd Rn).sSl Sn.toNat).se_ false;rw[hnx]at this;rw[hmn];exact this
   have k7:=af ((iZ (G:=G) b5).trans (((((aE g wc).set 7 ↑Rn).set 8 ↑Sn)).kg hg));have h7:=af h7.drew;have k7:=af (k7.o.trans (iZ (ah _ _).drew));clear h5 hBH hX b5 hmn hnx hNe;have qs:(Sn != 0)=false:=by rw[hK.o];rfl
   go_wp2_with fail
   go_region
   all_goals
    clear y0 y1 c7 c8 f7 f8;have xH:(0:Int)=Sn:=hK.o.symm;subst xH;generalize(World.setCell _ (g,8) _).drew=w6 at *;have c8:w6.cell? (g,8)=some ↑(0:Int):=by
     have:=h7.o.c8;rw[hsl0]at this;exact this
    obtain⟨cc,L,hcc,hup⟩:=h7.o.clock;have hT:=af (Eb cc g _ L _ w6 hcc hck h7.o.cko ⟨by rw[htl];omega,by rw[htl];omega⟩);clear hup hcc;go_wp2_with fail;refine hT.o.mono ?_;rintro _ w7 ⟨rfl,b7⟩;have h8:=h7.o.below b7;have k8:=af (k7.o.trans (iZ b7));clear hT h7 k7 c8;have c6:=h8.c6;have f6:=h8.frozen 6;have h9:=af (h8.sSt 5);have k9:=af (k8.o.trans (((aE g w7).set 6 ↑(5:Nat)).kg hg));clear h8 k8;rw[hwb]
    all_goals
     go_wp2_with fail;clear c6 f6;generalize World.setCell _ (g,6) _=w9 at *;obtain⟨cc2,L2,rC,rD⟩:=h9.o.clock;have hC:=af (xu cc2 g _ L2 _ w9 rC);go_wp2_with fail;refine hC.o.mono ?_;rintro _ w10 ⟨rfl,rE,o10⟩;have h10:=rD _ _ _ rE o10 (λk e=>by simp[jv]at e) (by simp) (λi hi=>hG i (aW k9.o.size hi));have k10:=af (k9.o.trans (o10.kg hg));have hgs:=h10.gs x.s (by simp[RX.own]);have c13:w10.cell? (g,13)=some ↑(x.s,0):=h10.c13;have hA:=af (Ec G _ x.s _ w10 h10.so (by simp[RX.own]));have h10:=af h10;clear hC rC rD rE o10 h9 k9;go_wp2_with fail;refine hA.o.mono ?_;rintro _ w11 ⟨rfl,h11,o11⟩;have h12:=h10.o.upS h11 o11;have k12:=af (k10.o.trans (o11.kg hgs));have c13:w11.cell? (g,13)=some ↑(x.s,0):=h12.c13;have c14:w11.cell? (g,14)=some ↑(x.a,0):=h12.c14;have hL:=af (D8 b G g _ x w11.drew h12.drew);clear hA h11 o11 h10 k10 h12;go_wp2_with fail
     go_region_with (first
      |(go_at_call 184;refine hL.o.mono ?_;rintro _ w13 ⟨rfl,h13,k13⟩;(have hF:=af h13);(have kF:=af ((k12.o.trans (iZ (ah _ w11).drew)).trans k13)))
      |fail)
     all_goals
      clear c13 c14 hL h13 k13 k12;go_wp2;refine aD (ax (by rfl) _ _ _) rfl ⟨rfl,?_,kF.o⟩;rw[hfin.o];exact⟨x,hF.o⟩
theorem oU(b:Bool)(G:GS)(g:Nat)(m:NM)(x:RX)(w:World)(h:RA b G w g m x)(hG:GN G w)(hN:NG m):OnC b G g m m.goOn w:=by
 rw[NM.qQ];by_cases hk:nxS m.t.ns.length m.sl=0
 ·rw[ai (λh=>h hk)]
  cases hw:wiB m.t.lm (avg m.ck)
  ·exact xG b G g m x w h hG hN (.inr (.inr ⟨hk,hw,rfl⟩))
  ·exact xG b G g m x w h hG hN (.inr (.inl ⟨hk,hw,rfl⟩))
 ·rw[au hk]
  exact xG b G g m x w h hG hN (.inl ⟨hk,rfl⟩)
end
end Go.Proofs.YteadkhigkmijiaaGreat
