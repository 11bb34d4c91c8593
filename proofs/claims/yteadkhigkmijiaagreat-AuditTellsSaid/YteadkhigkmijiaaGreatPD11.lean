/- Texts AlP, NdC in one. -/
import Derived.Test.YteadkhigkmijiaaGreatPD1
import Derived.Test.YteadkhigkmijiaaGreatPD8
import Derived.Test.YteadkhigkmijiaaGreatPD10
set_option linter.all false
namespace Go.Proofs.YteadkhigkmijiaaGreat
section
set_option maxRecDepth 100000
set_option maxHeartbeats 4000000
open Go.RowKit
theorem yK(V:Value)(n r:Nat->Nat):(alc V n r).size=17:=rfl
structure APt(c:Cx 50)(V:Value)(F:List Nat)(W:World)(g:Nat)(l:List R4)(n r:Nat->Nat):Prop where
 ex:PB c W g (alc V n r)/\jl W W V l/\∀f,f∈F->l≠[]->V.ownBlock≠some f
 len:l.length<=8
 n16:∀i,i<8->n i<16
 r16:∀i,i<8->r i<16
section
variable {c:Cx 50}{V:Value}{F:List Nat}{W W':World}{g g':Nat}{l:List R4}{n r:Nat->Nat}
theorem APt.lt(h:APt c V F W g l n r):g<W.heap.size:=by
 obtain⟨hB,-⟩:=h.ex;exact hB.lt
theorem APt.keep(h:APt c V F W g l n r)(k:Kp F W W')(hb:W'.heap[g]?=W.heap[g]?):APt c V F W' g l n r:=by
 obtain⟨hB,hS,hF⟩:=h.ex;exact⟨⟨hb.trans hB,hS.mI hF k,hF⟩,h.len,h.n16,h.r16⟩
theorem APt.below(h:APt c V F W g l n r)(k:Below W W W'):APt c V F W' g l n r:=h.keep (ku k) (k.block g h.lt)
theorem APt.frozen(h:APt c V F W g l n r)(o:Nat):W.frozen? (g,o)=false:=by
 obtain⟨hB,-⟩:=h.ex;exact hB.frozen _
theorem APt.cs(h:APt c V F W g l n r):∃A d,W.cell? (g,50)=some (.slice A l.length d)/\jl W W (.slice A l.length d) l:=by
 obtain⟨hB,hS,-⟩:=h.ex;obtain⟨A,d,rfl,-⟩:=hS.at_;exact⟨A,d,hB.cell 0 rfl,hS⟩
theorem APt.cn(h:APt c V F W g l n r){i:Nat}(hi:i<8):W.cell? (g,51+i)=some ↑(n i:Nat):=by
 obtain⟨hB,-⟩:=h.ex;exact PBa (hB.cell _ (yE _ _ _ hi)) (by omega)
theorem APt.cr(h:APt c V F W g l n r){i:Nat}(hi:i<8):W.cell? (g,59+i)=some ↑(r i:Nat):=by
 obtain⟨hB,-⟩:=h.ex;exact PBa (hB.cell _ (yF _ _ _ hi)) (by omega)
theorem APt.yL(h:APt c V F W g l n r)(hg:g∈F){i x:Nat}(hi:i<8)(hx:x<16):APt c V F (W.setCell (g,59+i) ↑x) g l n (upd r i x):=by
 obtain⟨hB,hS,hF⟩:=h.ex;have hkp:Kp F W (W.setCell (g,59+i) ↑x):=((aE g W).set _ _).kp hg;refine⟨⟨PBs (hB.set (9+i) (by rw[yK];omega) _) (by omega) (Gi _ _ _ hi _),hS.mI hF hkp,hF⟩,h.len,h.n16,λj hj=>?_⟩;simp only[upd]
 split
 ·exact hx
 ·exact h.r16 j hj
theorem APt.nE(h:APt c V F W g l n r)(hg:g∈F){i x:Nat}(hi:i<8)(hx:x<16):APt c V F (W.setCell (g,51+i) ↑x) g l (upd n i x) r:=by
 obtain⟨hB,hS,hF⟩:=h.ex;have hkp:Kp F W (W.setCell (g,51+i) ↑x):=((aE g W).set _ _).kp hg;refine⟨⟨PBs (hB.set (1+i) (by rw[yK];omega) _) (by omega) (Gh _ _ _ hi _),hS.mI hF hkp,hF⟩,h.len,λj hj=>?_,h.r16⟩;simp only[upd]
 split
 ·exact hx
 ·exact h.n16 j hj
theorem APt.drew(h:APt c V F W g l n r):APt c V F W.drew g l n r:=h.below (ah _ W).drew
theorem APt.alike{n' r':Nat->Nat}(h:APt c V F W g l n r)(hn:∀i,i<8->n i=n' i)(hr:∀i,i<8->r i=r' i):APt c V F W g l n' r':=by
 obtain⟨hB,hS,hF⟩:=h.ex;refine⟨⟨hB.eq ?_,hS,hF⟩,h.len,λi hi=>hn i hi▸h.n16 i hi,λi hi=>hr i hi▸h.r16 i hi⟩;unfold alc;rw[hn 0 (by omega),hn 1 (by omega),hn 2 (by omega),hn 3 (by omega),hn 4 (by omega),hn 5 (by omega),hn 6 (by omega),hn 7 (by omega),hr 0 (by omega),hr 1 (by omega),hr 2 (by omega),hr 3 (by omega),hr 4 (by omega),hr 5 (by omega),hr 6 (by omega),hr 7 (by omega)]
end
theorem yM(c:Cx 50)(V:Value)(F:List Nat)(g:Nat)(l:List R4)(n r:Nat->Nat)(i:Int)(w:World)(h:APt c V F w g l n r):
  Calls Tryz.prog 111 #[↑(g,50),↑i] w λe w'=>e=.returned ↑(decide (isR l i))/\w'=w:=by
 have h8:=h.len;obtain⟨A,d,c0,-⟩:=h.cs;clear h
 go_enter Tryz.func111,Tryz.ntmps111
 go_wp2
 all_goals
  go_ret;refine⟨dn (λb=>Ending.returned (Value.bool b)) (bY.2 ?_),rfl⟩;rw[gB];simp only[bC,bA];unfold isR;constructor<;>intro H
  all_goals (first|omega|exact H.elim)
theorem Gt(c:Cx 50)(V:Value)(F:List Nat)(g:Nat)(l:List R4)(n r:Nat->Nat)(i:Int)(w:World)(h:APt c V F w g l n r):
  Calls Tryz.prog 138 #[↑(g,50),↑i] w λe w'=>e=.returned ↑((if isR l i then r i.toNat else 0:Nat):Int)/\w'=w:=by
 have HN:=af (yM c V F g l n r i w h);by_cases hn:isR l i
 ·rw[av hn]at HN
  rw[au hn];have h8:=h.len;unfold isR at hn;obtain⟨i,rfl⟩:∃k:Nat,i=k:=⟨i.toNat,by omega⟩;have hi:i<8:=by omega
  have c1:=h.cr hi;rw[aQ];clear h
  go_enter Tryz.func138,Tryz.ntmps138
  go_wp2_with fail;refine HN.o.mono ?_;rintro _ _ ⟨rfl,rfl⟩;go_wp2;go_ret;exact⟨rfl,rfl⟩
 ·rw[aj hn]at HN
  rw[ai hn]
  go_enter Tryz.func138,Tryz.ntmps138
  go_wp2_with fail;refine HN.o.mono ?_;rintro _ _ ⟨rfl,rfl⟩;go_wp2;go_ret;exact⟨rfl,rfl⟩
theorem Gu(c:Cx 50)(V:Value)(F:List Nat)(g:Nat)(l:List R4)(n r:Nat->Nat)(i:Int)(w:World)(h:APt c V F w g l n r)(hg:g∈F):
  Calls Tryz.prog 72 #[↑(g,50),↑i] w λe w'=>e=.returned ↑(jP l n r i)/\APt c V F w' g l n (jS l n r i)/\Only g w w':=by
 have HN:=af (yM c V F g l n r i w h);by_cases hn:isR l i
 case neg=>
  rw[aj hn]at HN;rw[show jP l n r i=1 by unfold jP;rw[ai hn],show jS l n r i=r by unfold jS;rw[ai hn]]
  go_enter Tryz.func72,Tryz.ntmps72
  go_wp2_with fail;refine HN.o.mono ?_;rintro _ _ ⟨rfl,rfl⟩;go_wp2;go_ret;exact⟨rfl,h,aE _ _⟩
 rw[av hn]at HN;have hn':=hn;unfold isR at hn;have h8:=h.len;obtain⟨i,rfl⟩:∃k:Nat,i=k:=⟨i.toNat,by omega⟩;have hi:i<8:=by omega
 have c1:=h.cn hi;have c2:=h.cr hi;have f2:=h.frozen (59+i);have ha:=Gk (h.r16 i hi) (h.n16 i hi);have hk:Hid (APt c V F w g l n r):=af h;have hx:=h.n16 i hi;clear h;by_cases h0:nW (r i) (n i)=0
 ·rw[show jP l n r i=4 by unfold jP;rw[au hn',aQ,au h0],show jS l n r i=r by unfold jS;rw[au hn',aQ,au h0]]
  rw[h0]at ha
  go_enter Tryz.func72,Tryz.ntmps72
  go_wp2_with fail;refine HN.o.mono ?_;rintro _ _ ⟨rfl,rfl⟩;go_wp2_with fail
  go_quiet (fail)
  go_wp2;go_ret;exact⟨rfl,hk.o.below (aC (ah _ _) _),iQ g (aC (ah _ _) _)⟩
 ·rw[show jP l n r i=0 by unfold jP;rw[au hn',aQ,ai h0],show jS l n r i=upd r i (n i) by unfold jS;rw[au hn',aQ,ai h0]]
  have q0:(((nW (r i) (n i):Nat):Int)==0)=false:=by rw[aB];omega
  go_enter Tryz.func72,Tryz.ntmps72
  go_wp2_with fail;refine HN.o.mono ?_;rintro _ _ ⟨rfl,rfl⟩;go_wp2_with fail
  go_quiet (fail)
  go_wp2_with fail
  go_region
  all_goals
   go_wp2;go_ret;exact⟨rfl,APt.yL (hk.o.below (aC (ah _ _) _)) hg hi hx,(iQ g (aC (ah _ _) _)).set _ _⟩
theorem APt.Gv{c:Cx 50}{V:Value}{F:List Nat}{W:World}{g:Nat}{l:List R4}{n r:Nat->Nat}(h:APt c V F W g l n r)(hg:g∈F)(N:Nat->Nat)(hN:∀i,N i<16):APt c V F ((((((((W.setCell (g,51) ↑(N 0:Nat)).setCell (g,52) ↑(N 1:Nat)).setCell (g,53) ↑(N 2:Nat)).setCell (g,54) ↑(N 3:Nat)).setCell (g,55) ↑(N 4:Nat)).setCell (g,56) ↑(N 5:Nat)).setCell (g,57) ↑(N 6:Nat)).setCell (g,58) ↑(N 7:Nat)) g l N r/\Only g W ((((((((W.setCell (g,51) ↑(N 0:Nat)).setCell (g,52) ↑(N 1:Nat)).setCell (g,53) ↑(N 2:Nat)).setCell (g,54) ↑(N 3:Nat)).setCell (g,55) ↑(N 4:Nat)).setCell (g,56) ↑(N 5:Nat)).setCell (g,57) ↑(N 6:Nat)).setCell (g,58) ↑(N 7:Nat)):=
 ⟨(((((((((h).nE hg (i:=0) (by omega) (hN 0)).nE hg (i:=1) (by omega) (hN 1)).nE hg (i:=2) (by omega) (hN 2)).nE hg (i:=3) (by omega) (hN 3)).nE hg (i:=4) (by omega) (hN 4)).nE hg (i:=5) (by omega) (hN 5)).nE hg (i:=6) (by omega) (hN 6)).nE hg (i:=7) (by omega) (hN 7)).alike (λi hi=>lu (p:=λi=>_=N i) hi rfl rfl rfl rfl rfl rfl rfl rfl) (λ_ _=>rfl),((((((((aE g W).set _ _).set _ _).set _ _).set _ _).set _ _).set _ _).set _ _).set _ _⟩
def qx(g:Nat):Value:=.func (.func 137) #[↑(g,26)] #[]
theorem Gw(c:Cx 50)(c':Cx 26)(V:Value)(G:Nat->Prop)(F:List Nat)(g:Nat)(l:List R4)(n r:Nat->Nat)(s:MS)(w:World)(h:APt c V F w g l n r)(hg:g∈F)(p:SPt c' G F w g s):
  Calls Tryz.prog 204 #[↑(g,50),qx g] w λe w'=>e=.returned (.tuple #[])/\APt c V F w' g l (iR l s) (λi=>r i ||| iR l s i)/\Only g w w':=by
 have h8:=h.len;have hgl:=h.lt;obtain⟨A,d,c0,hS⟩:=h.cs;obtain⟨A',d',e,v1,v2,v3,v4⟩:=hS.at_
 cases e
 unfold maxLen at v2;have HX:Hid (0<l.length->∃b off,A=some ⟨b,off,none⟩/\∀W,Below w w W->∀k,k<l.length->mJ W b (off+k*4) (l.getD k default)):=af λh0=>by
  obtain⟨b,off,hA,hb,hc⟩:=v3 h0;exact⟨b,off,hA,λW hW k hk=>(hc k hk).keep λo=>hW.cell (p:=(b,o)) hb⟩
 have HR:=λi W(hW:Below w w W)=>af (yN c' G F g s i W (SPt.below p hW));have HL:=λi=>(p.2.gd i).2;have HK:Hid (APt c V F w g l n r):=af h;have hmf:∀(fn:Fn)(first cap:Array Value)(w:World),(Instr.makeFunc fn first cap).run Tryz.prog w=.ok (.func fn first cap) w:=λ_ _ _ _=>rfl;unfold qx;clear hS v1 v2 v3 v4 h p
 go_enter_defers Tryz.func204,Tryz.ntmps204
 go_wp2_with fail
 go_loopw [16] (λi wr=>∃k:Nat,k<=l.length/\i=↑k/\Blk wr w (c8 λj=>if j<k then iR l s j else 0) 22/\Below w w wr) (λi _=>l.length-(intOf i).toNat)
 case atStart=>exact⟨0,by omega,rfl,aJ _ _ rfl _ _,(ah _ _).alloc lr _⟩
 case round=>
  obtain⟨k,hk,rfl,hB,b⟩:=hrel;by_cases hlt:k<l.length
  ·have r1:decide ((k:Int)<((l.length:Nat):Int))=true:=av (by omega)
   obtain⟨bl,off,rfl,HG⟩:=HX.o (by omega);obtain⟨x0,x1,x2,x3⟩:=HG _ b k hlt;clear HG HX;generalize hq:l.getD k default=q at *;have hnk:iR l s k=lE q (s.gd q.n) (s.ga q.n) (s.gg q.n):=by unfold iR;rw[au hlt,hq]
   have hn16:=rU l s k;obtain⟨qn,ql,qh,qs⟩:=q;have hRq:=HR qn;have bX:=b.alloc b.size (.cells #[↑qn,↑ql,↑qh,↑qs] 69);have hX:=aJ wr wr rfl #[↑qn,↑ql,↑qh,↑qs] 69;have hBX:=hB.alloc (.cells #[↑qn,↑ql,↑qh,↑qs] 69);have hbs:=b.size;clear HR hq;go_wp2_with fail;refine Gq ?_
   go_region_with (first
    |(go_at_call 137;refine(hRq _ bX.drew).o.mono ?_;rintro _ w2 ⟨v2,rfl,hv2,-,b2⟩;have hl2:=HL qn;have hX2:=hX.drew.below b2 (by simp);have yO:=hBX.drew.below b2 (by simp;omega);have b2:=bX.drew.trans (b2.mono (by simp;omega));have y0:=hX2.cell 0 (x:=.int .i64 qn) rfl;have y1:=hX2.cell 1 (x:=.int .i64 ql) rfl;have y2:=hX2.cell 2 (x:=.int .i64 qh) rfl;have y3:=hX2.cell 3 (x:=.int .i64 qs) rfl)
    |(go_at_call 229;refine(Gx ⟨qn,ql,qh,qs⟩ v2 _ _ _ _ _ hv2 hl2).mono ?_;rintro _ w3 ⟨rfl,b3⟩;have hB3:=yO.below b3 yO.lt;have b3:=b2.trans (b3.mono b2.size);have z0:=hB3.cell k (Gf _ (by omega));have z1:=hB3.frozen k))
   all_goals
    unfold yG;go_wp2;go_roundw
    case rel=>
     refine⟨k+1,by omega,by go_num,(hB3.set k _).eq ((Gg _ (by omega) _).trans (dn c8 (funext λj=>?_))),b3.setCell (by simp) _⟩;simp only[upd];rcases nX j k with h|h|h
     ·rw[ai (by omega),au h,au (by omega)]
     ·subst h
      rw[au rfl,au (by omega),hnk]
     ·rw[ai (by omega),ai (by omega),ai (by omega)]
    case measure=>simp[intOf];omega
  ·obtain rfl:k=l.length:=by omega
   have r1:decide (((l.length:Nat):Int)<((l.length:Nat):Int))=false:=aj (by omega);have hB:Blk wr w (c8 (iR l s)) 22:=hB.eq (dn c8 (funext λj=>by
    split
    ·rfl
    ·rename_i h
     unfold iR;rw[ai h]))
   have ha:=HK.o.below b;have y0:=hB.cell 0 (x:=↑(iR l s 0:Nat)) rfl;have y1:=hB.cell 1 (x:=↑(iR l s 1:Nat)) rfl;have y2:=hB.cell 2 (x:=↑(iR l s 2:Nat)) rfl;have y3:=hB.cell 3 (x:=↑(iR l s 3:Nat)) rfl;have y4:=hB.cell 4 (x:=↑(iR l s 4:Nat)) rfl;have y5:=hB.cell 5 (x:=↑(iR l s 5:Nat)) rfl;have y6:=hB.cell 6 (x:=↑(iR l s 6:Nat)) rfl;have y7:=hB.cell 7 (x:=↑(iR l s 7:Nat)) rfl;have z0:=ha.cn (i:=0) (by omega);have f0:=ha.frozen 51;have z1:=ha.cn (i:=1) (by omega);have f1:=ha.frozen 52;have z2:=ha.cn (i:=2) (by omega);have f2:=ha.frozen 53;have z3:=ha.cn (i:=3) (by omega);have f3:=ha.frozen 54;have z4:=ha.cn (i:=4) (by omega);have f4:=ha.frozen 55;have z5:=ha.cn (i:=5) (by omega);have f5:=ha.frozen 56;have z6:=ha.cn (i:=6) (by omega);have f6:=ha.frozen 57;have z7:=ha.cn (i:=7) (by omega);have f7:=ha.frozen 58;obtain⟨hA,hO⟩:=ha.Gv hg (iR l s) (rU l s);replace hO:=(iQ g b).trans hO;clear HX HR HL;go_wp2_with fail;have hN:=rU l s;clear ha hB y0 y1 y2 y3 y4 y5 y6 y7 z0 z1 z2 z3 z4 z5 z6 z7 f0 f1 f2 f3 f4 f5 f6 f7 b c0 HK;generalize hNe:iR l s=N at *
   go_loopw [35] (λi wr=>∃k:Nat,k<=8/\i=↑k/\APt c V F wr g l N (λj=>if j<k then r j ||| N j else r j)/\Only g w wr) (λi _=>8-(intOf i).toNat)
   case atStart=>exact⟨0,by omega,rfl,hA,hO⟩
   case round=>
    clear hA hO;obtain⟨k,hk,rfl,hA,hO⟩:=hrel;by_cases hlt:k<8
    ·have r2:decide ((k:Int)<8)=true:=av (by omega)
     have cr:=hA.cr hlt;simp only[ai (fD k)]at cr;have fr:=hA.frozen (59+k);have hor:=yH (hA.r16 k hlt) (hN k);simp only[ai (fD k)]at hor;have hix:=Gs N hlt;have hA0:=af hA;clear hA;go_wp2_with fail
     go_region
     all_goals
      go_wp2;go_roundw
      case rel=>
       refine⟨k+1,by omega,by go_num,(hA0.o.drew.yL hg hlt (yI (by have:=hA0.o.r16 k hlt;simpa using this) (hN k))).alike (λ_ _=>rfl) (λj _=>?_),(hO.drew).set _ _⟩;simp only[upd];rcases nX j k with h|h|h
       ·rw[ai (by omega),au h,au (by omega)]
       ·subst h
        rw[au rfl,au (by omega)]
       ·rw[ai (by omega),ai (by omega),ai (by omega)]
      case measure=>simp[intOf];omega
    ·obtain rfl:k=8:=by omega
     have hA:=hA.alike (n':=N) (r':=λi=>r i ||| N i) (λ_ _=>rfl) (λi hi=>by simp only[au hi]);have Gy:APt c V F wr g l (iR l s) (λi=>r i ||| iR l s i)/\Only g w wr:=by
      rw[hNe];exact⟨hA,hO⟩
     clear hA hO;go_wp2;refine leaves_cons (f:=228) (args:=#[]) (by simp) (by simp[go_sem]) ?_;refine(Gn _).mono ?_;rintro e u' w'' ⟨rfl,rfl,rfl⟩;exact⟨.tuple #[],ax (by rfl) _ _ _,rfl,Gy⟩
end
section
open Go.RowKit
def ndH(m:NM)(V D:Value)(b:Bool):Array Value:=#[V,↑m.t.dr,↑m.t.wi,↑m.t.lm,↑m.me.sy,↑m.me.inf,↑m.me.li,↑m.me.sz,↑(m.i:Nat),↑m.dr,↑(m.st:Nat),↑m.rd,↑(m.sl:Nat),↑(m.wt:Nat),↑b,↑m.tm,D]
def tyc(s:TS):Array Value:=#[↑(s.m:Nat),↑(s.a:Nat),↑(s.f:Nat)]
def ndW(H:Array Value)(T:TS)(lm:Int)(ck:List Int)(sv:Nat->Value)(a:Nat->Int)(q:Nat->Bool)(R:Value)(n r:Nat->Nat):Array Value:=H++tyc T++clk lm ck++stc sv a q++alc R n r
structure NV(G:Nat->Prop)(W:World)(g:Nat)(ns:List Tb.D)(da:List Int)(sd:Nat->List Int)(al:List R4)(V D R:Value)(sv:Nat->Value):Prop where
 t:jh W W V ns
 tf:ns≠[]->V.ownBlock≠some g
 tn:Nar G V ns
 d:jr G [g] W D da
 s:∀i,i<8->jr G [g] W (sv i) (sd i)
 r:jl W W R al
 rf:∀f,f∈[g]->al≠[]->R.ownBlock≠some f
 rn:Nar G R al
structure NA(b:Bool)(G:Nat->Prop)(W:World)(g:Nat)(m:NM):Prop where
 ex:∃V D R sv,Blk W g (ndW (ndH m V D b) m.ty m.t.lm m.ck sv m.so.a m.so.g R m.an m.ar) 136/\NV G W g m.t.ns m.da m.so.d m.al V D R sv
 tyo:m.ty.m<256
 cko:m.ck.length<=4
 soo:m.so.ok
 al8:m.al.length<=8
 n16:∀i,i<8->m.an i<16
 r16:∀i,i<8->m.ar i<16
section
variable {b:Bool}{G G':Nat->Prop}{W W':World}{g:Nat}{m:NM}{V D R:Value}{sv:Nat->Value}
theorem jh.mI{l:List Tb.D}(h:jh W W V l)(hF:l≠[]->V.ownBlock≠some g)(k:Kp [g] W W'):jh W' W' V l:=⟨by
 obtain⟨A,c,rfl,h1,h2,h3,h4⟩:=h.at_;refine⟨A,c,rfl,h1,h2,λh0=>?_,h4⟩;obtain⟨b,off,rfl,hb,hc⟩:=h3 h0;have hn:b∉[g]:=λhm=>hF (aX.1 h0) (by rw[bD]at hm;rw[hm];rfl);exact⟨b,off,rfl,aN hb k.size,λj hj=>(hc j hj).keep λo=>by simp only[World.cell?,k.block b hb hn]⟩⟩
theorem NV.keep(h:NV G W g m.t.ns m.da m.so.d m.al V D R sv)(k:Kp [g] W W'):NV G W' g m.t.ns m.da m.so.d m.al V D R sv:=
 ⟨h.t.mI h.tf k,h.tf,h.tn,h.d.keep k,λi hi=>(h.s i hi).keep k,h.r.mI h.rf k,h.rf,h.rn⟩
theorem NA.lt(h:NA b G W g m):g<W.heap.size:=by
 obtain⟨V,D,R,sv,hB,-⟩:=h.ex;exact hB.lt
theorem NA.keep(h:NA b G W g m)(k:Kp [g] W W')(e:W'.heap[g]?=W.heap[g]?):NA b G W' g m:=by
 obtain⟨V,D,R,sv,hB,hV⟩:=h.ex;exact⟨⟨V,D,R,sv,e.trans hB,hV.keep k⟩,h.tyo,h.cko,h.soo,h.al8,h.n16,h.r16⟩
theorem NA.below(h:NA b G W g m)(k:Below W W W'):NA b G W' g m:=h.keep (ku k) (k.block g h.lt)
theorem NA.drew(h:NA b G W g m):NA b G W.drew g m:=h.below (ah _ W).drew
theorem NA.drewN(h:NA b G W g m)(n:Nat):NA b G (W.drewN n) g m:=h.below (aC (ah _ W) n)
theorem NA.alloc(h:NA b G W g m)(o:Obj):NA b G (W.alloc o) g m:=h.below ((ah _ W).alloc lr o)
theorem NA.mono(h:NA b G W g m)(hG:∀x,G x->G' x):NA b G' W g m:=by
 obtain⟨V,D,R,sv,hB,hV⟩:=h.ex;have hn:∀{α:Type}{v:Value}{l:List α},Nar G v l->Nar G' v l:=λh h0 x hx=>hG x (h h0 x hx);exact⟨⟨V,D,R,sv,hB,⟨hV.t,hV.tf,hn hV.tn,⟨hV.d.1,hn hV.d.2⟩,λi hi=>⟨(hV.s i hi).1,hn (hV.s i hi).2⟩,hV.r,hV.rf,hn hV.rn⟩⟩,h.tyo,h.cko,h.soo,h.al8,h.n16,h.r16⟩
theorem NA.frozen(h:NA b G W g m)(o:Nat):W.frozen? (g,o)=false:=by
 obtain⟨V,D,R,sv,hB,-⟩:=h.ex;exact hB.frozen _
theorem KX(V D:Value)(b:Bool)(m:NM):(ndH m V D b++tyc m.ty).size=20:=by simp only[gL];rfl
theorem KY(V D:Value)(b:Bool)(m:NM):(ndH m V D b++tyc m.ty++clk m.t.lm m.ck).size=26:=by simp only[gL];rfl
theorem KZ(V D:Value)(b:Bool)(m:NM)(sv:Nat->Value):(ndH m V D b++tyc m.ty++clk m.t.lm m.ck++stc sv m.so.a m.so.g).size=50:=by simp only[gL];rfl
theorem NA.tp(h:NA b G W g m):∃c,TPt c W g m.ty/\∀W' ty,TPt c W' g ty->Only g W W'->NA b G W' g {m with ty:=ty}:=by
 obtain⟨V,D,R,sv,hB,hV⟩:=h.ex;have e:∀T,ndW (ndH m V D b) T m.t.lm m.ck sv m.so.a m.so.g R m.an m.ar=ndH m V D b++tyc T++(clk m.t.lm m.ck++stc sv m.so.a m.so.g++alc R m.an m.ar):=λT=>by simp only[ndW,gH]
 exact⟨⟨ndH m V D b,clk m.t.lm m.ck++stc sv m.so.a m.so.g++alc R m.an m.ar,136,rfl⟩,⟨hB.eq (e _),h.tyo⟩,λW' ty hT hO=>⟨⟨V,D,R,sv,Blk.eq hT.1 (e _).symm,hV.keep (hO.kp (by simp))⟩,hT.2,h.cko,h.soo,h.al8,h.n16,h.r16⟩⟩
theorem NA.kp(h:NA b G W g m):∃c,KPt c W g m.t.lm m.ck/\∀W' l,KPt c W' g m.t.lm l->Only g W W'->NA b G W' g {m with ck:=l}:=by
 obtain⟨V,D,R,sv,hB,hV⟩:=h.ex;have e:∀l,ndW (ndH m V D b) m.ty m.t.lm l sv m.so.a m.so.g R m.an m.ar=(ndH m V D b++tyc m.ty)++clk m.t.lm l++(stc sv m.so.a m.so.g++alc R m.an m.ar):=λl=>by simp only[ndW,gH]
 exact⟨⟨ndH m V D b++tyc m.ty,stc sv m.so.a m.so.g++alc R m.an m.ar,136,KX V D b m⟩,⟨hB.eq (e _),h.cko⟩,λW' l hT hO=>⟨⟨V,D,R,sv,Blk.eq hT.1 (e _).symm,hV.keep (hO.kp (by simp))⟩,h.tyo,hT.2,h.soo,h.al8,h.n16,h.r16⟩⟩
theorem NA.sp(h:NA b G W g m):∃c,SPt c G [g] W g m.so/\∀W' s,SPt c G [g] W' g s->Only g W W'->NA b G W' g {m with so:=s}:=by
 obtain⟨V,D,R,sv,hB,hV⟩:=h.ex;have e:∀sv a q,ndW (ndH m V D b) m.ty m.t.lm m.ck sv a q R m.an m.ar=(ndH m V D b++tyc m.ty++clk m.t.lm m.ck)++stc sv a q++alc R m.an m.ar:=λsv a q=>by simp only[ndW,gH]
 refine⟨⟨ndH m V D b++tyc m.ty++clk m.t.lm m.ck,alc R m.an m.ar,136,KY V D b m⟩,⟨⟨sv,hB.eq (e _ _ _),hV.s⟩,h.soo⟩,λW' s hT hO=>?_⟩;obtain⟨⟨sv',hB',hs'⟩,hk⟩:=hT;have hV':=hV.keep (hO.kp (by simp));exact⟨⟨V,D,R,sv',Blk.eq hB' (e _ _ _).symm,⟨hV'.t,hV'.tf,hV'.tn,hV'.d,hs',hV'.r,hV'.rf,hV'.rn⟩⟩,h.tyo,h.cko,hk,h.al8,h.n16,h.r16⟩
theorem NA.ap(h:NA b G W g m):∃c c' V,APt c V [g] W g m.al m.an m.ar/\SPt c' G [g] W g m.so/\∀W' n r,APt c V [g] W' g m.al n r->Only g W W'->NA b G W' g {m with an:=n,ar:=r}:=by
 obtain⟨c',hS,-⟩:=h.sp;obtain⟨V,D,R,sv,hB,hV⟩:=h.ex;have e:∀n r,ndW (ndH m V D b) m.ty m.t.lm m.ck sv m.so.a m.so.g R n r=(ndH m V D b++tyc m.ty++clk m.t.lm m.ck++stc sv m.so.a m.so.g)++alc R n r++#[]:=λn r=>by simp only[ndW,gH,Array.append_empty]
 refine⟨⟨ndH m V D b++tyc m.ty++clk m.t.lm m.ck++stc sv m.so.a m.so.g,#[],136,KZ V D b m sv⟩,c',R,⟨⟨hB.eq (e _ _),hV.r,hV.rf⟩,h.al8,h.n16,h.r16⟩,hS,λW' n r hT hO=>?_⟩;exact⟨⟨V,D,R,sv,Blk.eq hT.ex.1 (e _ _).symm,hV.keep (hO.kp (by simp))⟩,h.tyo,h.cko,h.soo,h.al8,hT.n16,hT.r16⟩
def cxH(m:NM)(sv:Nat->Value)(R:Value):Cx 0:=⟨#[],tyc m.ty++clk m.t.lm m.ck++stc sv m.so.a m.so.g++alc R m.an m.ar,136,rfl⟩
theorem wu(H:Array Value)(m:NM)(sv:Nat->Value)(R:Value):ndW H m.ty m.t.lm m.ck sv m.so.a m.so.g R m.an m.ar=#[]++H++(tyc m.ty++clk m.t.lm m.ck++stc sv m.so.a m.so.g++alc R m.an m.ar):=by simp only[ndW,gH,Array.empty_append]
theorem NA.hd(h:NA b G W g m):∃V D R sv,PB (cxH m sv R) W g (ndH m V D b)/\NV G W g m.t.ns m.da m.so.d m.al V D R sv:=by
 obtain⟨V,D,R,sv,hB,hV⟩:=h.ex;exact⟨V,D,R,sv,hB.eq (wu _ _ _ _),hV⟩
theorem NA.cell(h:NA b G W g m)(k:Nat)(x:Value)(hk:0<k/\k<16)(hx:(ndH m ↑false ↑false b)[k]?=some x):W.cell? (g,k)=some x:=by
 obtain⟨V,D,R,sv,hB,-⟩:=h.hd;have e:(ndH m V D b)[k]?=(ndH m ↑false ↑false b)[k]?:=by
  rcases(by omega:k=1\/k=2\/k=3\/k=4\/k=5\/k=6\/k=7\/k=8\/k=9\/k=10\/k=11\/k=12\/k=13\/k=14\/k=15)with rfl|rfl|rfl|rfl|rfl|rfl|rfl|rfl|rfl|rfl|rfl|rfl|rfl|rfl|rfl<;>rfl
 exact PBa (hB.cell k (e.trans hx)) (bU k)
theorem NA.c1(h:NA b G W g m):W.cell? (g,1)=some ↑m.t.dr:=h.cell 1 _ (by omega) rfl
theorem NA.c2(h:NA b G W g m):W.cell? (g,2)=some ↑m.t.wi:=h.cell 2 _ (by omega) rfl
theorem NA.c3(h:NA b G W g m):W.cell? (g,3)=some ↑m.t.lm:=h.cell 3 _ (by omega) rfl
theorem NA.c4(h:NA b G W g m):W.cell? (g,4)=some ↑m.me.sy:=h.cell 4 _ (by omega) rfl
theorem NA.c5(h:NA b G W g m):W.cell? (g,5)=some ↑m.me.inf:=h.cell 5 _ (by omega) rfl
theorem NA.c6(h:NA b G W g m):W.cell? (g,6)=some ↑m.me.li:=h.cell 6 _ (by omega) rfl
theorem NA.c7(h:NA b G W g m):W.cell? (g,7)=some ↑m.me.sz:=h.cell 7 _ (by omega) rfl
theorem NA.c8(h:NA b G W g m):W.cell? (g,8)=some ↑(m.i:Nat):=h.cell 8 _ (by omega) rfl
theorem NA.c9(h:NA b G W g m):W.cell? (g,9)=some ↑m.dr:=h.cell 9 _ (by omega) rfl
theorem NA.c10(h:NA b G W g m):W.cell? (g,10)=some ↑(m.st:Nat):=h.cell 10 _ (by omega) rfl
theorem NA.c11(h:NA b G W g m):W.cell? (g,11)=some ↑m.rd:=h.cell 11 _ (by omega) rfl
theorem NA.c12(h:NA b G W g m):W.cell? (g,12)=some ↑(m.sl:Nat):=h.cell 12 _ (by omega) rfl
theorem NA.c13(h:NA b G W g m):W.cell? (g,13)=some ↑(m.wt:Nat):=h.cell 13 _ (by omega) rfl
theorem NA.c14(h:NA b G W g m):W.cell? (g,14)=some ↑b:=h.cell 14 _ (by omega) rfl
theorem NA.c15(h:NA b G W g m):W.cell? (g,15)=some ↑m.tm:=h.cell 15 _ (by omega) rfl
theorem NA.cV(h:NA b G W g m):∃A c,W.cell? (g,0)=some (.slice A m.t.ns.length c)/\jh W W (.slice A m.t.ns.length c) m.t.ns:=by
 obtain⟨V,D,R,sv,hB,hV⟩:=h.hd;obtain⟨A,c,rfl,-⟩:=hV.t.at_;exact⟨A,c,PBa (hB.cell 0 rfl) rfl,hV.t⟩
theorem NA.cD(h:NA b G W g m):∃A c,W.cell? (g,16)=some (.slice A m.da.length c)/\Dat [g] W (.slice A m.da.length c) m.da:=by
 obtain⟨V,D,R,sv,hB,hV⟩:=h.hd;obtain⟨A,c,rfl,-⟩:=hV.d.1.1.at_;exact⟨A,c,PBa (hB.cell 16 rfl) rfl,hV.d.1⟩
theorem NA.j5(h:NA b G W g m)(k:Nat)(x:Value)(b':Bool)(m':NM)(hk:k<17)(e:∀V D,(ndH m V D b).setIfInBounds k x=ndH m' V D b')(e1:m'.t.lm=m.t.lm)(e2:m'.ty=m.ty)(e3:m'.ck=m.ck)(e4:m'.so=m.so)(e5:m'.al=m.al)(e6:m'.an=m.an)(e7:m'.ar=m.ar)(e8:m'.da=m.da)(e9:m'.t.ns=m.t.ns):NA b' G (W.setCell (g,k) x) g m':=by
 obtain⟨V,D,R,sv,hB,hV⟩:=h.hd;have hB':=PBs (hB.set k (by simpa[ndH]using hk) x) (bU k) (e V D);have hV':=hV.keep (((aE g W).set k x).kp (F:=[g]) (by simp));refine⟨⟨V,D,R,sv,Blk.eq hB' ?_,?_⟩,e2▸h.tyo,e3▸h.cko,e4▸h.soo,e5▸h.al8,e6▸h.n16,e7▸h.r16⟩
 ·rw[e1,e2,e3,e4,e6,e7]
  exact(wu _ _ _ _).symm
 ·exact⟨e9▸hV'.t,e9▸hV'.tf,e9▸hV'.tn,e8▸hV'.d,e4▸hV'.s,e5▸hV'.r,e5▸hV'.rf,e5▸hV'.rn⟩
theorem NA.sSt(h:NA b G W g m)(k:Nat):NA b G (W.setCell (g,10) ↑(k:Nat)) g {m with st:=k}:=h.j5 10 _ b _ (by omega) (λ_ _=>rfl) rfl rfl rfl rfl rfl rfl rfl rfl rfl
theorem NA.sRd(h:NA b G W g m)(k:Int):NA b G (W.setCell (g,11) ↑k) g {m with rd:=k}:=h.j5 11 _ b _ (by omega) (λ_ _=>rfl) rfl rfl rfl rfl rfl rfl rfl rfl rfl
theorem NA.sSl(h:NA b G W g m)(k:Nat):NA b G (W.setCell (g,12) ↑(k:Nat)) g {m with sl:=k}:=h.j5 12 _ b _ (by omega) (λ_ _=>rfl) rfl rfl rfl rfl rfl rfl rfl rfl rfl
theorem NA.sWt(h:NA b G W g m)(k:Nat):NA b G (W.setCell (g,13) ↑(k:Nat)) g {m with wt:=k}:=h.j5 13 _ b _ (by omega) (λ_ _=>rfl) rfl rfl rfl rfl rfl rfl rfl rfl rfl
theorem NA.sSe(h:NA b G W g m)(k:Bool):NA k G (W.setCell (g,14) ↑k) g m:=h.j5 14 _ k _ (by omega) (λ_ _=>rfl) rfl rfl rfl rfl rfl rfl rfl rfl rfl
theorem NA.sTm(h:NA b G W g m)(k:Int):NA b G (W.setCell (g,15) ↑k) g {m with tm:=k}:=h.j5 15 _ b _ (by omega) (λ_ _=>rfl) rfl rfl rfl rfl rfl rfl rfl rfl rfl
theorem NA.sDa(h:NA b G W g m){v:Value}{l:List Int}(hv:jr G [g] W v l):NA b G (W.setCell (g,16) v) g {m with da:=l}:=by
 obtain⟨V,D,R,sv,hB,hV⟩:=h.hd;have k:Kp [g] W (W.setCell (g,16) v):=((aE g W).set 16 v).kp (by simp);have hB':=PBs (hB.set 16 (by simp[ndH]) v) rfl (show(ndH m V D b).setIfInBounds 16 v=ndH {m with da:=l} V v b from rfl);have hV':=hV.keep k;exact⟨⟨V,v,R,sv,Blk.eq hB' (wu _ m _ _).symm,⟨hV'.t,hV'.tf,hV'.tn,hv.keep k,hV'.s,hV'.r,hV'.rf,hV'.rn⟩⟩,h.tyo,h.cko,h.soo,h.al8,h.n16,h.r16⟩
theorem NA.sTy(h:NA b G W g m)(T:TS)(hT:T.m<256):NA b G (((W.setCell (g,17) ↑(T.m:Nat)).setCell (g,18) ↑(T.a:Nat)).setCell (g,19) ↑(T.f:Nat)) g {m with ty:=T}:=by
 obtain⟨c,h1,h2⟩:=h.tp;exact h2 _ T (((h1.m_ T.m hT).a_ T.a).f_ T.f) ((((aE g W).set 17 _).set 18 _).set 19 _)
theorem NA.list(h:NA b G W g m)(hg:G g):∃F:List Nat,NA b (λx=>x∈F) W g m/\(∀f,f∈F->G f/\f<W.heap.size)/\g∈F:=by
 obtain⟨V,D,R,sv,hB,hV⟩:=h.ex
 classical
 let B:{α:Type}->Value->List α->List Nat:=λv l=>if l=[]then []else v.ownBlock.toList
 have hN:∀{α:Type}{v:Value}{l:List α}{F:List Nat},(∀x,x∈B v l->x∈F)->Nar (λx=>x∈F) v l:=λ{α v l F}hF h0 x hx=>hF x (by simp only[B,ai h0,hx];simp);have hG:∀{α:Type}{v:Value}{l:List α},Nar G v l->∀x,x∈B v l->G x:=λ{α v l}h x hx=>by
  by_cases h0:l=[]
  ·simp only[B,au h0]at hx;cases hx
  ·simp only[B,ai h0,dO]at hx;exact h h0 x hx
 have hL:∀{v:Value}{l:List Int},iI W W v l->∀x,x∈B v l->x<W.heap.size:=λ{v l}h x hx=>by
  by_cases h0:l=[]
  ·simp only[B,au h0]at hx;cases hx
  ·simp only[B,ai h0,dO]at hx
   obtain⟨A,c,rfl,-,-,h3,-⟩:=h.at_;obtain⟨b,off,rfl,hb,-⟩:=h3 (aX.2 h0);simp only[Value.ownBlock,bB]at hx;omega
 have hLT:∀x,x∈B V m.t.ns->x<W.heap.size:=λx hx=>by
  by_cases h0:m.t.ns=[]
  ·simp only[B,au h0]at hx;cases hx
  ·simp only[B,ai h0,dO]at hx
   obtain⟨A,c,rfl,-,-,h3,-⟩:=hV.t.at_;obtain⟨b,off,rfl,hb,-⟩:=h3 (aX.2 h0);simp only[Value.ownBlock,bB]at hx;omega
 have hLR:∀x,x∈B R m.al->x<W.heap.size:=λx hx=>by
  by_cases h0:m.al=[]
  ·simp only[B,au h0]at hx;cases hx
  ·simp only[B,ai h0,dO]at hx
   obtain⟨A,c,rfl,-,-,h3,-⟩:=hV.r.at_;obtain⟨b,off,rfl,hb,-⟩:=h3 (aX.2 h0);simp only[Value.ownBlock,bB]at hx;omega
 refine⟨g::(B V m.t.ns++(B D m.da++(B R m.al++(List.range 8).flatMap λi=>B (sv i) (m.so.d i)))),⟨⟨V,D,R,sv,hB,⟨hV.t,hV.tf,hN ?_,⟨hV.d.1,hN ?_⟩,λi hi=>⟨(hV.s i hi).1,hN ?_⟩,hV.r,hV.rf,hN ?_⟩⟩,h.tyo,h.cko,h.soo,h.al8,h.n16,h.r16⟩,λf hf=>?_,List.mem_cons_self⟩
 ·intro x hx;simp[hx]
 ·intro x hx;simp[hx]
 ·intro x hx
  refine aT _ (List.mem_append_right _ (List.mem_append_right _ (List.mem_append_right _ (fY.2 ⟨i,cA.2 hi,hx⟩))))
 ·intro x hx;simp[hx]
 ·rcases bq.1 hf with rfl|hf
  ·exact⟨hg,hB.lt⟩
  rcases bG.1 hf with hf|hf
  ·exact⟨hG hV.tn f hf,hLT f hf⟩
  rcases bG.1 hf with hf|hf
  ·exact⟨hG hV.d.2 f hf,hL hV.d.1.1 f hf⟩
  rcases bG.1 hf with hf|hf
  ·exact⟨hG hV.rn f hf,hLR f hf⟩
  ·obtain⟨i,hi,hf⟩:=fY.1 hf
   have hi:=cA.1 hi;exact⟨hG (hV.s i hi).2 f hf,hL (hV.s i hi).1.1 f hf⟩
end
end
end Go.Proofs.YteadkhigkmijiaaGreat
