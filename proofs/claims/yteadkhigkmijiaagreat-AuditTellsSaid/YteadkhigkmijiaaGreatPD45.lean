/- Texts RaT in one. -/
import Derived.Deep.CutRange
import Derived.Test.YteadkhigkmijiaaGreatPD1
import Derived.Test.YteadkhigkmijiaaGreatPD8
import Derived.Test.YteadkhigkmijiaaGreatPD13
import Derived.Test.YteadkhigkmijiaaGreatPD34
import Derived.Test.YteadkhigkmijiaaGreatPD44
set_option linter.all false
namespace Go.Proofs.YteadkhigkmijiaaGreat
section
set_option maxRecDepth 100000
set_option maxHeartbeats 4000000
open Go.RowKit
open Fr (St F)
def jZ(a:Int)(v:Value):Value:=if a=2 then v else .slice none 0 0
def uo(a:Int)(l:List Int):List Int:=if a=2 then l else []
theorem uq{a:Int}{v:Value}{l:List Int}{W:World}(h:iI W W v l):iI W W (jZ a v) (uo a l):=by
 unfold jZ uo
 split
 ·exact h
 ·exact gR
theorem uz{a:Int}{l:List Int}(h:iK l):iK (uo a l):=by
 unfold uo
 split
 ·exact h
 ·exactλx hx=>by simp at hx
theorem Ed(b:Bool)(G:GS)(g:Nat)(m:NM)(xx:RX)(h:Hn)(vx vy:Value)(W:World)(hh:HOk W h vx vy)(hm:RA b G W g m xx):
  Calls Tryz.prog 180 #[↑(g,0),jZ h.a vx,jZ h.b vy] W (Fst W NM.z3 (λf=>decide (m.lP f)) h):=
 (NQ b G g m xx _ _ _ _ W (uq hh.x) (uz hh.bx) (uq hh.y) (uz hh.by_) hm).mono λ_ _ h=>DX h
theorem OE(b:Bool)(G:GS)(g:Nat)(m:NM)(xx:RX)(h:Hn)(vx vy:Value)(W:World)(hh:HOk W h vx vy)(hm:RA b G W g m xx)(hn:m.kY h=none):
  Calls Tryz.prog 180 #[↑(g,0),jZ h.a vx,jZ h.b vy] W λe w'=>e=.returned (.tuple #[.agg #[↑(0:Int),↑(0:Int),↑(0:Int),↑(0:Int),.slice none 0 0],↑false])/\Below W W w':=
 (Ed b G g m xx h vx vy W hh hm).mono λe w' hF=>by
  unfold Fst at hF;rw[tK,hn]at hF;exact hF
theorem OG(b:Bool)(G:GS)(g:Nat)(m:NM)(xx:RX)(h:Hn)(vx vy:Value)(l:List Int)(W:World)(hh:HOk W h vx vy)(hm:RA b G W g m xx)(hn:m.kY h=some l):
  Calls Tryz.prog 180 #[↑(g,0),jZ h.a vx,jZ h.b vy] W λe w'=>∃v,e=.returned (.tuple #[frV (Fr.res l NM.z3) v,↑true])/\iJ w' W v (Fr.res l NM.z3).d/\Below W W w':=
 (Ed b G g m xx h vx vy W hh hm).mono λe w' hF=>by
  unfold Fst at hF;rw[tK,hn]at hF;exact hF
theorem HOk.below{W W':World}{h:Hn}{vx vy:Value}(hh:HOk W h vx vy)(b:Below W W W'):HOk W' h vx vy:=⟨(hh.x.below b).more b.size,hh.bx,(hh.y.below b).more b.size,hh.by_,hh.o⟩
theorem rF(a:Int)(v:Value)(w:World):Calls Tryz.prog 127 #[↑a,v] w λe w'=>e=.returned (jZ a v)/\w'=w:=NN a v w
theorem NT(b:Bool)(G:GS)(g:Nat)(m:NM)(x:RX)(h:Hn)(vx vy:Value)(w:World)(hm:RA b G w g m x)(hh:HOk w h vx vy)(hn:m.kY h=none):
  Calls Tryz.prog 123 #[↑(g,0),hdV h vx vy] w λe w'=>e=.returned (.tuple #[])/\RS b G w' g (if h.a≠0\/h.b≠0 then {m with wt:=0}else m)/\KG G w w':=by
 have hb0:=(ah w w).alloc lr (.cells (aH h vx vy) 153);have hX0:=aJ w w rfl (aH h vx vy) 153;have hm0:=hm.below hb0;have HT:=λa v W=>af (rF a v W);have HF:=λW(hW:Below w w W)=>af (OE b G g m x h vx vy W (hh.below hW) (hm.below hW) hn);obtain⟨ux,hux⟩:∃ux,jZ h.a vx=ux:=⟨_,rfl⟩;obtain⟨uy,huy⟩:∃uy,jZ h.b vy=uy:=⟨_,rfl⟩;have HTx:∀W,Hid (Calls Tryz.prog 127 #[↑h.a,vx] W λe w'=>e=.returned ux/\w'=W):=λW=>hux▸HT h.a vx W;have HTy:∀W,Hid (Calls Tryz.prog 127 #[↑h.b,vy] W λe w'=>e=.returned uy/\w'=W):=λW=>huy▸HT h.b vy W;rw[hux,huy]at HF;clear hux huy HT;obtain⟨Ax,cx,rfl,-⟩:=hh.x.at_;obtain⟨Ay,cy,rfl,-⟩:=hh.y.at_;have hk:=af (λW(hW:Below w w W)=>hm.below hW);clear hh hn;obtain⟨mq,hmq⟩:∃mq,(if h.a≠0\/h.b≠0 then({m with wt:=0}:NM)else m)=mq:=⟨_,rfl⟩;rw[hmq];have HQ:=af hmq;clear hmq;unfold hdV
 go_enter Tryz.func123,Tryz.ntmps123
 go_wp2_with fail;clear hm hm0;generalize w.alloc (.cells (aH h (.slice Ax h.x.length cx) (.slice Ay h.y.length cy)) 153)=w0 at *;have b0:=hb0;have HS:∀W,Below w0 w0 W->(W.cell? (w,0)=some ↑h.a/\W.cell? (w,1)=some ↑h.b/\W.cell? (w,2)=some (.slice Ax h.x.length cx)/\W.cell? (w,3)=some (.slice Ay h.y.length cy)):=λW hW=>by
  have h':=hX0.below hW hX0.lt;exact⟨h'.cell 0 rfl,h'.cell 1 rfl,h'.cell 2 rfl,h'.cell 3 rfl⟩
 have br:=(ah w0 w0).drew;have S0:=af (HS _ br);have HH:=af HS;clear HS
 go_cut [5]from 7 to 21 (λs5 wx=>s5=↑false/\Below w0 w0 wx)
 case first=>
  refine cW (S:=λW=>W.cell? (w,0)=some ↑h.a/\W.cell? (w,1)=some ↑h.b/\W.cell? (w,2)=some (.slice Ax h.x.length cx)/\W.cell? (w,3)=some (.slice Ay h.y.length cy)) (by kernel_rfl) S0.o (λhHeld=>?_);refine wT 0 8 ?_;refine wT 1 9 ?_;refine wT 2 10 ?_;refine wT 3 11 ?_;refine wT 4 12 ?_;refine wT 6 14 ?_;refine wT 7 15 ?_;refine wT 8 16 ?_;refine wT 9 17 ?_;refine aM (rs:=[5,15]) (by kernel_rfl) (by simp) ?_;refine(aA rfl (λK hK=>?_) (aA rfl (λK hK=>?_) aG))
  ·skip
   go_simp;refine(HTx _).o.mono ?_;rintro _ _ ⟨rfl,rfl⟩;refine hK.o _ _ (HH.o _ br) (λhHeld=>?_);clear hK K
   try simp only[qq]
   refine aM (rs:=[10,15]) (by kernel_rfl) (by simp) ?_;refine(aA rfl (λK hK=>?_) (aA rfl (λK hK=>?_) aG))
   ·skip
    go_simp;refine(HTy _).o.mono ?_;rintro _ _ ⟨rfl,rfl⟩;refine hK.o _ _ (HH.o _ br) (λhHeld=>?_);clear hK K
    try simp only[qq]
    refine aM (rs:=[11,15]) (by kernel_rfl) (by simp) ?_;refine(aA rfl (λK hK=>?_) (aA rfl (λK hK=>?_) aG))
    ·skip
     go_simp;refine(HF _ (b0.trans (br.mono b0.size))).o.mono ?_;rintro _ w13 ⟨rfl,d13⟩;have b13:=br.trans (d13.mono br.size);refine hK.o _ _ (HH.o _ b13) (λhHeld=>?_);clear hK K
     try simp only[qq]
     refine wT 12 7 ?_;refine wT 13 20 ?_;refine wT 14 21 ?_;refine aM (rs:=[15]) (by kernel_rfl) (by simp) ?_;refine(aA rfl (λK hK=>?_) aG);go_simp;have b14:=b13.alloc b13.size (.cells zF 182);have X14:=aJ w13 (w13).heap.size rfl zF 182;refine hK.o _ _ (HH.o _ b14) (λhHeld=>?_);clear hK K
     try simp only[qq]
     refine aM (rs:=[16]) (by kernel_rfl) (by simp) ?_;refine(aA rfl (λK hK=>?_) aG);have y0:=X14.cell 0 (x:=↑(0:Int)) rfl;have z0:=X14.frozen 0;have y1:=X14.cell 1 (x:=↑(0:Int)) rfl;have z1:=X14.frozen 1;have y2:=X14.cell 2 (x:=↑(0:Int)) rfl;have z2:=X14.frozen 2;have y3:=X14.cell 3 (x:=↑(0:Int)) rfl;have z3:=X14.frozen 3;have y4:=X14.cell 4 (x:=.slice none 0 0) rfl;have z4:=X14.frozen 4;go_simp;have XF:=aJ w13 (w13).heap.size rfl zF 182;have bF:=b13.alloc b13.size (.cells zF 182);have le:w0.heap.size<=(w13).heap.size:=b13.size;refine hK.o _ _ (HH.o _ bF) (λhHeld=>?_);clear y0 z0 y1 z1 y2 z2 y3 z3 y4 z4;clear hK K
     try simp only[qq]
     refine wT 17 5 ?_;refine bP (by kernel_rfl) ?_ _;go_wp2_with fail
     go_meet
     exact⟨rfl,bF⟩
    ·skip
     go_simp;have b16:=br.alloc br.size (.cells zF 182);have X16:=aJ w0.drew w0 rfl zF 182;refine hK.o _ _ (HH.o _ b16) (λhHeld=>?_);clear hK K
     try simp only[qq]
     refine aM (rs:=[11]) (by kernel_rfl) (by simp) ?_;refine(aA rfl (λK hK=>?_) aG);go_simp;refine(HF _ (b0.trans (b16.mono b0.size))).o.mono ?_;rintro _ w17 ⟨rfl,d17⟩;have b17:=b16.trans (d17.mono b16.size);have iV:=X16.below d17 X16.lt;refine hK.o _ _ (HH.o _ b17) (λhHeld=>?_);clear hK K
     try simp only[qq]
     refine wT 12 7 ?_;refine wT 13 20 ?_;refine wT 14 21 ?_;refine aM (rs:=[16]) (by kernel_rfl) (by simp) ?_;refine(aA rfl (λK hK=>?_) aG);have y0:=iV.cell 0 (x:=↑(0:Int)) rfl;have z0:=iV.frozen 0;have y1:=iV.cell 1 (x:=↑(0:Int)) rfl;have z1:=iV.frozen 1;have y2:=iV.cell 2 (x:=↑(0:Int)) rfl;have z2:=iV.frozen 2;have y3:=iV.cell 3 (x:=↑(0:Int)) rfl;have z3:=iV.frozen 3;have y4:=iV.cell 4 (x:=.slice none 0 0) rfl;have z4:=iV.frozen 4;go_simp;have le:w0.heap.size<=w0.heap.size:=br.size;have XF:Blk _ w0 zF 182:=(((((iV.set 0 ↑(0:Int)).set 1 ↑(0:Int)).set 2 ↑(0:Int)).set 3 ↑(0:Int)).set 4 (.slice none 0 0)).eq (by simp);have bF:=(((((b17.setCell (p:=(w0.heap.size,0)) le ↑(0:Int)).setCell (p:=(w0.heap.size,1)) le ↑(0:Int)).setCell (p:=(w0.heap.size,2)) le ↑(0:Int)).setCell (p:=(w0.heap.size,3)) le ↑(0:Int)).setCell (p:=(w0.heap.size,4)) le (.slice none 0 0));refine hK.o _ _ (HH.o _ bF) (λhHeld=>?_);clear y0 z0 y1 z1 y2 z2 y3 z3 y4 z4;clear hK K
     try simp only[qq]
     refine wT 17 5 ?_;refine bP (by kernel_rfl) ?_ _;go_wp2_with fail
     go_meet
     exact⟨rfl,bF⟩
   ·skip
    go_simp;have b19:=br.alloc br.size (.cells zF 182);have X19:=aJ w0.drew w0 rfl zF 182;refine hK.o _ _ (HH.o _ b19) (λhHeld=>?_);clear hK K
    try simp only[qq]
    refine aM (rs:=[10]) (by kernel_rfl) (by simp) ?_;refine(aA rfl (λK hK=>?_) aG);go_simp;refine(HTy _).o.mono ?_;rintro _ _ ⟨rfl,rfl⟩;refine hK.o _ _ (HH.o _ b19) (λhHeld=>?_);clear hK K
    try simp only[qq]
    refine aM (rs:=[11]) (by kernel_rfl) (by simp) ?_;refine(aA rfl (λK hK=>?_) aG);go_simp;refine(HF _ (b0.trans (b19.mono b0.size))).o.mono ?_;rintro _ w21 ⟨rfl,d21⟩;have b21:=b19.trans (d21.mono b19.size);have iW:=X19.below d21 X19.lt;refine hK.o _ _ (HH.o _ b21) (λhHeld=>?_);clear hK K
    try simp only[qq]
    refine wT 12 7 ?_;refine wT 13 20 ?_;refine wT 14 21 ?_;refine aM (rs:=[16]) (by kernel_rfl) (by simp) ?_;refine(aA rfl (λK hK=>?_) aG);have y0:=iW.cell 0 (x:=↑(0:Int)) rfl;have z0:=iW.frozen 0;have y1:=iW.cell 1 (x:=↑(0:Int)) rfl;have z1:=iW.frozen 1;have y2:=iW.cell 2 (x:=↑(0:Int)) rfl;have z2:=iW.frozen 2;have y3:=iW.cell 3 (x:=↑(0:Int)) rfl;have z3:=iW.frozen 3;have y4:=iW.cell 4 (x:=.slice none 0 0) rfl;have z4:=iW.frozen 4;go_simp;have le:w0.heap.size<=w0.heap.size:=br.size;have XF:Blk _ w0 zF 182:=(((((iW.set 0 ↑(0:Int)).set 1 ↑(0:Int)).set 2 ↑(0:Int)).set 3 ↑(0:Int)).set 4 (.slice none 0 0)).eq (by simp);have bF:=(((((b21.setCell (p:=(w0.heap.size,0)) le ↑(0:Int)).setCell (p:=(w0.heap.size,1)) le ↑(0:Int)).setCell (p:=(w0.heap.size,2)) le ↑(0:Int)).setCell (p:=(w0.heap.size,3)) le ↑(0:Int)).setCell (p:=(w0.heap.size,4)) le (.slice none 0 0));refine hK.o _ _ (HH.o _ bF) (λhHeld=>?_);clear y0 z0 y1 z1 y2 z2 y3 z3 y4 z4;clear hK K
    try simp only[qq]
    refine wT 17 5 ?_;refine bP (by kernel_rfl) ?_ _;go_wp2_with fail
    go_meet
    exact⟨rfl,bF⟩
  ·skip
   go_simp;have b23:=br.alloc br.size (.cells zF 182);have X23:=aJ w0.drew w0 rfl zF 182;refine hK.o _ _ (HH.o _ b23) (λhHeld=>?_);clear hK K
   try simp only[qq]
   refine aM (rs:=[5]) (by kernel_rfl) (by simp) ?_;refine(aA rfl (λK hK=>?_) aG);go_simp;refine(HTx _).o.mono ?_;rintro _ _ ⟨rfl,rfl⟩;refine hK.o _ _ (HH.o _ b23) (λhHeld=>?_);clear hK K
   try simp only[qq]
   refine aM (rs:=[10]) (by kernel_rfl) (by simp) ?_;refine(aA rfl (λK hK=>?_) aG);go_simp;refine(HTy _).o.mono ?_;rintro _ _ ⟨rfl,rfl⟩;refine hK.o _ _ (HH.o _ b23) (λhHeld=>?_);clear hK K
   try simp only[qq]
   refine aM (rs:=[11]) (by kernel_rfl) (by simp) ?_;refine(aA rfl (λK hK=>?_) aG);go_simp;refine(HF _ (b0.trans (b23.mono b0.size))).o.mono ?_;rintro _ w26 ⟨rfl,d26⟩;have b26:=b23.trans (d26.mono b23.size);have iX:=X23.below d26 X23.lt;refine hK.o _ _ (HH.o _ b26) (λhHeld=>?_);clear hK K
   try simp only[qq]
   refine wT 12 7 ?_;refine wT 13 20 ?_;refine wT 14 21 ?_;refine aM (rs:=[16]) (by kernel_rfl) (by simp) ?_;refine(aA rfl (λK hK=>?_) aG);have y0:=iX.cell 0 (x:=↑(0:Int)) rfl;have z0:=iX.frozen 0;have y1:=iX.cell 1 (x:=↑(0:Int)) rfl;have z1:=iX.frozen 1;have y2:=iX.cell 2 (x:=↑(0:Int)) rfl;have z2:=iX.frozen 2;have y3:=iX.cell 3 (x:=↑(0:Int)) rfl;have z3:=iX.frozen 3;have y4:=iX.cell 4 (x:=.slice none 0 0) rfl;have z4:=iX.frozen 4;go_simp;have le:w0.heap.size<=w0.heap.size:=br.size;have XF:Blk _ w0 zF 182:=(((((iX.set 0 ↑(0:Int)).set 1 ↑(0:Int)).set 2 ↑(0:Int)).set 3 ↑(0:Int)).set 4 (.slice none 0 0)).eq (by simp);have bF:=(((((b26.setCell (p:=(w0.heap.size,0)) le ↑(0:Int)).setCell (p:=(w0.heap.size,1)) le ↑(0:Int)).setCell (p:=(w0.heap.size,2)) le ↑(0:Int)).setCell (p:=(w0.heap.size,3)) le ↑(0:Int)).setCell (p:=(w0.heap.size,4)) le (.slice none 0 0));refine hK.o _ _ (HH.o _ bF) (λhHeld=>?_);clear y0 z0 y1 z1 y2 z2 y3 z3 y4 z4;clear hK K
   try simp only[qq]
   refine wT 17 5 ?_;refine bP (by kernel_rfl) ?_ _;go_wp2_with fail
   go_meet
   exact⟨rfl,bF⟩
 case rest=>
  obtain⟨rfl,bc⟩:=hcut;have hXc:=hX0.below bc hX0.lt;have x0:=hXc.cell 0 (x:=↑h.a) rfl;have x1:=hXc.cell 1 (x:=↑h.b) rfl;have bw:=b0.trans (bc.mono b0.size);have hmc:=hk.o _ bw;have c16:=hmc.c16;have f16:=hmc.frozen 16;have hg:=hmc.G_;have h16:=af (hmc.sWt 0);have hmc:=af hmc;have kc:=af (iZ (G:=G) bw);have k16:=af (kc.o.trans (((aE g wc).set 16 ↑(0:Nat)).kg hg));clear S0 HH HTx HTy HF hXc hk hX0 bw;by_cases qa:h.a=0
  ·by_cases qb:h.b=0
   ·have e:m=mq:=by rw[<-HQ.o,ai (by omega)]
    rw[qa]at x0;rw[qb]at x1;go_wp2;refine aK (v:=.tuple #[]) (ax (by rfl) _ _ _) rfl ⟨rfl,?_,kc.o⟩;rw[<-e];exact⟨x,hmc.o⟩
   ·have e:({m with wt:=0}:NM)=mq:=by rw[<-HQ.o,au (by omega)]
    rw[qa]at x0;have q:(h.b != 0)=true:=by rw[bV];exact qb
    have he:=af e;clear e;go_wp2;refine aK (v:=.tuple #[]) (ax (by rfl) _ _ _) rfl ⟨rfl,?_,k16.o⟩;rw[<-he.o];exact⟨x,h16.o⟩
  ·have e:({m with wt:=0}:NM)=mq:=by rw[<-HQ.o,au (by omega)]
   have q:(h.a != 0)=true:=by rw[bV];exact qa
   have he:=af e;clear e;go_wp2;refine aK (v:=.tuple #[]) (ax (by rfl) _ _ _) rfl ⟨rfl,?_,k16.o⟩;rw[<-he.o];exact⟨x,h16.o⟩
end
end Go.Proofs.YteadkhigkmijiaaGreat
