/- Texts RaW, RaX in one. -/
import Derived.Deep.CutRange
import Derived.StillTailTactics
import Derived.Test.YteadkhigkmijiaaGreatPD1
import Derived.Test.YteadkhigkmijiaaGreatPD8
import Derived.Test.YteadkhigkmijiaaGreatPD13
import Derived.Test.YteadkhigkmijiaaGreatPD46
set_option linter.all false
namespace Go.Proofs.YteadkhigkmijiaaGreat
section
set_option maxRecDepth 100000
set_option maxHeartbeats 8000000
open Go.RowKit
open Fr (St F)
theorem D5(b:Bool)(G:GS)(g:Nat)(m:NM)(x:RX)(h:Hn)(vx vy:Value)(w:World)(hm:RA b G w g m x)(hG:GN G w)(hh:HOk w h vx vy)(hst:m.st=2\/m.st=3\/m.st=4)(hs:m.sl≠m.i)(hsl:m.sl<m.t.ns.length/\m.t.ns.length<=8)(hta:m.ty.a<1000/\m.ty.f<1000)(hn:m.lg h=none){ty2:TS}(hq:(h.a=0/\h.b=0)/\m.ty.miss (m.sl:Nat)=ty2\/¬(h.a=0/\h.b=0)/\m.ty.wrong (m.sl:Nat)=ty2)(hN:NG (m.took ty2 m.so m.ck)):Tke G g ((m.took ty2 m.so m.ck):NM).goOn h vx vy w:=by
 unfold Tke;have hb0:=(ah w w).alloc lr (.cells (aH h vx vy) 153);have hX0:=aJ w w rfl (aH h vx vy) 153;have hm0:=hm.below hb0;have HT:=λa v W=>af (rF a v W);have HF:=λW(hW:Below w w W)=>af (OJ b G g m x h vx vy (by omega) W (hh.below hW) (hm.below hW) hn);obtain⟨ux,hux⟩:∃ux,jZ h.a vx=ux:=⟨_,rfl⟩;obtain⟨uy,huy⟩:∃uy,jZ h.b vy=uy:=⟨_,rfl⟩;have HTx:∀W,Hid (Calls Tryz.prog 127 #[↑h.a,vx] W λe w'=>e=.returned ux/\w'=W):=λW=>hux▸HT h.a vx W;have HTy:∀W,Hid (Calls Tryz.prog 127 #[↑h.b,vy] W λe w'=>e=.returned uy/\w'=W):=λW=>huy▸HT h.b vy W;rw[hux,huy]at HF;clear hux huy HT;obtain⟨Ax,cx,rfl,-⟩:=hh.x.at_;obtain⟨Ay,cy,rfl,-⟩:=hh.y.at_;have hk:=af (λW(hW:Below w w W)=>hm.past hW);have hqH:=af hq;clear hq;have c6:=hm0.c6;have c8:=hm0.c8;have c4:=hm0.c4;have q:(((m.sl:Nat):Int)==((m.i:Nat):Int))=false:=by rw[aB];omega
 have ho:=hh.o;have hN:=af hN;have Ej:m.sl<8:=by omega
 clear hh hn hs;obtain⟨zi,hzi⟩:∃z:Int,((m.i:Nat):Int)=z:=⟨_,rfl⟩;rw[hzi]at c4 q;clear hzi;unfold hdV;obtain⟨zs,hzs⟩:∃z:Int,((m.st:Nat):Int)=z:=⟨_,rfl⟩;rw[hzs]at c6;have z0:(zs==0)=false:=by rw[aB];omega
 have z5:(zs==5)=false:=by rw[aB];omega
 have z1:(zs==1)=false:=by rw[aB];omega
 clear hzs hst
 go_enter Tryz.func76,Tryz.ntmps76
 go_wp2_with fail;clear hm hm0 c6 c8 c4;generalize w.alloc (.cells (aH h (.slice Ax h.x.length cx) (.slice Ay h.y.length cy)) 153)=w0 at *;have b0:=hb0;have HS:∀W,Below w0 w0 W->(W.cell? (w,0)=some ↑h.a/\W.cell? (w,1)=some ↑h.b/\W.cell? (w,2)=some (.slice Ax h.x.length cx)/\W.cell? (w,3)=some (.slice Ay h.y.length cy)):=λW hW=>by
  have h':=hX0.below hW hX0.lt;exact⟨h'.cell 0 rfl,h'.cell 1 rfl,h'.cell 2 rfl,h'.cell 3 rfl⟩
 have br:=(ah w0 w0).drew;have S0:=af (HS _ br);have HH:=af HS;clear HS
 go_cut [6]from 50 to 64 (λs6 wx=>s6=↑false/\Below w0 w0 wx)
 case first=>
  refine cW (S:=λW=>W.cell? (w,0)=some ↑h.a/\W.cell? (w,1)=some ↑h.b/\W.cell? (w,2)=some (.slice Ax h.x.length cx)/\W.cell? (w,3)=some (.slice Ay h.y.length cy)) (by kernel_rfl) S0.o (λhHeld=>?_);refine wT 0 51 ?_;refine wT 1 52 ?_;refine wT 2 53 ?_;refine wT 3 54 ?_;refine wT 4 55 ?_;refine wT 6 57 ?_;refine wT 7 58 ?_;refine wT 8 59 ?_;refine wT 9 60 ?_;refine aM (rs:=[5,15]) (by kernel_rfl) (by simp) ?_;refine(aA rfl (λK hK=>?_) (aA rfl (λK hK=>?_) aG))
  ·skip
   go_simp;refine(HTx _).o.mono ?_;rintro _ _ ⟨rfl,rfl⟩;refine hK.o _ _ (HH.o _ br) (λhHeld=>?_);clear hK K
   try simp only[qq]
   refine aM (rs:=[10,15]) (by kernel_rfl) (by simp) ?_;refine(aA rfl (λK hK=>?_) (aA rfl (λK hK=>?_) aG))
   ·skip
    go_simp;refine(HTy _).o.mono ?_;rintro _ _ ⟨rfl,rfl⟩;refine hK.o _ _ (HH.o _ br) (λhHeld=>?_);clear hK K
    try simp only[qq]
    refine aM (rs:=[11,15]) (by kernel_rfl) (by simp) ?_;refine(aA rfl (λK hK=>?_) (aA rfl (λK hK=>?_) aG))
    ·skip
     go_simp;refine(HF _ (b0.trans (br.mono b0.size))).o.mono ?_;rintro _ w13 ⟨rfl,d13⟩;have b13:=br.trans (d13.mono br.size);refine hK.o _ _ (HH.o _ b13) (λhHeld=>?_);clear hK K
     try simp only[qq]
     refine wT 12 50 ?_;refine wT 13 63 ?_;refine wT 14 64 ?_;refine aM (rs:=[15]) (by kernel_rfl) (by simp) ?_;refine(aA rfl (λK hK=>?_) aG);go_simp;have b14:=b13.alloc b13.size (.cells zF 182);have X14:=aJ w13 (w13).heap.size rfl zF 182;refine hK.o _ _ (HH.o _ b14) (λhHeld=>?_);clear hK K
     try simp only[qq]
     refine aM (rs:=[16]) (by kernel_rfl) (by simp) ?_;refine(aA rfl (λK hK=>?_) aG);have y0:=X14.cell 0 (x:=↑(0:Int)) rfl;have z0:=X14.frozen 0;have y1:=X14.cell 1 (x:=↑(0:Int)) rfl;have z1:=X14.frozen 1;have y2:=X14.cell 2 (x:=↑(0:Int)) rfl;have z2:=X14.frozen 2;have y3:=X14.cell 3 (x:=↑(0:Int)) rfl;have z3:=X14.frozen 3;have y4:=X14.cell 4 (x:=.slice none 0 0) rfl;have z4:=X14.frozen 4;go_simp;have XF:=aJ w13 (w13).heap.size rfl zF 182;have bF:=b13.alloc b13.size (.cells zF 182);have le:w0.heap.size<=(w13).heap.size:=b13.size;refine hK.o _ _ (HH.o _ bF) (λhHeld=>?_);clear y0 z0 y1 z1 y2 z2 y3 z3 y4 z4;clear hK K
     try simp only[qq]
     refine wT 17 6 ?_;refine bP (by kernel_rfl) ?_ _;go_wp2_with fail
     go_meet
     exact⟨rfl,bF⟩
    ·skip
     go_simp;have b16:=br.alloc br.size (.cells zF 182);have X16:=aJ w0.drew w0 rfl zF 182;refine hK.o _ _ (HH.o _ b16) (λhHeld=>?_);clear hK K
     try simp only[qq]
     refine aM (rs:=[11]) (by kernel_rfl) (by simp) ?_;refine(aA rfl (λK hK=>?_) aG);go_simp;refine(HF _ (b0.trans (b16.mono b0.size))).o.mono ?_;rintro _ w17 ⟨rfl,d17⟩;have b17:=b16.trans (d17.mono b16.size);have iV:=X16.below d17 X16.lt;refine hK.o _ _ (HH.o _ b17) (λhHeld=>?_);clear hK K
     try simp only[qq]
     refine wT 12 50 ?_;refine wT 13 63 ?_;refine wT 14 64 ?_;refine aM (rs:=[16]) (by kernel_rfl) (by simp) ?_;refine(aA rfl (λK hK=>?_) aG);have y0:=iV.cell 0 (x:=↑(0:Int)) rfl;have z0:=iV.frozen 0;have y1:=iV.cell 1 (x:=↑(0:Int)) rfl;have z1:=iV.frozen 1;have y2:=iV.cell 2 (x:=↑(0:Int)) rfl;have z2:=iV.frozen 2;have y3:=iV.cell 3 (x:=↑(0:Int)) rfl;have z3:=iV.frozen 3;have y4:=iV.cell 4 (x:=.slice none 0 0) rfl;have z4:=iV.frozen 4;go_simp;have le:w0.heap.size<=w0.heap.size:=br.size;have XF:Blk _ w0 zF 182:=(((((iV.set 0 ↑(0:Int)).set 1 ↑(0:Int)).set 2 ↑(0:Int)).set 3 ↑(0:Int)).set 4 (.slice none 0 0)).eq (by simp);have bF:=(((((b17.setCell (p:=(w0.heap.size,0)) le ↑(0:Int)).setCell (p:=(w0.heap.size,1)) le ↑(0:Int)).setCell (p:=(w0.heap.size,2)) le ↑(0:Int)).setCell (p:=(w0.heap.size,3)) le ↑(0:Int)).setCell (p:=(w0.heap.size,4)) le (.slice none 0 0));refine hK.o _ _ (HH.o _ bF) (λhHeld=>?_);clear y0 z0 y1 z1 y2 z2 y3 z3 y4 z4;clear hK K
     try simp only[qq]
     refine wT 17 6 ?_;refine bP (by kernel_rfl) ?_ _;go_wp2_with fail
     go_meet
     exact⟨rfl,bF⟩
   ·skip
    go_simp;have b19:=br.alloc br.size (.cells zF 182);have X19:=aJ w0.drew w0 rfl zF 182;refine hK.o _ _ (HH.o _ b19) (λhHeld=>?_);clear hK K
    try simp only[qq]
    refine aM (rs:=[10]) (by kernel_rfl) (by simp) ?_;refine(aA rfl (λK hK=>?_) aG);go_simp;refine(HTy _).o.mono ?_;rintro _ _ ⟨rfl,rfl⟩;refine hK.o _ _ (HH.o _ b19) (λhHeld=>?_);clear hK K
    try simp only[qq]
    refine aM (rs:=[11]) (by kernel_rfl) (by simp) ?_;refine(aA rfl (λK hK=>?_) aG);go_simp;refine(HF _ (b0.trans (b19.mono b0.size))).o.mono ?_;rintro _ w21 ⟨rfl,d21⟩;have b21:=b19.trans (d21.mono b19.size);have iW:=X19.below d21 X19.lt;refine hK.o _ _ (HH.o _ b21) (λhHeld=>?_);clear hK K
    try simp only[qq]
    refine wT 12 50 ?_;refine wT 13 63 ?_;refine wT 14 64 ?_;refine aM (rs:=[16]) (by kernel_rfl) (by simp) ?_;refine(aA rfl (λK hK=>?_) aG);have y0:=iW.cell 0 (x:=↑(0:Int)) rfl;have z0:=iW.frozen 0;have y1:=iW.cell 1 (x:=↑(0:Int)) rfl;have z1:=iW.frozen 1;have y2:=iW.cell 2 (x:=↑(0:Int)) rfl;have z2:=iW.frozen 2;have y3:=iW.cell 3 (x:=↑(0:Int)) rfl;have z3:=iW.frozen 3;have y4:=iW.cell 4 (x:=.slice none 0 0) rfl;have z4:=iW.frozen 4;go_simp;have le:w0.heap.size<=w0.heap.size:=br.size;have XF:Blk _ w0 zF 182:=(((((iW.set 0 ↑(0:Int)).set 1 ↑(0:Int)).set 2 ↑(0:Int)).set 3 ↑(0:Int)).set 4 (.slice none 0 0)).eq (by simp);have bF:=(((((b21.setCell (p:=(w0.heap.size,0)) le ↑(0:Int)).setCell (p:=(w0.heap.size,1)) le ↑(0:Int)).setCell (p:=(w0.heap.size,2)) le ↑(0:Int)).setCell (p:=(w0.heap.size,3)) le ↑(0:Int)).setCell (p:=(w0.heap.size,4)) le (.slice none 0 0));refine hK.o _ _ (HH.o _ bF) (λhHeld=>?_);clear y0 z0 y1 z1 y2 z2 y3 z3 y4 z4;clear hK K
    try simp only[qq]
    refine wT 17 6 ?_;refine bP (by kernel_rfl) ?_ _;go_wp2_with fail
    go_meet
    exact⟨rfl,bF⟩
  ·skip
   go_simp;have b23:=br.alloc br.size (.cells zF 182);have X23:=aJ w0.drew w0 rfl zF 182;refine hK.o _ _ (HH.o _ b23) (λhHeld=>?_);clear hK K
   try simp only[qq]
   refine aM (rs:=[5]) (by kernel_rfl) (by simp) ?_;refine(aA rfl (λK hK=>?_) aG);go_simp;refine(HTx _).o.mono ?_;rintro _ _ ⟨rfl,rfl⟩;refine hK.o _ _ (HH.o _ b23) (λhHeld=>?_);clear hK K
   try simp only[qq]
   refine aM (rs:=[10]) (by kernel_rfl) (by simp) ?_;refine(aA rfl (λK hK=>?_) aG);go_simp;refine(HTy _).o.mono ?_;rintro _ _ ⟨rfl,rfl⟩;refine hK.o _ _ (HH.o _ b23) (λhHeld=>?_);clear hK K
   try simp only[qq]
   refine aM (rs:=[11]) (by kernel_rfl) (by simp) ?_;refine(aA rfl (λK hK=>?_) aG);go_simp;refine(HF _ (b0.trans (b23.mono b0.size))).o.mono ?_;rintro _ w26 ⟨rfl,d26⟩;have b26:=b23.trans (d26.mono b23.size);have iX:=X23.below d26 X23.lt;refine hK.o _ _ (HH.o _ b26) (λhHeld=>?_);clear hK K
   try simp only[qq]
   refine wT 12 50 ?_;refine wT 13 63 ?_;refine wT 14 64 ?_;refine aM (rs:=[16]) (by kernel_rfl) (by simp) ?_;refine(aA rfl (λK hK=>?_) aG);have y0:=iX.cell 0 (x:=↑(0:Int)) rfl;have z0:=iX.frozen 0;have y1:=iX.cell 1 (x:=↑(0:Int)) rfl;have z1:=iX.frozen 1;have y2:=iX.cell 2 (x:=↑(0:Int)) rfl;have z2:=iX.frozen 2;have y3:=iX.cell 3 (x:=↑(0:Int)) rfl;have z3:=iX.frozen 3;have y4:=iX.cell 4 (x:=.slice none 0 0) rfl;have z4:=iX.frozen 4;go_simp;have le:w0.heap.size<=w0.heap.size:=br.size;have XF:Blk _ w0 zF 182:=(((((iX.set 0 ↑(0:Int)).set 1 ↑(0:Int)).set 2 ↑(0:Int)).set 3 ↑(0:Int)).set 4 (.slice none 0 0)).eq (by simp);have bF:=(((((b26.setCell (p:=(w0.heap.size,0)) le ↑(0:Int)).setCell (p:=(w0.heap.size,1)) le ↑(0:Int)).setCell (p:=(w0.heap.size,2)) le ↑(0:Int)).setCell (p:=(w0.heap.size,3)) le ↑(0:Int)).setCell (p:=(w0.heap.size,4)) le (.slice none 0 0));refine hK.o _ _ (HH.o _ bF) (λhHeld=>?_);clear y0 z0 y1 z1 y2 z2 y3 z3 y4 z4;clear hK K
   try simp only[qq]
   refine wT 17 6 ?_;refine bP (by kernel_rfl) ?_ _;go_wp2_with fail
   go_meet
   exact⟨rfl,bF⟩
 case rest=>
  obtain⟨rfl,bc⟩:=hcut;have hXc:=hX0.below bc hX0.lt;have bw:=b0.trans (bc.mono b0.size);have hmc:=hk.o _ bw;have kc:=af (iZ (G:=G) bw);have hGc:=Gp.gn hG bw.size;have hK:Hid (∀W,KG (Gp G w wc) wc W->Blk W w (aH h (.slice Ax h.x.length cx) (.slice Ay h.y.length cy)) 153/\GN (Gp G w wc) W):=af λW k=>⟨k.blk lr hXc,hGc.up k.size⟩;have hgm:=hmc.gs x.m (by simp[RX.own]);have c9:=hmc.c9;have a0:=hXc.cell 0 (x:=↑h.a) rfl;have a1:=hXc.cell 1 (x:=↑h.b) rfl;have hq3:h.a=0/\h.b=0/\m.ty.miss (m.sl:Nat)=ty2\/h.a=0/\h.b≠0/\m.ty.wrong (m.sl:Nat)=ty2\/h.a≠0/\m.ty.wrong (m.sl:Nat)=ty2:=by
   rcases hqH.o with⟨⟨ea,eb⟩,e⟩|⟨hn,e⟩
   ·exact .inl ⟨ea,eb,e⟩
   ·by_cases ea:h.a=0
    ·exact .inr (.inl ⟨ea,λeb=>hn ⟨ea,eb⟩,e⟩)
    ·exact .inr (.inr ⟨ea,e⟩)
  rcases hq3 with⟨ea,eb,e⟩|⟨ea,eb,e⟩|⟨ea,e⟩
  case' inl=>
   have hW:=Ek x.m m.ty (m.sl:Nat) wc hmc.ty;rw[ea]at a0;rw[eb]at a1
  case' inr.inl=>
   have hW:=El x.m m.ty (m.sl:Nat) wc hmc.ty hta.2;have qb:(h.b==0)=false:=by rw[aB];exact eb
   rw[ea]at a0
  case' inr.inr=>
   have hW:=El x.m m.ty (m.sl:Nat) wc hmc.ty hta.2;have qa':(h.a==0)=false:=by rw[aB];exact ea
  all_goals
   rw[e]at hW;have hW:=af hW;have hmc:=af hmc;clear S0 HH HTx HTy HF hXc hk hX0 bw hGc br;go_wp2_with fail;refine hW.o.mono ?_;rintro _ w5 ⟨rfl,hT5,o5⟩;have h5:=af (hmc.o.upM hT5 o5);have k5:=af (o5.kg (G:=Gp G w wc) hgm);clear hW hmc hT5 o5 c9 a0 a1;have hd9:=h5.o.drew;have HS:∀W(m':NM),RA b (Gp G w wc) W g m' x->(W.cell? (g,13)=some ↑(x.s,0)/\W.cell? (g,9)=some ↑(x.m,0)):=λW m' h=>⟨h.c13,h.c9⟩;have S0:=af (HS _ _ hd9);have hgs:=hd9.gs x.s (by simp[RX.own]);have hI:=af (uD x.m ty2 (m.sl:Nat) w5.drew hd9.ty);have hM:=af (λn=>uE (Gp G w wc) (x.own g) x.s (m.so) (m.sl:Nat) (isB ty2.m (m.sl:Nat)) (w5.drewN n) (h5.o.drewN n).so (by simp[RX.own]));have hUp:=af (λn w8 so(hT:SRt (Gp G w wc) (x.own g) w8 x.s so)(o:Only x.s (w5.drewN n) w8)=>(h5.o.drewN n).upS hT o);have S1:=af (λn=>HS _ _ (h5.o.drewN n));have HSH:=af HS;clear h5 hd9 HS;go_wp2_with fail
   go_region_held3 (λW=>W.cell? (g,13)=some ↑(x.s,0)/\W.cell? (g,9)=some ↑(x.m,0)) ((first|exact S0.o|exact S1.o _|exact S2.o))
    (first
     |(go_at_call 133;refine hI.o.mono ?_;rintro _ _ ⟨rfl,n,rfl⟩)
     |(go_at_call 132;refine(hM.o (1+n)).mono ?_;rintro _ w8 ⟨rfl,hT8,o8⟩;(have h8:=hUp.o (1+n) w8 _ hT8 o8);(have k10:=af ((k5.o.trans (iZ (aC (ah _ w5) (1+n)))).trans (o8.kg hgs)));(have S2:=af (HSH.o w8 _ h8)))
     |fail)
   have h8:RA b (Gp G w wc) w8 g (m.took ty2 m.so m.ck:NM) x:=h8;obtain⟨-,hG8⟩:=hK.o w8 k10.o;have hO:=af (oU b (Gp G w wc) g _ x w8 h8 hG8 hN.o);unfold OnC at hO;clear S0 S1 S2 HSH hI hM hUp hT8 o8 k5 h8;go_wp2_with fail;refine hO.o.mono ?_;rintro _ w9 ⟨rfl,h10,k11⟩;have hfin:=af (h10.up);have oV:=af (kc.o.trans ((k10.o.trans k11).up));clear hO h10 k11 k10;go_wp2;exact aD (ax (by rfl) _ _ _) rfl ⟨rfl,⟨_,hfin.o⟩,oV.o⟩
theorem N9(b:Bool)(G:GS)(g:Nat)(m:NM)(x:RX)(h:Hn)(vx vy:Value)(l:List Int)(w:World)(hm:RA b G w g m x)(hG:GN G w)(hh:HOk w h vx vy)(hst:m.st=2\/m.st=3\/m.st=4)(hs:m.sl≠m.i)(hsl:m.sl<m.t.ns.length/\m.t.ns.length<=8)(hta:m.ty.a<1000/\m.ty.f<1000)(hn:m.lg h=some l)(hd:iK (Fr.res l m.own).d)(hsy:(m.at_ m.sl).sy=true)(hN:NG (m.took (m.ty.right (m.sl:Nat)) (m.so.put (m.sl:Nat) (Fr.res l m.own).d) (iT m.ck h.o))):Tke G g ((m.took (m.ty.right (m.sl:Nat)) (m.so.put (m.sl:Nat) (Fr.res l m.own).d) (iT m.ck h.o)):NM).goOn h vx vy w:=by
 unfold Tke;have hb0:=(ah w w).alloc lr (.cells (aH h vx vy) 153);have hX0:=aJ w w rfl (aH h vx vy) 153;have hm0:=hm.below hb0;have HT:=λa v W=>af (rF a v W);have HF:=λW(hW:Below w w W)=>af (Ef b G g m x h vx vy l (by omega) W (hh.below hW) (hm.below hW) hn);obtain⟨ux,hux⟩:∃ux,jZ h.a vx=ux:=⟨_,rfl⟩;obtain⟨uy,huy⟩:∃uy,jZ h.b vy=uy:=⟨_,rfl⟩;have HTx:∀W,Hid (Calls Tryz.prog 127 #[↑h.a,vx] W λe w'=>e=.returned ux/\w'=W):=λW=>hux▸HT h.a vx W;have HTy:∀W,Hid (Calls Tryz.prog 127 #[↑h.b,vy] W λe w'=>e=.returned uy/\w'=W):=λW=>huy▸HT h.b vy W;rw[hux,huy]at HF;clear hux huy HT;obtain⟨Ax,cx,rfl,-⟩:=hh.x.at_;obtain⟨Ay,cy,rfl,-⟩:=hh.y.at_;have hk:=af (λW(hW:Below w w W)=>hm.past hW);have c6:=hm0.c6;have c8:=hm0.c8;have c4:=hm0.c4;have q:(((m.sl:Nat):Int)==((m.i:Nat):Int))=false:=by rw[aB];omega
 have ho:=hh.o;have hN:=af hN;have Ej:m.sl<8:=by omega
 clear hh hn hs;obtain⟨fr,hfr⟩:∃fr,Fr.res l m.own=fr:=⟨_,rfl⟩;rw[hfr]at HF hd hN;have xM:=af hfr;clear hfr;obtain⟨fk,⟨f_r,f_s,f_m⟩,fd⟩:=fr;simp only at HF hd;obtain⟨zi,hzi⟩:∃z:Int,((m.i:Nat):Int)=z:=⟨_,rfl⟩;rw[hzi]at c4 q;clear hzi;unfold hdV;obtain⟨zs,hzs⟩:∃z:Int,((m.st:Nat):Int)=z:=⟨_,rfl⟩;rw[hzs]at c6;have z0:(zs==0)=false:=by rw[aB];omega
 have z5:(zs==5)=false:=by rw[aB];omega
 have z1:(zs==1)=false:=by rw[aB];omega
 clear hzs hst
 go_enter Tryz.func76,Tryz.ntmps76
 go_wp2_with fail;clear hm hm0 c6 c8 c4;generalize w.alloc (.cells (aH h (.slice Ax h.x.length cx) (.slice Ay h.y.length cy)) 153)=w0 at *;have b0:=hb0;have HS:∀W,Below w0 w0 W->(W.cell? (w,0)=some ↑h.a/\W.cell? (w,1)=some ↑h.b/\W.cell? (w,2)=some (.slice Ax h.x.length cx)/\W.cell? (w,3)=some (.slice Ay h.y.length cy)):=λW hW=>by
  have h':=hX0.below hW hX0.lt;exact⟨h'.cell 0 rfl,h'.cell 1 rfl,h'.cell 2 rfl,h'.cell 3 rfl⟩
 have br:=(ah w0 w0).drew;have S0:=af (HS _ br);have HH:=af HS;clear HS
 go_cut [5,6]from 50 to 64 (λs5 s6 wx=>∃a A2 c2,s5=.pointer (some ⟨a,0,none⟩)/\s6=↑true/\Blk wx a (aF fk f_r f_s f_m A2 (fd.length) c2) 182/\iJ wx w0 (.slice A2 fd.length c2) fd/\Below w0 w0 wx/\w0.heap.size<=a)
 case first=>
  refine cW (S:=λW=>W.cell? (w,0)=some ↑h.a/\W.cell? (w,1)=some ↑h.b/\W.cell? (w,2)=some (.slice Ax h.x.length cx)/\W.cell? (w,3)=some (.slice Ay h.y.length cy)) (by kernel_rfl) S0.o (λhHeld=>?_);refine wT 0 51 ?_;refine wT 1 52 ?_;refine wT 2 53 ?_;refine wT 3 54 ?_;refine wT 4 55 ?_;refine wT 6 57 ?_;refine wT 7 58 ?_;refine wT 8 59 ?_;refine wT 9 60 ?_;refine aM (rs:=[5,15]) (by kernel_rfl) (by simp) ?_;refine(aA rfl (λK hK=>?_) (aA rfl (λK hK=>?_) aG))
  ·skip
   go_simp;refine(HTx _).o.mono ?_;rintro _ _ ⟨rfl,rfl⟩;refine hK.o _ _ (HH.o _ br) (λhHeld=>?_);clear hK K
   try simp only[qq]
   refine aM (rs:=[10,15]) (by kernel_rfl) (by simp) ?_;refine(aA rfl (λK hK=>?_) (aA rfl (λK hK=>?_) aG))
   ·skip
    go_simp;refine(HTy _).o.mono ?_;rintro _ _ ⟨rfl,rfl⟩;refine hK.o _ _ (HH.o _ br) (λhHeld=>?_);clear hK K
    try simp only[qq]
    refine aM (rs:=[11,15]) (by kernel_rfl) (by simp) ?_;refine(aA rfl (λK hK=>?_) (aA rfl (λK hK=>?_) aG))
    ·skip
     go_simp;refine(HF _ (b0.trans (br.mono b0.size))).o.mono ?_;rintro _ w13 ⟨v,rfl,hv,d13⟩;obtain⟨A2,c2,rfl,-⟩:=hv.sees.at_;unfold frV;simp only
     (try simp only at hv)
     have b13:=br.trans (d13.mono br.size);refine hK.o _ _ (HH.o _ b13) (λhHeld=>?_);clear hK K
     try simp only[qq]
     refine wT 12 50 ?_;refine wT 13 63 ?_;refine wT 14 64 ?_;refine aM (rs:=[15]) (by kernel_rfl) (by simp) ?_;refine(aA rfl (λK hK=>?_) aG);go_simp;have b14:=b13.alloc b13.size (.cells zF 182);have X14:=aJ w13 (w13).heap.size rfl zF 182;refine hK.o _ _ (HH.o _ b14) (λhHeld=>?_);clear hK K
     try simp only[qq]
     refine aM (rs:=[16]) (by kernel_rfl) (by simp) ?_;refine(aA rfl (λK hK=>?_) aG);have y0:=X14.cell 0 (x:=↑(0:Int)) rfl;have z0:=X14.frozen 0;have y1:=X14.cell 1 (x:=↑(0:Int)) rfl;have z1:=X14.frozen 1;have y2:=X14.cell 2 (x:=↑(0:Int)) rfl;have z2:=X14.frozen 2;have y3:=X14.cell 3 (x:=↑(0:Int)) rfl;have z3:=X14.frozen 3;have y4:=X14.cell 4 (x:=.slice none 0 0) rfl;have z4:=X14.frozen 4;go_simp;have XF:=aJ w13 (w13).heap.size rfl (aF fk f_r f_s f_m A2 (fd.length) c2) 182;have bF:=b13.alloc b13.size (.cells (aF fk f_r f_s f_m A2 (fd.length) c2) 182);have le:w0.heap.size<=(w13).heap.size:=b13.size;refine hK.o _ _ (HH.o _ bF) (λhHeld=>?_);clear y0 z0 y1 z1 y2 z2 y3 z3 y4 z4;clear hK K
     try simp only[qq]
     refine wT 17 6 ?_;refine bP (by kernel_rfl) ?_ _;have hv5:=hv.alloc (.cells (aF fk f_r f_s f_m A2 (fd.length) c2) 182);go_wp2_with fail
     go_meet
     exact⟨_,A2,c2,rfl,rfl,XF,hv5.base (by have:=br.size;first|(simp;done)|(simp at this ⊢;omega)),bF,le⟩
    ·skip
     go_simp;have b16:=br.alloc br.size (.cells zF 182);have X16:=aJ w0.drew w0 rfl zF 182;refine hK.o _ _ (HH.o _ b16) (λhHeld=>?_);clear hK K
     try simp only[qq]
     refine aM (rs:=[11]) (by kernel_rfl) (by simp) ?_;refine(aA rfl (λK hK=>?_) aG);go_simp;refine(HF _ (b0.trans (b16.mono b0.size))).o.mono ?_;rintro _ w17 ⟨v,rfl,hv,d17⟩;obtain⟨A2,c2,rfl,-⟩:=hv.sees.at_;unfold frV;simp only
     (try simp only at hv)
     have b17:=b16.trans (d17.mono b16.size);have iV:=X16.below d17 X16.lt;refine hK.o _ _ (HH.o _ b17) (λhHeld=>?_);clear hK K
     try simp only[qq]
     refine wT 12 50 ?_;refine wT 13 63 ?_;refine wT 14 64 ?_;refine aM (rs:=[16]) (by kernel_rfl) (by simp) ?_;refine(aA rfl (λK hK=>?_) aG);have y0:=iV.cell 0 (x:=↑(0:Int)) rfl;have z0:=iV.frozen 0;have y1:=iV.cell 1 (x:=↑(0:Int)) rfl;have z1:=iV.frozen 1;have y2:=iV.cell 2 (x:=↑(0:Int)) rfl;have z2:=iV.frozen 2;have y3:=iV.cell 3 (x:=↑(0:Int)) rfl;have z3:=iV.frozen 3;have y4:=iV.cell 4 (x:=.slice none 0 0) rfl;have z4:=iV.frozen 4;go_simp;have le:w0.heap.size<=w0.heap.size:=br.size;have XF:Blk _ w0 (aF fk f_r f_s f_m A2 (fd.length) c2) 182:=(((((iV.set 0 ↑fk).set 1 ↑f_r).set 2 ↑f_s).set 3 ↑f_m).set 4 (.slice A2 fd.length c2)).eq (by simp);have bF:=(((((b17.setCell (p:=(w0.heap.size,0)) le ↑fk).setCell (p:=(w0.heap.size,1)) le ↑f_r).setCell (p:=(w0.heap.size,2)) le ↑f_s).setCell (p:=(w0.heap.size,3)) le ↑f_m).setCell (p:=(w0.heap.size,4)) le (.slice A2 fd.length c2));refine hK.o _ _ (HH.o _ bF) (λhHeld=>?_);clear y0 z0 y1 z1 y2 z2 y3 z3 y4 z4;clear hK K
     try simp only[qq]
     refine wT 17 6 ?_;refine bP (by kernel_rfl) ?_ _;have hv5:=(((((hv.iN (w0,0) ↑fk (by simp)).iN (w0,1) ↑f_r (by simp)).iN (w0,2) ↑f_s (by simp)).iN (w0,3) ↑f_m (by simp)).iN (w0,4) (.slice A2 fd.length c2) (by simp));go_wp2_with fail
     go_meet
     exact⟨_,A2,c2,rfl,rfl,XF,hv5.base (by have:=br.size;first|(simp;done)|(simp at this ⊢;omega)),bF,le⟩
   ·skip
    go_simp;have b19:=br.alloc br.size (.cells zF 182);have X19:=aJ w0.drew w0 rfl zF 182;refine hK.o _ _ (HH.o _ b19) (λhHeld=>?_);clear hK K
    try simp only[qq]
    refine aM (rs:=[10]) (by kernel_rfl) (by simp) ?_;refine(aA rfl (λK hK=>?_) aG);go_simp;refine(HTy _).o.mono ?_;rintro _ _ ⟨rfl,rfl⟩;refine hK.o _ _ (HH.o _ b19) (λhHeld=>?_);clear hK K
    try simp only[qq]
    refine aM (rs:=[11]) (by kernel_rfl) (by simp) ?_;refine(aA rfl (λK hK=>?_) aG);go_simp;refine(HF _ (b0.trans (b19.mono b0.size))).o.mono ?_;rintro _ w21 ⟨v,rfl,hv,d21⟩;obtain⟨A2,c2,rfl,-⟩:=hv.sees.at_;unfold frV;simp only
    (try simp only at hv)
    have b21:=b19.trans (d21.mono b19.size);have iW:=X19.below d21 X19.lt;refine hK.o _ _ (HH.o _ b21) (λhHeld=>?_);clear hK K
    try simp only[qq]
    refine wT 12 50 ?_;refine wT 13 63 ?_;refine wT 14 64 ?_;refine aM (rs:=[16]) (by kernel_rfl) (by simp) ?_;refine(aA rfl (λK hK=>?_) aG);have y0:=iW.cell 0 (x:=↑(0:Int)) rfl;have z0:=iW.frozen 0;have y1:=iW.cell 1 (x:=↑(0:Int)) rfl;have z1:=iW.frozen 1;have y2:=iW.cell 2 (x:=↑(0:Int)) rfl;have z2:=iW.frozen 2;have y3:=iW.cell 3 (x:=↑(0:Int)) rfl;have z3:=iW.frozen 3;have y4:=iW.cell 4 (x:=.slice none 0 0) rfl;have z4:=iW.frozen 4;go_simp;have le:w0.heap.size<=w0.heap.size:=br.size;have XF:Blk _ w0 (aF fk f_r f_s f_m A2 (fd.length) c2) 182:=(((((iW.set 0 ↑fk).set 1 ↑f_r).set 2 ↑f_s).set 3 ↑f_m).set 4 (.slice A2 fd.length c2)).eq (by simp);have bF:=(((((b21.setCell (p:=(w0.heap.size,0)) le ↑fk).setCell (p:=(w0.heap.size,1)) le ↑f_r).setCell (p:=(w0.heap.size,2)) le ↑f_s).setCell (p:=(w0.heap.size,3)) le ↑f_m).setCell (p:=(w0.heap.size,4)) le (.slice A2 fd.length c2));refine hK.o _ _ (HH.o _ bF) (λhHeld=>?_);clear y0 z0 y1 z1 y2 z2 y3 z3 y4 z4;clear hK K
    try simp only[qq]
    refine wT 17 6 ?_;refine bP (by kernel_rfl) ?_ _;have hv5:=(((((hv.iN (w0,0) ↑fk (by simp)).iN (w0,1) ↑f_r (by simp)).iN (w0,2) ↑f_s (by simp)).iN (w0,3) ↑f_m (by simp)).iN (w0,4) (.slice A2 fd.length c2) (by simp));go_wp2_with fail
    go_meet
    exact⟨_,A2,c2,rfl,rfl,XF,hv5.base (by have:=br.size;first|(simp;done)|(simp at this ⊢;omega)),bF,le⟩
  ·skip
   go_simp;have b23:=br.alloc br.size (.cells zF 182);have X23:=aJ w0.drew w0 rfl zF 182;refine hK.o _ _ (HH.o _ b23) (λhHeld=>?_);clear hK K
   try simp only[qq]
   refine aM (rs:=[5]) (by kernel_rfl) (by simp) ?_;refine(aA rfl (λK hK=>?_) aG);go_simp;refine(HTx _).o.mono ?_;rintro _ _ ⟨rfl,rfl⟩;refine hK.o _ _ (HH.o _ b23) (λhHeld=>?_);clear hK K
   try simp only[qq]
   refine aM (rs:=[10]) (by kernel_rfl) (by simp) ?_;refine(aA rfl (λK hK=>?_) aG);go_simp;refine(HTy _).o.mono ?_;rintro _ _ ⟨rfl,rfl⟩;refine hK.o _ _ (HH.o _ b23) (λhHeld=>?_);clear hK K
   try simp only[qq]
   refine aM (rs:=[11]) (by kernel_rfl) (by simp) ?_;refine(aA rfl (λK hK=>?_) aG);go_simp;refine(HF _ (b0.trans (b23.mono b0.size))).o.mono ?_;rintro _ w26 ⟨v,rfl,hv,d26⟩;obtain⟨A2,c2,rfl,-⟩:=hv.sees.at_;unfold frV;simp only
   (try simp only at hv)
   have b26:=b23.trans (d26.mono b23.size);have iX:=X23.below d26 X23.lt;refine hK.o _ _ (HH.o _ b26) (λhHeld=>?_);clear hK K
   try simp only[qq]
   refine wT 12 50 ?_;refine wT 13 63 ?_;refine wT 14 64 ?_;refine aM (rs:=[16]) (by kernel_rfl) (by simp) ?_;refine(aA rfl (λK hK=>?_) aG);have y0:=iX.cell 0 (x:=↑(0:Int)) rfl;have z0:=iX.frozen 0;have y1:=iX.cell 1 (x:=↑(0:Int)) rfl;have z1:=iX.frozen 1;have y2:=iX.cell 2 (x:=↑(0:Int)) rfl;have z2:=iX.frozen 2;have y3:=iX.cell 3 (x:=↑(0:Int)) rfl;have z3:=iX.frozen 3;have y4:=iX.cell 4 (x:=.slice none 0 0) rfl;have z4:=iX.frozen 4;go_simp;have le:w0.heap.size<=w0.heap.size:=br.size;have XF:Blk _ w0 (aF fk f_r f_s f_m A2 (fd.length) c2) 182:=(((((iX.set 0 ↑fk).set 1 ↑f_r).set 2 ↑f_s).set 3 ↑f_m).set 4 (.slice A2 fd.length c2)).eq (by simp);have bF:=(((((b26.setCell (p:=(w0.heap.size,0)) le ↑fk).setCell (p:=(w0.heap.size,1)) le ↑f_r).setCell (p:=(w0.heap.size,2)) le ↑f_s).setCell (p:=(w0.heap.size,3)) le ↑f_m).setCell (p:=(w0.heap.size,4)) le (.slice A2 fd.length c2));refine hK.o _ _ (HH.o _ bF) (λhHeld=>?_);clear y0 z0 y1 z1 y2 z2 y3 z3 y4 z4;clear hK K
   try simp only[qq]
   refine wT 17 6 ?_;refine bP (by kernel_rfl) ?_ _;have hv5:=(((((hv.iN (w0,0) ↑fk (by simp)).iN (w0,1) ↑f_r (by simp)).iN (w0,2) ↑f_s (by simp)).iN (w0,3) ↑f_m (by simp)).iN (w0,4) (.slice A2 fd.length c2) (by simp));go_wp2_with fail
   go_meet
   exact⟨_,A2,c2,rfl,rfl,XF,hv5.base (by have:=br.size;first|(simp;done)|(simp at this ⊢;omega)),bF,le⟩
 case rest=>
  obtain⟨fa,A2,c2,rfl,rfl,hF,hv,bc,hfa⟩:=hcut;have hXc:=hX0.below bc hX0.lt;have bw:=b0.trans (bc.mono b0.size);have hmc:=hk.o _ bw;have kc:=af (iZ (G:=G) bw);have hGc:=Gp.gn hG bw.size;have hsz:=b0.size;have hK2:Hid (∀W,KG (Gp G w wc) wc W->Blk W fa (aF fk f_r f_s f_m A2 (fd.length) c2) 182/\Blk W w (aH h (.slice Ax h.x.length cx) (.slice Ay h.y.length cy)) 153/\iI W W (.slice A2 fd.length c2) fd):=af λW k=>
   ⟨k.blk (by omega) hF,k.blk lr hXc,k.xI hv.sees (λk h0 e=>by have:=(hv.lt k e).1;omega)⟩
  have hK:Hid (∀W,KG (Gp G w wc) wc W->True/\GN (Gp G w wc) W):=af λW k=>⟨trivial,hGc.up k.size⟩;have hgm:=hmc.gs x.m (by simp[RX.own]);have uF:=hmc.gs x.s (by simp[RX.own]);have hg:=hmc.G_;have c9:=hmc.c9;have hW:=af (xJ x.m m.ty (m.sl:Nat) wc hmc.ty hta.1);have hmc:=af hmc;clear S0 HH HTx HTy HF hXc hk hX0 bw hGc br hF hv;go_wp2_with fail;refine hW.o.mono ?_;rintro _ w2 ⟨rfl,hT2,o2⟩;have h2:=hmc.o.upM hT2 o2;have hd2:=h2.drew;have kd2:=af ((o2.kg (G:=Gp G w wc) hgm).trans (iZ (ah _ w2).drew));clear hW hmc hT2 o2 c9;obtain⟨hF2,-,hs2⟩:=hK2.o w2.drew kd2.o;have HS:∀W(m':NM),RA b (Gp G w wc) W g m' x->KG (Gp G w wc) wc W->(W.cell? (g,13)=some ↑(x.s,0)/\W.cell? (fa,4)=some (.slice A2 fd.length c2)):=λW m' h k=>⟨h.c13,(hK2.o W k).1.cell 4 rfl⟩;have S0:=af (HS _ _ hd2 kd2.o);have hP:=af (xL (Gp G w wc) (x.own g) x.s m.so (m.sl:Nat) (.slice A2 fd.length c2) fd w2.drew w2.drew hd2.so (by simp[RX.own]) (λf hf=>hd2.lts f (aT _ hf)) (hK.o _ kd2.o).2 hs2 hd);have hUp:=af (λw8 so(hT:SRt (Gp G w wc) (x.own g) w8 x.s so)(o:Only x.s w2.drew w8)=>hd2.upS hT o);have HSH:=af HS;clear h2 hd2 hF2 hs2 HS;go_wp2_with fail
  go_region_held3 (λW=>W.cell? (g,13)=some ↑(x.s,0)/\W.cell? (fa,4)=some (.slice A2 fd.length c2)) ((first|exact S0.o|exact S1.o))
   (first
    |(go_at_call 129;refine hP.o.mono ?_;rintro _ w3 ⟨rfl,hT3,o3⟩;(have h3:=hUp.o w3 _ hT3 o3);(have k3:=af (kd2.o.trans (o3.kg uF)));(have S1:=af (HSH.o w3 _ h3 k3.o)))
    |fail)
  clear S0 S1 HSH hP hUp hT3 o3 kd2;have h3:RA b (Gp G w wc) w3 g ({m with ty:=m.ty.right (m.sl:Nat),so:=m.so.put (m.sl:Nat) fd}:NM) x:=h3;obtain⟨bl,off,cn,c0,hbl,⟨e0,-,-,-⟩,hcn⟩:=h3.lV (j:=m.sl) hsl.1;have d0:w3.cell? (bl,off+m.sl*4)=some ↑(m.at_ m.sl).sy:=e0;rw[hsy]at d0;have c0:w3.cell? (g,0)=some (.slice (some (bl,off)) m.t.ns.length cn):=c0;clear e0;have OL:=hsl.1;obtain⟨cc,L,hcc,hup⟩:=h3.drew.clock;have HS:∀W,KG (Gp G w wc) wc W->(W.cell? (w,4)=some ↑h.o):=λW k=>(hK2.o W k).2.1.cell 4 rfl;have kd3:=af (k3.o.trans (iZ (ah _ w3).drew));have S0:=af (HS _ kd3.o);have HSH:=af HS;have hMe:=af (Ei cc g _ L _ h.o w3.drew hcc h3.drew.cko);have hUp:=af (λw4 v'(hc:RKt cc w4 g ({m with ty:=m.ty.right (m.sl:Nat),so:=m.so.put (m.sl:Nat) fd}:NM).t.lm v' (iT m.ck h.o))(o:Only g w3.drew w4)(hf:∀k,jv v'=some k->w3.drew.heap.size<=k)=>hup w4 v' _ hc o (λk e=>⟨hf k e,Eg _ _⟩) (Eh _ _ h3.drew.cko) (hK.o _ kd3.o).2);clear h3 k3 HS hcc hup;go_wp2_with fail
  go_region_held3 (λW=>W.cell? (w,4)=some ↑h.o) ((first|exact S0.o|exact S1.o))
   (first
    |(go_at_call 124;refine hMe.o.mono ?_;rintro _ w5 ⟨rfl,⟨v',hc5,hf5⟩,o5⟩;(have h5:=af (hUp.o w5 v' hc5 o5 hf5));(have k5:=af (kd3.o.trans (o5.kg hg)));(have S1:=af (HSH.o w5 k5.o)))
    |fail)
  clear S0 S1 HSH hMe hUp hc5 hf5 o5 kd3 c0 d0;have hd9:=h5.o.drew;have HS:∀W(m':NM),RA b (Gp G w wc) W g m' x->(W.cell? (g,13)=some ↑(x.s,0)/\W.cell? (g,9)=some ↑(x.m,0)):=λW m' h=>⟨h.c13,h.c9⟩;have S0:=af (HS _ _ hd9);have hgs:=hd9.gs x.s (by simp[RX.own]);have hI:=af (uD x.m (m.ty.right (m.sl:Nat)) (m.sl:Nat) w5.drew hd9.ty);have hM:=af (λn=>uE (Gp G w wc) (x.own g) x.s (m.so.put (m.sl:Nat) fd) (m.sl:Nat) (isB (m.ty.right (m.sl:Nat)).m (m.sl:Nat)) (w5.drewN n) (h5.o.drewN n).so (by simp[RX.own]));have hUp:=af (λn w8 so(hT:SRt (Gp G w wc) (x.own g) w8 x.s so)(o:Only x.s (w5.drewN n) w8)=>(h5.o.drewN n).upS hT o);have S1:=af (λn=>HS _ _ (h5.o.drewN n));have HSH:=af HS;clear h5 hd9 HS;go_wp2_with fail
  go_region_held3 (λW=>W.cell? (g,13)=some ↑(x.s,0)/\W.cell? (g,9)=some ↑(x.m,0)) ((first|exact S0.o|exact S1.o _|exact S2.o))
   (first
    |(go_at_call 133;refine hI.o.mono ?_;rintro _ _ ⟨rfl,n,rfl⟩)
    |(go_at_call 132;refine(hM.o (1+n)).mono ?_;rintro _ w8 ⟨rfl,hT8,o8⟩;(have h8:=hUp.o (1+n) w8 _ hT8 o8);(have k10:=af ((k5.o.trans (iZ (aC (ah _ w5) (1+n)))).trans (o8.kg hgs)));(have S2:=af (HSH.o w8 _ h8)))
    |fail)
  have h8:RA b (Gp G w wc) w8 g (m.took (m.ty.right (m.sl:Nat)) (m.so.put (m.sl:Nat) fd) (iT m.ck h.o):NM) x:=h8;obtain⟨-,hG8⟩:=hK.o w8 k10.o;have hO:=af (oU b (Gp G w wc) g _ x w8 h8 hG8 hN.o);unfold OnC at hO;clear S0 S1 S2 HSH hI hM hUp hT8 o8 k5 h8;go_wp2_with fail;refine hO.o.mono ?_;rintro _ w9 ⟨rfl,h10,k11⟩;have hfin:=af (h10.up);have oV:=af (kc.o.trans ((k10.o.trans k11).up));clear hO h10 k11 k10;go_wp2;exact aD (ax (by rfl) _ _ _) rfl ⟨rfl,(by rw[xM.o];exact⟨_,hfin.o⟩),oV.o⟩
end
end Go.Proofs.YteadkhigkmijiaaGreat
