/- Texts RaU, RaV in one. -/
import Derived.StillTailTactics
import Derived.Test.YteadkhigkmijiaaGreatPD1
import Derived.Test.YteadkhigkmijiaaGreatPD8
import Derived.Test.YteadkhigkmijiaaGreatPD13
import Derived.Test.YteadkhigkmijiaaGreatPD25
import Derived.Test.YteadkhigkmijiaaGreatPD45
set_option linter.all false
namespace Go.Proofs.YteadkhigkmijiaaGreat
section
set_option maxRecDepth 100000
set_option maxHeartbeats 8000000
open Go.RowKit
open Fr (St F)
def gk(so:MS)(mm k:Nat):MS:={so with g:=λi=>if i<k then isB mm i else so.g i}
theorem OH(so:MS)(mm k:Nat)(hk:k<8)(i:Nat):((gk so mm k).member (k:Nat) (isB mm (k:Nat))).g i=(gk so mm (k+1)).g i:=by
 unfold MS.member;rw[au (by unfold isN;omega)];show upd (gk so mm k).g (Int.toNat (k:Nat)) (isB mm (k:Nat)) i=if i<k+1 then isB mm i else so.g i;unfold upd;rw[aQ];by_cases e:i=k
 ·subst e;rw[au rfl,au (by omega)]
 ·rw[ai e]
  show(if i<k then isB mm i else so.g i)=_;by_cases e2:i<k
  ·rw[au e2,au (by omega)]
  ·rw[ai e2,ai (by omega)]
theorem NU(b:Bool)(G:GS)(g:Nat)(m:NM)(x:RX)(h:Hn)(vx vy:Value)(l:List Int)(w:World)(hm:RA b G w g m x)(hG:GN G w)(hh:HOk w h vx vy)(hn:m.kY h=some l)(hN:NG (m.knows (Fr.res l NM.z3) h.o))(ht:-4611686018427387904<=m.tm/\m.tm<=4611686018427387904)(hs:0<=(Fr.res l NM.z3).st.s/\(Fr.res l NM.z3).st.s<8)(hd:iK (Fr.res l NM.z3).d):
  Calls Tryz.prog 123 #[↑(g,0),hdV h vx vy] w λe w'=>e=.returned (.tuple #[])/\RS false G w' g (m.knows (Fr.res l NM.z3) h.o).goOn/\KG G w w':=by
 have hb0:=(ah w w).alloc lr (.cells (aH h vx vy) 153);have hX0:=aJ w w rfl (aH h vx vy) 153;have hm0:=hm.below hb0;have HT:=λa v W=>af (rF a v W);have HF:=λW(hW:Below w w W)=>af (OG b G g m x h vx vy l W (hh.below hW) (hm.below hW) hn);obtain⟨ux,hux⟩:∃ux,jZ h.a vx=ux:=⟨_,rfl⟩;obtain⟨uy,huy⟩:∃uy,jZ h.b vy=uy:=⟨_,rfl⟩;have HTx:∀W,Hid (Calls Tryz.prog 127 #[↑h.a,vx] W λe w'=>e=.returned ux/\w'=W):=λW=>hux▸HT h.a vx W;have HTy:∀W,Hid (Calls Tryz.prog 127 #[↑h.b,vy] W λe w'=>e=.returned uy/\w'=W):=λW=>huy▸HT h.b vy W;rw[hux,huy]at HF;clear hux huy HT;obtain⟨Ax,cx,rfl,-⟩:=hh.x.at_;obtain⟨Ay,cy,rfl,-⟩:=hh.y.at_;have hk:=af (λW(hW:Below w w W)=>hm.past hW);have ho:=hh.o;clear hh hn;generalize hfr:Fr.res l NM.z3=fr at *;clear hfr;obtain⟨fk,⟨f_r,f_s,f_m⟩,fd⟩:=fr;simp only at HF hs hd;obtain⟨sn,rfl⟩:∃sn:Nat,f_s=(sn:Int):=⟨f_s.toNat,by omega⟩;have hs8:sn<8:=by omega
 have hN:=af hN;clear hs;unfold hdV
 go_enter Tryz.func123,Tryz.ntmps123
 go_wp2_with fail;clear hm hm0;generalize w.alloc (.cells (aH h (.slice Ax h.x.length cx) (.slice Ay h.y.length cy)) 153)=w0 at *;have b0:=hb0;have HS:∀W,Below w0 w0 W->(W.cell? (w,0)=some ↑h.a/\W.cell? (w,1)=some ↑h.b/\W.cell? (w,2)=some (.slice Ax h.x.length cx)/\W.cell? (w,3)=some (.slice Ay h.y.length cy)):=λW hW=>by
  have h':=hX0.below hW hX0.lt;exact⟨h'.cell 0 rfl,h'.cell 1 rfl,h'.cell 2 rfl,h'.cell 3 rfl⟩
 have br:=(ah w0 w0).drew;have S0:=af (HS _ br);have HH:=af HS;clear HS
 go_cut [4,5]from 7 to 21 (λs4 s5 wx=>∃a A2 c2,s4=.pointer (some ⟨a,0,none⟩)/\s5=↑true/\Blk wx a #[↑fk,↑f_r,↑(sn:Nat),↑f_m,.slice A2 fd.length c2] 182/\iJ wx w0 (.slice A2 fd.length c2) fd/\Below w0 w0 wx/\w0.heap.size<=a)
 case first=>
  refine cW (S:=λW=>W.cell? (w,0)=some ↑h.a/\W.cell? (w,1)=some ↑h.b/\W.cell? (w,2)=some (.slice Ax h.x.length cx)/\W.cell? (w,3)=some (.slice Ay h.y.length cy)) (by kernel_rfl) S0.o (λhHeld=>?_);refine wT 0 8 ?_;refine wT 1 9 ?_;refine wT 2 10 ?_;refine wT 3 11 ?_;refine wT 4 12 ?_;refine wT 6 14 ?_;refine wT 7 15 ?_;refine wT 8 16 ?_;refine wT 9 17 ?_;refine aM (rs:=[5,15]) (by kernel_rfl) (by simp) ?_;refine(aA rfl (λK hK=>?_) (aA rfl (λK hK=>?_) aG))
  ·skip
   go_simp;refine(HTx _).o.mono ?_;rintro _ _ ⟨rfl,rfl⟩;refine hK.o _ _ (HH.o _ br) (λhHeld=>?_);clear hK K
   try simp only[qq]
   refine aM (rs:=[10,15]) (by kernel_rfl) (by simp) ?_;refine(aA rfl (λK hK=>?_) (aA rfl (λK hK=>?_) aG))
   ·skip
    go_simp;refine(HTy _).o.mono ?_;rintro _ _ ⟨rfl,rfl⟩;refine hK.o _ _ (HH.o _ br) (λhHeld=>?_);clear hK K
    try simp only[qq]
    refine aM (rs:=[11,15]) (by kernel_rfl) (by simp) ?_;refine(aA rfl (λK hK=>?_) (aA rfl (λK hK=>?_) aG))
    ·skip
     go_simp;refine(HF _ (b0.trans (br.mono b0.size))).o.mono ?_;rintro _ w13 ⟨v,rfl,hv,d13⟩;obtain⟨A2,c2,rfl,-⟩:=hv.sees.at_;unfold frV;simp only
     (try simp only at hv)
     have b13:=br.trans (d13.mono br.size);refine hK.o _ _ (HH.o _ b13) (λhHeld=>?_);clear hK K
     try simp only[qq]
     refine wT 12 7 ?_;refine wT 13 20 ?_;refine wT 14 21 ?_;refine aM (rs:=[15]) (by kernel_rfl) (by simp) ?_;refine(aA rfl (λK hK=>?_) aG);go_simp;have b14:=b13.alloc b13.size (.cells zF 182);have X14:=aJ w13 (w13).heap.size rfl zF 182;refine hK.o _ _ (HH.o _ b14) (λhHeld=>?_);clear hK K
     try simp only[qq]
     refine aM (rs:=[16]) (by kernel_rfl) (by simp) ?_;refine(aA rfl (λK hK=>?_) aG);have y0:=X14.cell 0 (x:=↑(0:Int)) rfl;have z0:=X14.frozen 0;have y1:=X14.cell 1 (x:=↑(0:Int)) rfl;have z1:=X14.frozen 1;have y2:=X14.cell 2 (x:=↑(0:Int)) rfl;have z2:=X14.frozen 2;have y3:=X14.cell 3 (x:=↑(0:Int)) rfl;have z3:=X14.frozen 3;have y4:=X14.cell 4 (x:=.slice none 0 0) rfl;have z4:=X14.frozen 4;go_simp;have XF:=aJ w13 (w13).heap.size rfl #[↑fk,↑f_r,↑(sn:Nat),↑f_m,.slice A2 fd.length c2] 182;have bF:=b13.alloc b13.size (.cells #[↑fk,↑f_r,↑(sn:Nat),↑f_m,.slice A2 fd.length c2] 182);have le:w0.heap.size<=(w13).heap.size:=b13.size;refine hK.o _ _ (HH.o _ bF) (λhHeld=>?_);clear y0 z0 y1 z1 y2 z2 y3 z3 y4 z4;clear hK K
     try simp only[qq]
     refine wT 17 5 ?_;refine bP (by kernel_rfl) ?_ _;have hv5:=hv.alloc (.cells #[↑fk,↑f_r,↑(sn:Nat),↑f_m,.slice A2 fd.length c2] 182);go_wp2_with fail
     go_meet
     exact⟨_,A2,c2,rfl,rfl,XF,hv5.base (by have:=br.size;first|(simp;done)|(simp at this ⊢;omega)),bF,le⟩
    ·skip
     go_simp;have b16:=br.alloc br.size (.cells zF 182);have X16:=aJ w0.drew w0 rfl zF 182;refine hK.o _ _ (HH.o _ b16) (λhHeld=>?_);clear hK K
     try simp only[qq]
     refine aM (rs:=[11]) (by kernel_rfl) (by simp) ?_;refine(aA rfl (λK hK=>?_) aG);go_simp;refine(HF _ (b0.trans (b16.mono b0.size))).o.mono ?_;rintro _ w17 ⟨v,rfl,hv,d17⟩;obtain⟨A2,c2,rfl,-⟩:=hv.sees.at_;unfold frV;simp only
     (try simp only at hv)
     have b17:=b16.trans (d17.mono b16.size);have iV:=X16.below d17 X16.lt;refine hK.o _ _ (HH.o _ b17) (λhHeld=>?_);clear hK K
     try simp only[qq]
     refine wT 12 7 ?_;refine wT 13 20 ?_;refine wT 14 21 ?_;refine aM (rs:=[16]) (by kernel_rfl) (by simp) ?_;refine(aA rfl (λK hK=>?_) aG);have y0:=iV.cell 0 (x:=↑(0:Int)) rfl;have z0:=iV.frozen 0;have y1:=iV.cell 1 (x:=↑(0:Int)) rfl;have z1:=iV.frozen 1;have y2:=iV.cell 2 (x:=↑(0:Int)) rfl;have z2:=iV.frozen 2;have y3:=iV.cell 3 (x:=↑(0:Int)) rfl;have z3:=iV.frozen 3;have y4:=iV.cell 4 (x:=.slice none 0 0) rfl;have z4:=iV.frozen 4;go_simp;have le:w0.heap.size<=w0.heap.size:=br.size;have XF:Blk _ w0 #[↑fk,↑f_r,↑(sn:Nat),↑f_m,.slice A2 fd.length c2] 182:=(((((iV.set 0 ↑fk).set 1 ↑f_r).set 2 ↑(sn:Nat)).set 3 ↑f_m).set 4 (.slice A2 fd.length c2)).eq (by simp);have bF:=(((((b17.setCell (p:=(w0.heap.size,0)) le ↑fk).setCell (p:=(w0.heap.size,1)) le ↑f_r).setCell (p:=(w0.heap.size,2)) le ↑(sn:Nat)).setCell (p:=(w0.heap.size,3)) le ↑f_m).setCell (p:=(w0.heap.size,4)) le (.slice A2 fd.length c2));refine hK.o _ _ (HH.o _ bF) (λhHeld=>?_);clear y0 z0 y1 z1 y2 z2 y3 z3 y4 z4;clear hK K
     try simp only[qq]
     refine wT 17 5 ?_;refine bP (by kernel_rfl) ?_ _;have hv5:=(((((hv.iN (w0,0) ↑fk (by simp)).iN (w0,1) ↑f_r (by simp)).iN (w0,2) ↑(sn:Nat) (by simp)).iN (w0,3) ↑f_m (by simp)).iN (w0,4) (.slice A2 fd.length c2) (by simp));go_wp2_with fail
     go_meet
     exact⟨_,A2,c2,rfl,rfl,XF,hv5.base (by have:=br.size;first|(simp;done)|(simp at this ⊢;omega)),bF,le⟩
   ·skip
    go_simp;have b19:=br.alloc br.size (.cells zF 182);have X19:=aJ w0.drew w0 rfl zF 182;refine hK.o _ _ (HH.o _ b19) (λhHeld=>?_);clear hK K
    try simp only[qq]
    refine aM (rs:=[10]) (by kernel_rfl) (by simp) ?_;refine(aA rfl (λK hK=>?_) aG);go_simp;refine(HTy _).o.mono ?_;rintro _ _ ⟨rfl,rfl⟩;refine hK.o _ _ (HH.o _ b19) (λhHeld=>?_);clear hK K
    try simp only[qq]
    refine aM (rs:=[11]) (by kernel_rfl) (by simp) ?_;refine(aA rfl (λK hK=>?_) aG);go_simp;refine(HF _ (b0.trans (b19.mono b0.size))).o.mono ?_;rintro _ w21 ⟨v,rfl,hv,d21⟩;obtain⟨A2,c2,rfl,-⟩:=hv.sees.at_;unfold frV;simp only
    (try simp only at hv)
    have b21:=b19.trans (d21.mono b19.size);have iW:=X19.below d21 X19.lt;refine hK.o _ _ (HH.o _ b21) (λhHeld=>?_);clear hK K
    try simp only[qq]
    refine wT 12 7 ?_;refine wT 13 20 ?_;refine wT 14 21 ?_;refine aM (rs:=[16]) (by kernel_rfl) (by simp) ?_;refine(aA rfl (λK hK=>?_) aG);have y0:=iW.cell 0 (x:=↑(0:Int)) rfl;have z0:=iW.frozen 0;have y1:=iW.cell 1 (x:=↑(0:Int)) rfl;have z1:=iW.frozen 1;have y2:=iW.cell 2 (x:=↑(0:Int)) rfl;have z2:=iW.frozen 2;have y3:=iW.cell 3 (x:=↑(0:Int)) rfl;have z3:=iW.frozen 3;have y4:=iW.cell 4 (x:=.slice none 0 0) rfl;have z4:=iW.frozen 4;go_simp;have le:w0.heap.size<=w0.heap.size:=br.size;have XF:Blk _ w0 #[↑fk,↑f_r,↑(sn:Nat),↑f_m,.slice A2 fd.length c2] 182:=(((((iW.set 0 ↑fk).set 1 ↑f_r).set 2 ↑(sn:Nat)).set 3 ↑f_m).set 4 (.slice A2 fd.length c2)).eq (by simp);have bF:=(((((b21.setCell (p:=(w0.heap.size,0)) le ↑fk).setCell (p:=(w0.heap.size,1)) le ↑f_r).setCell (p:=(w0.heap.size,2)) le ↑(sn:Nat)).setCell (p:=(w0.heap.size,3)) le ↑f_m).setCell (p:=(w0.heap.size,4)) le (.slice A2 fd.length c2));refine hK.o _ _ (HH.o _ bF) (λhHeld=>?_);clear y0 z0 y1 z1 y2 z2 y3 z3 y4 z4;clear hK K
    try simp only[qq]
    refine wT 17 5 ?_;refine bP (by kernel_rfl) ?_ _;have hv5:=(((((hv.iN (w0,0) ↑fk (by simp)).iN (w0,1) ↑f_r (by simp)).iN (w0,2) ↑(sn:Nat) (by simp)).iN (w0,3) ↑f_m (by simp)).iN (w0,4) (.slice A2 fd.length c2) (by simp));go_wp2_with fail
    go_meet
    exact⟨_,A2,c2,rfl,rfl,XF,hv5.base (by have:=br.size;first|(simp;done)|(simp at this ⊢;omega)),bF,le⟩
  ·skip
   go_simp;have b23:=br.alloc br.size (.cells zF 182);have X23:=aJ w0.drew w0 rfl zF 182;refine hK.o _ _ (HH.o _ b23) (λhHeld=>?_);clear hK K
   try simp only[qq]
   refine aM (rs:=[5]) (by kernel_rfl) (by simp) ?_;refine(aA rfl (λK hK=>?_) aG);go_simp;refine(HTx _).o.mono ?_;rintro _ _ ⟨rfl,rfl⟩;refine hK.o _ _ (HH.o _ b23) (λhHeld=>?_);clear hK K
   try simp only[qq]
   refine aM (rs:=[10]) (by kernel_rfl) (by simp) ?_;refine(aA rfl (λK hK=>?_) aG);go_simp;refine(HTy _).o.mono ?_;rintro _ _ ⟨rfl,rfl⟩;refine hK.o _ _ (HH.o _ b23) (λhHeld=>?_);clear hK K
   try simp only[qq]
   refine aM (rs:=[11]) (by kernel_rfl) (by simp) ?_;refine(aA rfl (λK hK=>?_) aG);go_simp;refine(HF _ (b0.trans (b23.mono b0.size))).o.mono ?_;rintro _ w26 ⟨v,rfl,hv,d26⟩;obtain⟨A2,c2,rfl,-⟩:=hv.sees.at_;unfold frV;simp only
   (try simp only at hv)
   have b26:=b23.trans (d26.mono b23.size);have iX:=X23.below d26 X23.lt;refine hK.o _ _ (HH.o _ b26) (λhHeld=>?_);clear hK K
   try simp only[qq]
   refine wT 12 7 ?_;refine wT 13 20 ?_;refine wT 14 21 ?_;refine aM (rs:=[16]) (by kernel_rfl) (by simp) ?_;refine(aA rfl (λK hK=>?_) aG);have y0:=iX.cell 0 (x:=↑(0:Int)) rfl;have z0:=iX.frozen 0;have y1:=iX.cell 1 (x:=↑(0:Int)) rfl;have z1:=iX.frozen 1;have y2:=iX.cell 2 (x:=↑(0:Int)) rfl;have z2:=iX.frozen 2;have y3:=iX.cell 3 (x:=↑(0:Int)) rfl;have z3:=iX.frozen 3;have y4:=iX.cell 4 (x:=.slice none 0 0) rfl;have z4:=iX.frozen 4;go_simp;have le:w0.heap.size<=w0.heap.size:=br.size;have XF:Blk _ w0 #[↑fk,↑f_r,↑(sn:Nat),↑f_m,.slice A2 fd.length c2] 182:=(((((iX.set 0 ↑fk).set 1 ↑f_r).set 2 ↑(sn:Nat)).set 3 ↑f_m).set 4 (.slice A2 fd.length c2)).eq (by simp);have bF:=(((((b26.setCell (p:=(w0.heap.size,0)) le ↑fk).setCell (p:=(w0.heap.size,1)) le ↑f_r).setCell (p:=(w0.heap.size,2)) le ↑(sn:Nat)).setCell (p:=(w0.heap.size,3)) le ↑f_m).setCell (p:=(w0.heap.size,4)) le (.slice A2 fd.length c2));refine hK.o _ _ (HH.o _ bF) (λhHeld=>?_);clear y0 z0 y1 z1 y2 z2 y3 z3 y4 z4;clear hK K
   try simp only[qq]
   refine wT 17 5 ?_;refine bP (by kernel_rfl) ?_ _;have hv5:=(((((hv.iN (w0,0) ↑fk (by simp)).iN (w0,1) ↑f_r (by simp)).iN (w0,2) ↑(sn:Nat) (by simp)).iN (w0,3) ↑f_m (by simp)).iN (w0,4) (.slice A2 fd.length c2) (by simp));go_wp2_with fail
   go_meet
   exact⟨_,A2,c2,rfl,rfl,XF,hv5.base (by have:=br.size;first|(simp;done)|(simp at this ⊢;omega)),bF,le⟩
 case rest=>
  obtain⟨fa,A2,c2,rfl,rfl,hF,hv,bc,hfa⟩:=hcut;have hXc:=hX0.below bc hX0.lt;have bw:=b0.trans (bc.mono b0.size);have hmc:=hk.o _ bw;have kc:=af (iZ (G:=G) bw);have hGc:=Gp.gn hG bw.size;have hsz:=b0.size;clear S0 HH HTx HTy HF hk hX0 br;have hA:=af (qi b _ g m x 3 wc hmc hGc);go_wp2_with fail;refine hA.o.mono ?_;rintro _ w2 ⟨rfl,⟨x2,h2⟩,k2⟩;have hK:Hid (∀W,KG (Gp G w wc) wc W->Blk W fa #[↑fk,↑f_r,↑(sn:Nat),↑f_m,.slice A2 fd.length c2] 182/\Blk W w (aH h (.slice Ax h.x.length cx) (.slice Ay h.y.length cy)) 153/\iI W W (.slice A2 fd.length c2) fd/\GN (Gp G w wc) W):=af λW k=>
   ⟨k.blk (by omega) hF,k.blk lr hXc,k.xI hv.sees (λk h0 e=>by have:=(hv.lt k e).1;omega),hGc.up k.size⟩
  clear hA hF hXc hv hmc hGc;have hg:=h2.G_;obtain⟨hF2,-,-,-⟩:=hK.o w2 k2;have h2:RA false (Gp G w wc) w2 g (m.anew 3) x2:=h2;have c7:=h2.c7;have c8:=h2.c8;have f7:=h2.frozen 7;have f8:=h2.frozen 8;have y1:=hF2.cell 1 (x:=↑f_r) rfl;have y2:=hF2.cell 2 (x:=↑(sn:Nat)) rfl;have h3:Hid (RA false (Gp G w wc) ((w2.setCell (g,7) ↑f_r).setCell (g,8) ↑(sn:Nat)).drew g ({m.anew 3 with rd:=f_r,sl:=sn}:NM) x2):=af ((h2.sRd f_r).sSl sn).drew;have k3:Hid (KG (Gp G w wc) wc ((w2.setCell (g,7) ↑f_r).setCell (g,8) ↑(sn:Nat)).drew):=af ((k2.trans ((((aE g w2).set 7 _).set 8 _).kg hg)).trans (iZ (ah _ _).drew));clear h2 hF2;have HS:∀W,KG (Gp G w wc) wc W->(W.cell? (fa,1)=some ↑f_r/\W.cell? (fa,2)=some ↑(sn:Nat)):=λW k=>⟨(hK.o W k).1.cell 1 rfl,(hK.o W k).1.cell 2 rfl⟩;have S0:=af (HS _ (k2.trans (iZ (ah _ w2).drew)));have S1:=af (HS _ ((k2.trans (iZ (ah _ w2).drew)).trans (((aE g w2.drew).set 7 ↑f_r).kg hg)));have S2:=af (HS _ (((k2.trans (iZ (ah _ w2).drew)).trans (((aE g w2.drew).set 7 ↑f_r).kg hg)).trans (((aE g _).set 8 ↑(sn:Nat)).kg hg)));clear k2 HS;go_wp2_with fail
  go_region_held3 (λW=>W.cell? (fa,1)=some ↑f_r/\W.cell? (fa,2)=some ↑(sn:Nat)) ((first|exact S0.o|exact S1.o|exact S2.o)) (fail)
  clear y1 y2 c7 c8 f7 f8 S0 S1 S2;generalize(World.setCell _ (g,8) _).drew=w3 at *;obtain⟨hF3,-,-,hG3⟩:=hK.o w3 k3.o;have y3:=hF3.cell 3 (x:=↑f_m) rfl;have hNw:=af (xq f_m w3);go_wp2_with fail;refine hNw.o.mono ?_;rintro _ w4 ⟨rfl,hT4,b4,-⟩;have h4':=h3.o.below b4;have c9:=h4'.c9;have f9:=h4'.frozen 9;have h4:=h3.o.DU b4 rfl hT4 (hG3 _ lr);have k4:Hid (KG (Gp G w wc) wc (w4.setCell (g,9) ↑(w3,0))):=af ((k3.o.trans (iZ b4)).trans (((aE g w4).set 9 _).kg hg));clear h3 k3 hF3 hG3 y3 hNw h4' hT4;go_wp2_with fail;clear c9 f9;generalize World.setCell _ (g,9) _=w5 at *;generalize({x2 with m:=w3.heap.size}:RX)=x5 at *;have hd5:=h4.drew;have hgm:=h4.gs x5.m (by simp[RX.own]);have hne:=h4.ne.2.2.2.2.2.1;have S0:Hid (w5.drew.cell? (g,9)=some ↑(x5.m,0)/\w5.drew.cell? (g,8)=some ↑(sn:Nat)):=af ⟨hd5.c9,hd5.c8⟩;have hR:=af (xJ x5.m ⟨(f_m%256).toNat,0,0⟩ (sn:Nat) w5.drew hd5.ty (by show 0<1000;omega));have hUp:=af (λw6 ty(hT:TAt 164 w6 x5.m ty)(o:Only x5.m w5.drew w6)=>hd5.upM hT o);clear h4 hd5
  go_region_held3 (λW=>W.cell? (g,9)=some ↑(x5.m,0)/\W.cell? (g,8)=some ↑(sn:Nat)) ((first|exact S0.o|exact S1.o))
   (first
    |(go_at_call 128;refine hR.o.mono ?_;rintro _ w6 ⟨rfl,hT6,o6⟩;(have h6:=hUp.o w6 _ hT6 o6);(have S1:Hid (w6.cell? (g,9)=some ↑(x5.m,0)/\w6.cell? (g,8)=some (.int .i64 (sn:Nat))):=af ⟨h6.c9,h6.c8⟩);(have k6:=af ((k4.o.trans (iZ (ah _ w5).drew)).trans (o6.kg hgm))))
    |fail)
  clear S0 S1 hR hUp hT6 o6 k4;obtain⟨ty,xK⟩:∃ty,TS.right ⟨(f_m%256).toNat,0,0⟩ (sn:Nat)=ty:=⟨_,rfl⟩;rw[xK]at h6;have hty:=af xK;clear xK;have h6:RA false (Gp G w wc) w6 g ({m.anew 3 with rd:=f_r,sl:=sn,ty:=ty}:NM) x5:=h6;have hwr:IntKind.i64.wrap (m.tm+h.o)=m.tm+h.o:=aO _ (by omega);have f10:=h6.frozen 10;have c10:w6.cell? (g,10)=some ↑m.tm:=h6.c10;obtain⟨-,hX6,-,-⟩:=hK.o w6 k6.o;have y4:=hX6.cell 4 (x:=↑h.o) rfl;have h7:Hid (RA false (Gp G w wc) (w6.setCell (g,10) ↑(m.tm+h.o:Int)).drew g ({m.anew 3 with rd:=f_r,sl:=sn,ty:=ty,tm:=m.tm+h.o}:NM) x5):=af (h6.sTm (m.tm+h.o)).drew;have k7:Hid (KG (Gp G w wc) wc (w6.setCell (g,10) ↑(m.tm+h.o:Int)).drew):=af ((k6.o.trans (((aE g w6).set 10 _).kg hg)).trans (iZ (ah _ _).drew));clear h6 k6 hX6;go_wp2_with fail
  go_still_tail 10,(by kernel_rfl)
  change wpList _ _ _ _ _ w6.drew;go_wp2_with fail;clear c10 f10 y4;generalize(World.setCell _ (g,10) _).drew=w7 at *;have hd7:=h7.o.drew;have kd7:=af (k7.o.trans (iZ (ah _ w7).drew));obtain⟨hF7,-,hs7,hG7⟩:=hK.o w7.drew kd7.o;have HS:∀W(m':NM),m'.sl=sn->RA false (Gp G w wc) W g m' x5->KG (Gp G w wc) wc W->(W.cell? (g,13)=some ↑(x5.s,0)/\W.cell? (g,8)=some ↑(sn:Nat)/\W.cell? (fa,4)=some (.slice A2 fd.length c2)):=λW m' e h k=>⟨h.c13,e▸h.c8,(hK.o W k).1.cell 4 rfl⟩;have S0:=af (HS _ _ rfl hd7 kd7.o);have hgs:=hd7.gs x5.s (by simp[RX.own]);have hP:=af (xL (Gp G w wc) (x5.own g) x5.s MS.new (sn:Nat) (.slice A2 fd.length c2) fd w7.drew w7.drew hd7.so (by simp[RX.own]) (λf hf=>hd7.lts f (aT _ hf)) hG7 hs7 hd);have hUp:=af (λw8 so(hT:SRt (Gp G w wc) (x5.own g) w8 x5.s so)(o:Only x5.s w7.drew w8)=>hd7.upS hT o);have HSH:=af HS;clear h7 k7 hF7 hs7 hG7 hd7 HS;go_wp2_with fail
  go_region_held3 (λW=>W.cell? (g,13)=some ↑(x5.s,0)/\W.cell? (g,8)=some ↑(sn:Nat)/\W.cell? (fa,4)=some (.slice A2 fd.length c2)) ((first|exact S0.o|exact S1.o))
   (first
    |(go_at_call 129;refine hP.o.mono ?_;rintro _ w8 ⟨rfl,hT8,o8⟩;(have h8:=hUp.o w8 _ hT8 o8);(have k8:=af (kd7.o.trans (o8.kg hgs)));(have S1:=af (HSH.o w8 _ rfl h8 k8.o)))
    |fail)
  clear S0 S1 HSH hP hUp hT8 o8 kd7;obtain⟨so,hso⟩:∃so,MS.put MS.new (sn:Nat) fd=so:=⟨_,rfl⟩;rw[hso]at h8;have OI:=af hso;clear hso;have h8:=af (show RA false (Gp G w wc) w8 g ({m.anew 3 with rd:=f_r,sl:=sn,ty:=ty,tm:=m.tm+h.o,so:=so}:NM) x5 from h8);have hst:Hid (RA false (Gp G w wc) w8 g ({m.anew 3 with rd:=f_r,sl:=sn,ty:=ty,tm:=m.tm+h.o,so:=gk so ty.m 0}:NM) x5):=af (h8.o.upS (h8.o.so.alike (s':=gk so ty.m 0) (λ_ _=>rfl) (λ_ _=>rfl) (λi _=>rfl)) (aE _ _));clear h8;go_wp2_with fail
  go_loopw [6] (λi wr=>∃k:Nat,k<=8/\i=↑k/\RA false (Gp G w wc) wr g ({m.anew 3 with rd:=f_r,sl:=sn,ty:=ty,tm:=m.tm+h.o,so:=gk so ty.m k}:NM) x5/\KG (Gp G w wc) wc wr) (λi _=>8-(intOf i).toNat)
  case atStart=>exact⟨0,by omega,rfl,hst.o,k8.o⟩
  case round=>
   clear hst k8;obtain⟨k,hk8,rfl,h9,k9⟩:=hrel;by_cases hlt:k<8
   ·have r1:decide ((k:Int)<8)=true:=av (by omega)
    have hd9:=h9.drew;have kd9:=af k9;have HS:∀W(m':NM),RA false (Gp G w wc) W g m' x5->(W.cell? (g,13)=some ↑(x5.s,0)/\W.cell? (g,9)=some ↑(x5.m,0)):=λW m' h=>⟨h.c13,h.c9⟩;have S0:=af (HS _ _ hd9);have hI:=af (uD x5.m ty (k:Nat) wr.drew hd9.ty);have hM:=af (λn=>uE (Gp G w wc) (x5.own g) x5.s (gk so ty.m k) (k:Nat) (isB ty.m (k:Nat)) (wr.drewN n) (h9.drewN n).so (by simp[RX.own]));have hUp:=af (λn w8 so(hT:SRt (Gp G w wc) (x5.own g) w8 x5.s so)(o:Only x5.s (wr.drewN n) w8)=>(h9.drewN n).upS hT o);have S1:=af (λn=>HS _ _ (h9.drewN n));have HSH:=af HS;clear h9 k9 hd9 HS;go_wp2_with fail
    go_region_held3 (λW=>W.cell? (g,13)=some ↑(x5.s,0)/\W.cell? (g,9)=some ↑(x5.m,0)) ((first|exact S0.o|exact S1.o _|exact S2.o))
     (first
      |(go_at_call 133;refine hI.o.mono ?_;rintro _ _ ⟨rfl,n,rfl⟩)
      |(go_at_call 132;refine(hM.o (1+n)).mono ?_;rintro _ w8 ⟨rfl,hT8,o8⟩;(have h8:=hUp.o (1+n) w8 _ (SRt.alike hT8 (s':=gk so ty.m (k+1)) (λi _=>by simp[MS.member];split<;>rfl) (λi _=>by simp[MS.member];split<;>rfl) (λi _=>OH so ty.m k hlt i)) o8);(have k10:=af ((kd9.o.trans (iZ (aC (ah _ wr) (1+n)))).trans (o8.kg hgs)));(have S2:=af (HSH.o w8 _ h8)))
      |fail)
    have h8:=af h8;clear S0 S1 S2 HSH hI hM hUp hT8 o8 kd9;go_wp2;go_roundw
    case rel=>exact⟨k+1,by omega,by go_num,h8.o,k10.o⟩
    case measure=>simp[intOf];omega
   ·obtain rfl:k=8:=by omega
    have e:({m.anew 3 with rd:=f_r,sl:=sn,ty:=ty,tm:=m.tm+h.o,so:=gk so ty.m 8}:NM)=m.knows ⟨fk,⟨f_r,(sn:Nat),f_m⟩,fd⟩ h.o:=by
     rw[<-hty.o,<-OI.o]
     rfl
    rw[e]at h9;obtain⟨-,-,-,hG9⟩:=hK.o wr k9;have hO:=af (oU false (Gp G w wc) g _ x5 wr h9 hG9 hN.o);unfold OnC at hO;have k9:=af k9;clear h9 e hK;go_wp2_with fail;refine hO.o.mono ?_;rintro _ w9 ⟨rfl,h10,k10⟩;have hfin:=af (h10.up);have oV:=af (kc.o.trans ((k9.o.trans k10).up));clear hO h10 k10 k9;go_wp2;exact aD (ax (by rfl) _ _ _) rfl ⟨rfl,hfin.o,oV.o⟩
end
section
set_option maxRecDepth 100000
set_option maxHeartbeats 4000000
open Go.RowKit
open Fr (St F)
theorem Ee(b:Bool)(G:GS)(g:Nat)(m:NM)(xx:RX)(h:Hn)(vx vy:Value)(W:World)(hh:HOk W h vx vy)(hm:RA b G W g m xx)(hsl:m.sl<8):
  Calls Tryz.prog 126 #[↑(g,0),jZ h.a vx,jZ h.b vy] W (Fst W m.own (λf:F=>decide (f.k≠3/\f.st=m.own)) h):=
 (NR b G g m xx _ _ _ _ W (uq hh.x) (uz hh.bx) (uq hh.y) (uz hh.by_) hm hsl).mono λ_ _ h=>DX h
theorem OJ(b:Bool)(G:GS)(g:Nat)(m:NM)(xx:RX)(h:Hn)(vx vy:Value)(hsl:m.sl<8)(W:World)(hh:HOk W h vx vy)(hm:RA b G W g m xx)(hn:m.lg h=none):
  Calls Tryz.prog 126 #[↑(g,0),jZ h.a vx,jZ h.b vy] W λe w'=>e=.returned (.tuple #[.agg #[↑(0:Int),↑(0:Int),↑(0:Int),↑(0:Int),.slice none 0 0],↑false])/\Below W W w':=
 (Ee b G g m xx h vx vy W hh hm hsl).mono λe w' hF=>by
  unfold Fst at hF;rw[tL,hn]at hF;exact hF
theorem Ef(b:Bool)(G:GS)(g:Nat)(m:NM)(xx:RX)(h:Hn)(vx vy:Value)(l:List Int)(hsl:m.sl<8)(W:World)(hh:HOk W h vx vy)(hm:RA b G W g m xx)(hn:m.lg h=some l):
  Calls Tryz.prog 126 #[↑(g,0),jZ h.a vx,jZ h.b vy] W λe w'=>∃v,e=.returned (.tuple #[frV (Fr.res l m.own) v,↑true])/\iJ w' W v (Fr.res l m.own).d/\Below W W w':=
 (Ee b G g m xx h vx vy W hh hm hsl).mono λe w' hF=>by
  unfold Fst at hF;rw[tL,hn]at hF;exact hF
def Tke(G:GS)(g:Nat)(m':NM)(h:Hn)(vx vy:Value)(w:World):Prop:=Calls Tryz.prog 76 #[↑(g,0),hdV h vx vy] w λe w'=>e=.returned (.tuple #[])/\RL G w' g m'/\KG G w w'
theorem NS(b:Bool)(G:GS)(g:Nat)(m:NM)(x:RX)(h:Hn)(vx vy:Value)(w:World)(hm:RA b G w g m x)(hh:HOk w h vx vy)(hst:m.st=0\/m.st=5):Tke G g m h vx vy w:=by
 unfold Tke;have hb0:=(ah w w).alloc lr (.cells (aH h vx vy) 153);have hX0:=aJ w w rfl (aH h vx vy) 153;have hm0:=hm.below hb0;obtain⟨Ax,cx,rfl,-⟩:=hh.x.at_;obtain⟨Ay,cy,rfl,-⟩:=hh.y.at_;have c6:=hm0.c6;have hk:=af hm0;clear hm hm0 hh hX0;unfold hdV;rcases hst with e|e
 all_goals
  rw[e]at c6;clear e
  go_enter Tryz.func76,Tryz.ntmps76
  go_wp2;exact aK (v:=.tuple #[]) (ax (by rfl) _ _ _) rfl ⟨rfl,⟨b,x,hk.o⟩,iZ hb0⟩
theorem DZ(b b2:Bool)(G:GS)(g:Nat)(m m2:NM)(x:RX)(h:Hn)(vx vy:Value)(w:World)(hm:RA b G w g m x)(hh:HOk w h vx vy)(hst:m.st=1)(HL:∀W,Below w w W->Calls Tryz.prog 123 #[↑(g,0),hdV h vx vy] W λe w'=>e=.returned (.tuple #[])/\RS b2 G w' g m2/\KG G W w'):Tke G g m2 h vx vy w:=by
 unfold Tke;have hb0:=(ah w w).alloc lr (.cells (aH h vx vy) 153);have hX0:=aJ w w rfl (aH h vx vy) 153;have hm0:=hm.below hb0;obtain⟨Ax,cx,rfl,-⟩:=hh.x.at_;obtain⟨Ay,cy,rfl,-⟩:=hh.y.at_;have c6:=hm0.c6;rw[hst]at c6;have hc0:=hX0.cell 0 (x:=↑h.a) rfl;have hc1:=hX0.cell 1 (x:=↑h.b) rfl;have hc2:=hX0.cell 2 (x:=.slice Ax h.x.length cx) rfl;have hc3:=hX0.cell 3 (x:=.slice Ay h.y.length cy) rfl;have hc4:=hX0.cell 4 (x:=↑h.o) rfl;have H:=af (HL _ hb0);clear hm hm0 hh hX0 hst HL;unfold hdV at H ⊢
 go_enter Tryz.func76,Tryz.ntmps76
 go_wp2_with fail;refine H.o.mono ?_;rintro _ w2 ⟨rfl,h2,k2⟩;have hf:=af h2;have kf:=af ((iZ (G:=G) hb0).trans k2);clear hc0 hc1 hc2 hc3 hc4 H h2 k2;go_wp2;exact aK (v:=.tuple #[]) (ax (by rfl) _ _ _) rfl ⟨rfl,⟨b2,hf.o⟩,kf.o⟩
theorem Eg(l:List Int)(n:Int):iT l n≠[]:=by
 unfold iT
 split<;>simp
theorem Eh(l:List Int)(n:Int)(h:l.length<=4):(iT l n).length<=4:=by
 unfold iT
 split
 ·simp;omega
 ·simp;omega
theorem NY(G:GS)(g:Nat)(m:NM)(x:RX)(h:Hn)(vx vy:Value)(w:World)(hm:RA true G w g m x)(hG:GN G w)(hh:HOk w h vx vy)(hst:m.st=2\/m.st=3\/m.st=4)(hs:m.sl=m.i)(hi:m.i<m.t.ns.length)(hsy:m.me.sy=true)(hN:NG ({m with ck:=iT m.ck 0}:NM)):Tke G g ({m with ck:=iT m.ck 0}:NM).goOn h vx vy w:=by
 unfold Tke;have hb0:=(ah w w).alloc lr (.cells (aH h vx vy) 153);have hX0:=aJ w w rfl (aH h vx vy) 153;have hm0:=hm.below hb0;obtain⟨Ax,cx,rfl,-⟩:=hh.x.at_;obtain⟨Ay,cy,rfl,-⟩:=hh.y.at_;have c6:=hm0.c6;have c8:=hm0.c8;have c4:=hm0.c4;have c17:=hm0.c17;rw[hs]at c8;obtain⟨bl,off,cn,c0,hbl,⟨d0,-,-,-⟩,hcn⟩:=hm0.lV hi;have d0:(w.alloc (.cells (aH h (.slice Ax h.x.length cx) (.slice Ay h.y.length cy)) 153)).cell? (bl,off+m.i*4)=some ↑m.me.sy:=d0;rw[hsy]at d0;have hG0:=hG.up hb0.size;have hg:=hm0.G_;have hm0:=af hm0;have hN:=af hN;clear hm hh hX0 hs;unfold hdV;obtain⟨i,hie⟩:∃i,m.i=i:=⟨_,rfl⟩;obtain⟨N,hNe⟩:∃N,m.t.ns.length=N:=⟨_,rfl⟩;rw[hie]at c8 c4 d0;rw[hNe]at c0 hcn;have hiN:i<N:=by rw[<-hie,<-hNe];exact hi
 clear hie hNe hi;rcases hst with e|e|e
 all_goals
  rw[e]at c6;clear e
  go_enter Tryz.func76,Tryz.ntmps76
  go_wp2_with fail;clear c6 c8 c4 c17 c0 d0;generalize w.alloc (.cells (aH h (.slice Ax h.x.length cx) (.slice Ay h.y.length cy)) 153)=w0 at *;obtain⟨cc,L,hcc,hup⟩:=hm0.o.clock;have hM:=af (Ei cc g _ L _ 0 w0 hcc hm0.o.cko);refine hM.o.mono ?_;rintro _ w2 ⟨rfl,⟨v',hc2,hf2⟩,o2⟩;have h2:=hup _ _ _ hc2 o2 (λk e=>⟨hf2 k e,Eg _ _⟩) (Eh _ _ hm0.o.cko) (λk hk=>hG0 k hk);have k2:=af ((iZ (G:=G) hb0).trans (o2.kg hg));have hO:=af (oU true G g _ x w2 h2 (hG0.up o2.size) hN.o);unfold OnC at hO;clear hM hcc hup hc2 hf2 o2 h2;go_wp2_with fail;refine hO.o.mono ?_;rintro _ w3 ⟨rfl,h3,k3⟩;have hf:=af h3;have kf:=af (k2.o.trans k3);clear hO k2 h3 k3 hm0;go_wp2;exact aK (v:=.tuple #[]) (ax (by rfl) _ _ _) rfl ⟨rfl,⟨_,hf.o⟩,kf.o⟩
theorem NZ(G:GS)(g:Nat)(m:NM)(x:RX)(h:Hn)(vx vy:Value)(w:World)(hm:RA true G w g m x)(hG:GN G w)(hh:HOk w h vx vy)(hst:m.st=2\/m.st=3\/m.st=4)(hs:m.sl=m.i)(hi:m.i<m.t.ns.length)(hsy:m.me.sy=false)(hN:NG m):Tke G g (m:NM).goOn h vx vy w:=by
 unfold Tke;have hb0:=(ah w w).alloc lr (.cells (aH h vx vy) 153);have hX0:=aJ w w rfl (aH h vx vy) 153;have hm0:=hm.below hb0;obtain⟨Ax,cx,rfl,-⟩:=hh.x.at_;obtain⟨Ay,cy,rfl,-⟩:=hh.y.at_;have c6:=hm0.c6;have c8:=hm0.c8;have c4:=hm0.c4;have c17:=hm0.c17;rw[hs]at c8;obtain⟨bl,off,cn,c0,hbl,⟨d0,-,-,-⟩,hcn⟩:=hm0.lV hi;have d0:(w.alloc (.cells (aH h (.slice Ax h.x.length cx) (.slice Ay h.y.length cy)) 153)).cell? (bl,off+m.i*4)=some ↑m.me.sy:=d0;rw[hsy]at d0;have hG0:=hG.up hb0.size;have hg:=hm0.G_;have hm0:=af hm0;have hN:=af hN;clear hm hh hX0 hs;unfold hdV;obtain⟨i,hie⟩:∃i,m.i=i:=⟨_,rfl⟩;obtain⟨N,hNe⟩:∃N,m.t.ns.length=N:=⟨_,rfl⟩;rw[hie]at c8 c4 d0;rw[hNe]at c0 hcn;have hiN:i<N:=by rw[<-hie,<-hNe];exact hi
 clear hie hNe hi;rcases hst with e|e|e
 all_goals
  rw[e]at c6;clear e
  go_enter Tryz.func76,Tryz.ntmps76
  go_wp2_with fail;clear c6 c8 c4 c17 c0 d0;generalize w.alloc (.cells (aH h (.slice Ax h.x.length cx) (.slice Ay h.y.length cy)) 153)=w0 at *;have k2:=af (iZ (G:=G) hb0);have hO:=af (oU _ G g _ x w0 hm0.o hG0 hN.o);unfold OnC at hO;refine hO.o.mono ?_;rintro _ w3 ⟨rfl,h3,k3⟩;have hf:=af h3;have kf:=af (k2.o.trans k3);clear hO k2 h3 k3 hm0;go_wp2;exact aK (v:=.tuple #[]) (ax (by rfl) _ _ _) rfl ⟨rfl,⟨_,hf.o⟩,kf.o⟩
theorem N7(G:GS)(g:Nat)(m:NM)(x:RX)(h:Hn)(vx vy:Value)(w:World)(hm:RA false G w g m x)(hG:GN G w)(hh:HOk w h vx vy)(hst:m.st=2\/m.st=3\/m.st=4)(hs:m.sl=m.i)(hi:m.i<m.t.ns.length)(hN:NG m):Tke G g (m:NM).goOn h vx vy w:=by
 unfold Tke;have hb0:=(ah w w).alloc lr (.cells (aH h vx vy) 153);have hX0:=aJ w w rfl (aH h vx vy) 153;have hm0:=hm.below hb0;obtain⟨Ax,cx,rfl,-⟩:=hh.x.at_;obtain⟨Ay,cy,rfl,-⟩:=hh.y.at_;have c6:=hm0.c6;have c8:=hm0.c8;have c4:=hm0.c4;have c17:=hm0.c17;rw[hs]at c8;obtain⟨bl,off,cn,c0,hbl,⟨d0,-,-,-⟩,hcn⟩:=hm0.lV hi;have d0:(w.alloc (.cells (aH h (.slice Ax h.x.length cx) (.slice Ay h.y.length cy)) 153)).cell? (bl,off+m.i*4)=some ↑m.me.sy:=d0;have hG0:=hG.up hb0.size;have hg:=hm0.G_;have hm0:=af hm0;have hN:=af hN;clear hm hh hX0 hs;unfold hdV;obtain⟨i,hie⟩:∃i,m.i=i:=⟨_,rfl⟩;obtain⟨N,hNe⟩:∃N,m.t.ns.length=N:=⟨_,rfl⟩;rw[hie]at c8 c4 d0;rw[hNe]at c0 hcn;have hiN:i<N:=by rw[<-hie,<-hNe];exact hi
 clear hie hNe hi;rcases hst with e|e|e
 all_goals
  rw[e]at c6;clear e
  go_enter Tryz.func76,Tryz.ntmps76
  go_wp2_with fail;clear c6 c8 c4 c17 c0 d0;generalize w.alloc (.cells (aH h (.slice Ax h.x.length cx) (.slice Ay h.y.length cy)) 153)=w0 at *;have k2:=af (iZ (G:=G) hb0);have hO:=af (oU _ G g _ x w0 hm0.o hG0 hN.o);unfold OnC at hO;refine hO.o.mono ?_;rintro _ w3 ⟨rfl,h3,k3⟩;have hf:=af h3;have kf:=af (k2.o.trans k3);clear hO k2 h3 k3 hm0;go_wp2;exact aK (v:=.tuple #[]) (ax (by rfl) _ _ _) rfl ⟨rfl,⟨_,hf.o⟩,kf.o⟩
end
end Go.Proofs.YteadkhigkmijiaaGreat
