/- WardPlays holds: of every script each answer, and all that all nodes tell. For all arguments. -/
import Derived.Test.YteadkhigkmijiaaGreatPC1
import Derived.Test.YteadkhigkmijiaaGreatPC8
import Derived.Test.YteadkhigkmijiaaGreatPC40
import Derived.Test.YteadkhigkmijiaaGreatPC54
set_option linter.all false
namespace Go.Proofs.YteadkhigkmijiaaGreat
section
set_option maxRecDepth 100000
set_option maxHeartbeats 8000000
open Go.ChangeShapes Go.WideShapes Go.ChangeAt Go.RowKit
theorem SR(n:Int)(g:Nat->Int)(v:Value)(l:List Ac)(w:World)(hl:j7 w w v l):
  Calls Tryz.prog 3 #[↑n,jK g,v] w λe w'=>e=.returned ↑true/\Below w w w':=by
 have hb0:=(ah w w).alloc lr (.cells (aI g) 22);have hG:Blk (w.alloc (.cells (aI g) 22)) w (i8 g) 22:=aJ w w rfl (i8 g) 22;have hS:=af (yx v l (w.alloc (.cells (aI g) 22)) ((hl.below hb0).more hb0.size));obtain⟨A,c,rfl,-⟩:=hl.at_;have hl:=af hl;by_cases call:4<=n/\n<=8
 case neg=>
  unfold jK
  go_enter Tryz.func3,Tryz.ntmps3
  go_wp2
  all_goals first
   |(exfalso;omega)
   |(go_ret;exact⟨rfl,hb0⟩)
   |skip
 obtain⟨n4,n8⟩:=call;obtain⟨N,rfl⟩:∃t:Nat,n=t:=⟨n.toNat,by omega⟩;have q1:decide (((N:Nat):Int)<4)=false:=aj (by omega);have q2:decide ((8:Int)<((N:Nat):Int))=false:=aj (by omega);have N4:4<=N:=by omega
 have N8:N<=8:=by omega
 have hs:=λW=>af (show Calls Tryz.prog 8 #[↑(N:Nat),↑(2:Int)] W λe w'=>∃v,e=.returned (.agg #[v,↑(2:Int),↑(14:Int),↑(17:Int)])/\jm w' W v (jQ N)/\Below W W w' from yu N 2 (by omega) (by omega) W);have hdr:=λW=>af (show Calls Tryz.prog 9 #[↑(N:Nat),.agg (aI g)] W λe w'=>∃v,e=.returned v/\jg w' W v (dfs N g)/\Below W W w' from SG N N8 g W);have hru:=λW=>af (Az W);have hN:=λv dv rv W(hv:jh W W v (jQ N))(hdv:ja W W dv (dfs N g))(hr:jl W W rv rlW)=>af (Sz N 2 rv (dfs N g) rlW N4 N8 (by omega) nJ.1 nJ.2 (yw N g) (λi _=>⟨(uQ N g i).1,(uQ N g i).2.1⟩) v dv W hv hdv hr);have hN2:=λv dv rv C W hv hdv hr hRv hRu hC=>af (F5 N4 N8 (dfs N g) (yw N g) (F7 N4 N8 g) v dv rv C W hv hdv hr hRv hRu hC);have hW0:=af (WB.new N 2 (dfs N g) rlW N4 N8 (by omega) λi hi=>NJ.vv (F7 N4 N8 g i hi));have hKn:=λW=>af (FY W);have hHS:∀W,Blk W w (i8 g) 22->W.cell? (w,0)=some ↑(g 0)/\W.cell? (w,1)=some ↑(g 1)/\W.cell? (w,2)=some ↑(g 2)/\W.cell? (w,3)=some ↑(g 3)/\W.cell? (w,4)=some ↑(g 4)/\W.cell? (w,5)=some ↑(g 5)/\W.cell? (w,6)=some ↑(g 6)/\W.cell? (w,7)=some ↑(g 7):=λW h=>⟨h.cell 0 rfl,h.cell 1 rfl,h.cell 2 rfl,h.cell 3 rfl,h.cell 4 rfl,h.cell 5 rfl,h.cell 6 rfl,h.cell 7 rfl⟩;have hHS:=af hHS;generalize hU:WM.new (jA N 2) (dfs N g) rlW=u0 at *;unfold jK
 go_enter Tryz.func3,Tryz.ntmps3
 go_wp2_with fail;have hzw:w.heap.size<(w.alloc (.cells (aI g) 22)).heap.size:=by simp
 generalize w.alloc (.cells (aI g) 22)=w0 at *;refine hS.o.mono ?_;rintro e w1 ⟨q,rfl,rfl⟩
 cases q
 ·go_wp2
  go_ret;exact⟨rfl,hb0⟩
 go_wp2_with fail;clear hS;have hb0:=af hb0;have hzw:=af hzw;have hG0:=af hG.drew;have hb1:=af (ah w1 w1).drew;have S0:=hHS.o _ hG0.o;clear hG
 go_region_held3 (λW=>W.cell? (w,0)=some ↑(g 0)/\W.cell? (w,1)=some ↑(g 1)/\W.cell? (w,2)=some ↑(g 2)/\W.cell? (w,3)=some ↑(g 3)/\W.cell? (w,4)=some ↑(g 4)/\W.cell? (w,5)=some ↑(g 5)/\W.cell? (w,6)=some ↑(g 6)/\W.cell? (w,7)=some ↑(g 7))
  (first|exact S0|exact S1|exact S2|exact S3|exact S4)
  (first
   |(go_at_call 8;refine(hs _).o.mono ?_;rintro e w2 ⟨v,rfl,ho,c1⟩;have hG1:=af (hG0.o.below c1 hG0.o.lt);have b1:=af (hb1.o.trans (c1.mono hb1.o.size));have S1:=hHS.o _ hG1.o)
   |(go_at_call 9;refine(hdr _).o.mono ?_;rintro e w3 ⟨dv,rfl,od,c2⟩;have hG2:=af (hG1.o.below c2 hG1.o.lt);have hv2:=(ho.sees.below c2).more c2.size;have b2:=af (b1.o.trans (c2.mono b1.o.size));have S2:=hHS.o _ hG2.o)
   |(go_at_call 10;refine(hru _).o.mono ?_;rintro e w4 ⟨rv,rfl,hr3,-,-,c3⟩;have hG3:=af (hG2.o.below c3 hG2.o.lt);have hv3:=(hv2.below c3).more c3.size;have hd3:=(od.sees.below c3).more c3.size;have b3:=af (b2.o.trans (c3.mono b2.o.size));have S3:=hHS.o _ hG3.o)
   |(go_at_call 7;refine(hN _ _ _ _ hv3 hd3 hr3).o.mono ?_;rintro e w5 ⟨x,rfl,hw,c4⟩;have hG4:=af (hG3.o.below c4 hG3.o.lt);have b4:=af (b3.o.trans (c4.mono b3.o.size));have hw5:=af hw;have S4:=hHS.o _ hG4.o)
   |fail)
 have hx5:=af (show w1.heap.size<=w4.heap.size from b3.o.size);have hb5:=af (hb0.o.trans (b4.o.mono hb0.o.size));have hG5:=af hG4.o.drew;have hc1:=af (ah w5 w5).drew;clear hG0 hG1 hG2 hG3 S0 S1 S2 S3 S4 hw hv2 hv3 hd3 hr3 ho od c1 c2 c3 c4 b1 b2 b3 b4 hb1 hN;have S0:=hHS.o _ hG5.o;go_wp2_with fail
 go_region_held3 (λW=>W.cell? (w,0)=some ↑(g 0)/\W.cell? (w,1)=some ↑(g 1)/\W.cell? (w,2)=some ↑(g 2)/\W.cell? (w,3)=some ↑(g 3)/\W.cell? (w,4)=some ↑(g 4)/\W.cell? (w,5)=some ↑(g 5)/\W.cell? (w,6)=some ↑(g 6)/\W.cell? (w,7)=some ↑(g 7))
  (first|exact S0|exact S1|exact S2|exact S3|exact S4)
  (first
   |(go_at_call 8;refine(hs _).o.mono ?_;rintro e w6 ⟨v2,rfl,ho,c1⟩;have hG1:=af (hG5.o.below c1 hG5.o.lt);have b1:=af (hc1.o.trans (c1.mono hc1.o.size));have S1:=hHS.o _ hG1.o)
   |(go_at_call 9;refine(hdr _).o.mono ?_;rintro e w7 ⟨dv2,rfl,od,c2⟩;have hG2:=af (hG1.o.below c2 hG1.o.lt);have hv2:=(ho.sees.below c2).more c2.size;have b2:=af (b1.o.trans (c2.mono b1.o.size));have S2:=hHS.o _ hG2.o)
   |(go_at_call 10;refine(hru _).o.mono ?_;rintro e w8 ⟨rv2,rfl,hr3,er,lrq,c3⟩;have hG3:=af (hG2.o.below c3 hG2.o.lt);have hv3:=(hv2.below c3).more c3.size;have hd3:=(od.sees.below c3).more c3.size;have b3:=af (b2.o.trans (c3.mono b2.o.size));have S3:=hHS.o _ hG3.o)
   |(go_at_call 11;refine(hN2 _ _ _ w5 _ hv3 hd3 hr3 (λk e=>by(have h1:=ho.lt k e);(have h2:=c2.size);(have h3:=c3.size);(have h4:=hc1.o.size);omega) (λk e=>by(rw[er]at e);cases e;exact⟨b2.o.size,lrq⟩) b3.o.size).o.mono ?_;rintro e w9 ⟨y,rfl,hd,c4⟩;have hG4:=af (hG3.o.below c4 hG3.o.lt);have b4:=af (b3.o.trans (c4.mono b3.o.size));have hd9:=af hd;have S4:=hHS.o _ hG4.o)
   |fail)
 have hb9:=af (hb5.o.trans (b4.o.mono hb5.o.size));have hP:Hid (Pr w N x y (jA N 2) u0 w9):=af (by
  obtain⟨D,Rs,hd1,hd2⟩:=hd9.o;exact Pr.made hw5.o (by have:=hx5.o;have:=hb0.o.size;omega) b4.o hd1 hd2)
 clear hG1 hG2 hG3 hG4 hG5 S0 S1 S2 S3 S4 hd hv2 hv3 hd3 hr3 ho od c1 c2 c3 c4 b1 b2 b3 b4 hc1 er lrq hN2 hd9 hw5 hs hdr hru hHS hx5 hzw hb5 hU;go_wp2_with fail
 go_loopw [11] (λi wr=>∃(k:Nat)(u:WM),k<=l.length/\k<=250/\i=↑(k:Nat)/\WB N u k/\Pr w N x y (jA N 2) u wr/\Below w w wr) (λi _=>250-(intOf i).toNat)
 case atStart=>exact⟨0,u0,by omega,by omega,rfl,hW0.o,hP.o,hb9.o⟩
 case round=>
  clear hW0 hP hb9;obtain⟨k,u,hk,hk2,rfl,hWB,hP,hB⟩:=hrel;by_cases hlt:k<l.length/\k<250
  ·have r1:decide ((k:Int)<(l.length:Nat))=true:=by simp;omega
   have r2:decide ((k:Int)<250)=true:=by simp;omega
   obtain⟨b,off,dv,fv,rfl,hact⟩:=hl.o.act k hlt.1;have hby:=hl.o.bytes k hlt.1;have hact:=af hact;generalize l.getD k default=a at *;have hB0:=hB.drew;have hP0:=hP.below (ah wr wr).drew;obtain⟨S0,sd,sf⟩:=hact.o _ hB0;have HC:=af (vw hP0 hWB (by omega) a sd hby sf);have HD:=af (λW(hA:PrA w N x y (jA N 2) u (u.step N a) W)(h:Below w w W)=>AA hA (lB N) hWB (by omega) a rfl (hact.o W h).2.1 hby (hact.o W h).2.2);have uR:=af (hWB.step (by omega) a hby);have e0:(u.kU N a != u.kU N a)=false:=by simp
   generalize u.step N a=u' at *;generalize u.kU N a=r at *;have hB0:=af hB0;clear hP0 hP hB sd sf;go_wp2_with fail
   go_region_held3 (λW=>W.cell? (b,off+k*5)=some ↑a.k/\W.cell? (b,off+k*5+1)=some ↑a.i/\W.cell? (b,off+k*5+2)=some ↑a.n/\W.cell? (b,off+k*5+3)=some dv/\W.cell? (b,off+k*5+4)=some fv)
    (first|exact S0|exact S1|exact S2)
    (first
     |(go_at_call 12;refine HC.o.mono ?_;rintro e w2 ⟨rfl,hA,d1⟩;have B1:=af (hB0.o.trans d1);have S1:=(hact.o _ B1.o).1)
     |(go_at_call 13;refine(HD.o _ hA B1.o).mono ?_;rintro e w3 ⟨rfl,hP,d2⟩;have B2:=af (B1.o.trans d2);have S2:=(hact.o _ B2.o).1)
     |fail)
   have hP:=af hP;clear S0 S1 S2 hA d1 d2 HC HD B1
   cases r10:((k:Int)%10==9)
   ·go_wp2_with fail
    go_roundw
    case rel=>exact⟨k+1,u',by omega,by omega,by go_num,uR.o,hP.o,B2.o⟩
    case measure=>simp[intOf];omega
   ·have HA:=af (sG hP.o N8)
    go_wp2_with fail;refine HA.o.mono ?_;rintro e w4 ⟨rfl,hP4,d4⟩;have hP4:=af hP4;have B4:=af (B2.o.trans d4);clear HA d4;go_wp2_with fail;go_roundw
    case rel=>exact⟨k+1,u',by omega,by omega,by go_num,uR.o,hP4.o,B4.o⟩
    case measure=>simp[intOf];omega
  ·have HA:=af (sG hP N8)
   have hBo:=af hB;clear hP hB hWB;by_cases h1:k<l.length
   ·have r1:decide ((k:Int)<(l.length:Nat))=true:=by simp;omega
    have r2:decide ((k:Int)<250)=false:=by simp;omega
    go_wp2_with fail;refine HA.o.mono ?_;rintro e w4 ⟨rfl,-,d4⟩;have B4:=af (hBo.o.trans d4);clear HA d4;go_wp2_with fail;refine(hKn _).o.mono ?_;rintro e w5 ⟨rfl,d5⟩;have B5:=af (B4.o.trans (d5.mono B4.o.size));clear d5;go_wp2_with fail;go_ret;exact⟨rfl,B5.o⟩
   ·have r1:decide ((k:Int)<(l.length:Nat))=false:=by simp;omega
    go_wp2_with fail;refine HA.o.mono ?_;rintro e w4 ⟨rfl,-,d4⟩;have B4:=af (hBo.o.trans d4);clear HA d4;go_wp2_with fail;refine(hKn _).o.mono ?_;rintro e w5 ⟨rfl,d5⟩;have B5:=af (B4.o.trans (d5.mono B4.o.size));clear d5;go_wp2_with fail;go_ret;exact⟨rfl,B5.o⟩
theorem SV(n:Int)(b0 b1 b2 b3 b4 b5 b6 b7:Int)(l:List Ac)(v:Value)(w:World)(_h_n:-9223372036854775808<=n/\n<=9223372036854775807)(_h_b:∀k,qL (is8 b0 b1 b2 b3 b4 b5 b6 b7 k))(hl:j7 w w v l):
  Calls Tryz.prog 3 #[↑n,jK (is8 b0 b1 b2 b3 b4 b5 b6 b7),v] w λe w'=>e=.returned ↑true/\Below w w w':=SR n _ v l w hl
theorem SW:ownKnob Tryz.prog.godebug=none:=by kernel_rfl
theorem F8:laidOutB Tryz.prog=true:=by kernel_rfl
theorem SX(os:Os)(started:os.Started)(H:Type)(enc:TypeId×Value->H):
  ReturnsInHanded {} Tryz.checked os 3 .any (Rows.wardPlaysSpec.pre6 enc Tryz.prog Tryz.f3 Rows.wardPlaysRow.domain false) (Rows.wardPlaysSpec.post enc Tryz.prog Tryz.f3 false true false false):=by
 refine returnsInHanded_of_change (C:=Tryz.checked) SW started (by kernel_rfl) Tryz.func3
  (ChangeSpec.witness6 (enc:=enc) (C:=Tryz.checked) false ⟨#[],#[↑(0:Int),.agg zI,.slice none 0 0],[]⟩ 8 (by kernel_rfl) (by kernel_rfl) (by kernel_rfl) (by kernel_rfl)) ?_
 intro W base args ds gs before rT hW hcnd _;have hval:∀(j:Nat)t v,Tryz.f3.params[j]?=some t->args[j]?=some v->Value.okWide Tryz.prog W .any base t v:=rT;have hW':=hW;obtain⟨p,q,hA0,hV,rfl,hfz,hnd⟩:=hW;have hA:DataW.TrodAll enc Tryz.prog W 0 (λ_=>true) true Tryz.f3.params.toList args.toList ds p:=hA0;rw[Tryz.params3]at hA hval;obtain⟨v0,vs0,d0,ds0,p0,q0,hargs,rfl,rfl,h0,r0⟩:=trodAll_cons hA;obtain⟨v1,vs1,d1,ds1,p1,q1,rfl,rfl,rfl,h1,r1⟩:=trodAll_cons r0;obtain⟨v2,vs2,d2,ds2,p2,q2,rfl,rfl,rfl,h2,r2⟩:=trodAll_cons r1;obtain⟨rfl,rfl,rfl⟩:=trodAll_nil r2;obtain rfl:args=#[v0,v1,v2]:=by cases args;simp_all
 obtain⟨rfl,rfl⟩:=trodVars_none hV;obtain⟨a0,rfl,rfl,rfl,w0⟩:=open_int Tryz.underlying3 (hval 0 3 v0 rfl rfl) h0;obtain⟨SY,SZ,S9,Ta,Tc,Td,Te,Tf,rfl,s1⟩:=J9 Tryz.underlying22 (by kernel_rfl) Tryz.underlying3 (by kernel_rfl) (hval 1 22 v1 rfl rfl) h1;have k1:=h1;have lt1:∀x∈p1,x.block<W.heap.size:=by obtain⟨m,hm⟩:=k1;exact DataW.trod_lt m _ _ _ hm
 obtain⟨A2,n2,c2,rfl⟩:=okWide_slice Tryz.underlying23 (hval 2 23 v2 rfl rfl);obtain⟨l2,s2⟩:=yD Tryz.underlying23 Tryz.underlying44 (by kernel_rfl) ⟨rfl,rfl⟩ ⟨rfl,rfl⟩ ⟨rfl,rfl⟩ ⟨rfl,rfl⟩ ⟨rfl,rfl⟩ Tryz.underlying42 Tryz.underlying56 (by kernel_rfl) ⟨rfl,rfl⟩ ⟨rfl,rfl⟩ ⟨rfl,rfl⟩ ⟨rfl,rfl⟩ Tryz.underlying3 Tryz.underlying41 Tryz.underlying5 (by kernel_rfl) (by kernel_rfl) (by kernel_rfl) (by kernel_rfl) h2;have k2:=h2;have lt2:∀x∈p2,x.block<W.heap.size:=by obtain⟨m,hm⟩:=k2;exact DataW.trod_lt m _ _ _ hm
 clear hA0 rT;refine(SV a0 SY SZ S9 Ta Tc Td Te Tf l2 _ W (bounds_i64 w0) s1 s2).mono λe W'⟨he,bel⟩=>?_;subst he;exact⟨_,rfl,_,_,_,[],_,[],hW',trodAll_mk1 (shut_bool Tryz.underlying4 _),(trodAll_cons_mk (shut_int Tryz.underlying3 w0) (trodAll_cons_mk (Below.trod F8 (by kernel_rfl) (dh (by kernel_rfl)) k1 bel lt1) (trodAll_cons_mk (Below.trod F8 (by kernel_rfl) (dh (by kernel_rfl)) k2 bel lt2) trodAll_mk0))),rfl,bel.frame _,λh=>by cases h⟩
theorem Tg:Rows.wardPlaysRow.holds Tryz.pinned (OpenSpec.ofChange Rows.wardPlaysSpec):=
 OpenClaim.holds_of_wide 3 Tryz.f3 rfl rfl rfl rfl rfl rfl rfl ⟨rfl,rfl,rfl,rfl,rfl⟩ rfl rfl rfl rfl rfl (by kernel_rfl) Tryz.func3 (by kernel_rfl)
  (dh (by kernel_rfl)) (by unfold Func.isWrapper;first|(rw[au (by decide+kernel)];kernel_rfl)|(rw[ai (by decide+kernel)];exact⟨rfl,rfl⟩))
  (λos started H enc _=>SX os started H enc)
theorem proved_wardPlays:Rows.WardPlaysSaid:=Tg
end
end Go.Proofs.YteadkhigkmijiaaGreat
