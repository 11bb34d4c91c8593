/- AuditTells holds: of any ward whether all agree, and how far their clocks are apart, as the document's tells. For all arguments. -/
import Derived.Test.YteadkhigkmijiaaGreatPD1
import Derived.Test.YteadkhigkmijiaaGreatPD2
import Derived.Test.YteadkhigkmijiaaGreatPD8
import Derived.Test.YteadkhigkmijiaaGreatPD18
import Derived.Test.YteadkhigkmijiaaGreatPD19
import Derived.Test.YteadkhigkmijiaaGreatPD54
set_option linter.all false
namespace Go.Proofs.YteadkhigkmijiaaGreat
section
set_option maxRecDepth 100000
set_option maxHeartbeats 8000000
open Go.ChangeShapes Go.WideShapes Go.ChangeAt Go.RowKit
theorem m8(n:Int)(g:Nat->Int)(v:Value)(l:List Ac)(but:Int)(w:World)(hl:j7 w w v l):
  Calls Tryz.prog 5 #[↑n,jK g,v,↑but] w λe w'=>e=.returned ↑true/\Below w w w':=by
 have hb0:=(ah w w).alloc lr (.cells (aI g) 22);have hX:Blk (w.alloc (.cells (aI g) 22)) w (i8 g) 22:=aJ w w rfl (i8 g) 22;have hS:=af (m6 v l (w.alloc (.cells (aI g) 22)) ((hl.below hb0).more hb0.size));obtain⟨A,c,rfl,-⟩:=hl.at_;replace hl:=af hl;by_cases call:4<=n/\n<=8
 case neg=>
  unfold jK
  go_enter Tryz.func5,Tryz.ntmps5
  go_wp2
  all_goals first
   |(exfalso;omega)
   |(go_ret;exact⟨rfl,hb0⟩)
   |skip
 obtain⟨n4,n8⟩:=call;obtain⟨N,rfl⟩:∃t:Nat,n=t:=⟨n.toNat,by omega⟩;have q1:decide (((N:Nat):Int)<4)=false:=aj (by omega);have q2:decide ((8:Int)<((N:Nat):Int))=false:=aj (by omega);have N4:4<=N:=by omega
 have N8:N<=8:=by omega
 have hs:=λW=>af (show Calls Tryz.prog 17 #[↑(N:Nat),↑(2:Int)] W λe w'=>∃v,e=.returned (.agg #[v,↑(2:Int),↑(14:Int),↑(17:Int)])/\jm w' W v (jQ N)/\Below W W w' from eW N 2 (by omega) (by omega) W);have hN:=λv dv W(hv:jh W W v (jQ N))(hdv:ja W W dv (dfs N g))=>af (Sz N 2 (.slice none 0 0) (dfs N g) [] N4 N8 (by omega) (by simp) (λk hk=>by simp at hk) (yw N g) (λi _=>⟨(uQ N g i).1,(uQ N g i).2.1⟩) v dv W hv hdv jl.nil);have hN2:=λv dv C W hv hdv hRv hC=>af (m9 N4 N8 g v dv C W hv hdv hRv hC);have hW0:=af (WB.new N 2 (dfs N g) [] N4 N8 (by omega) λi hi=>NJ.vv (fj N4 N8 g i hi));have hKn:=λW=>af (nr W);have hi8:=af (SF g);have hsu:=af (λk=>SE k g);have hle:=af (λk=>yw k g);have ha3:=af SD;generalize hU:WM.new (jA N 2) (dfs N g) []=u0 at *;clear hU;unfold jK
 go_enter Tryz.func5,Tryz.ntmps5
 go_wp2_with fail;have hz:=hX.lt;generalize w.alloc (.cells (aI g) 22)=w0 at *;refine hS.o.mono ?_;rintro e w1 ⟨q,rfl,-,rfl⟩
 cases q
 ·go_wp2
  go_ret;exact⟨rfl,hb0⟩
 clear hS;go_wp2_with fail
 go_loopw [9,10] (λv i wr=>∃k:Nat,k<=N/\i=↑k/\OwnsI wr (w.heap.size+1) v (dfs k g)/\Blk wr w (i8 g) 22/\Below w w wr) (λ_ i _=>N-(intOf i).toNat)
 case atStart=>exact⟨0,by omega,rfl,OwnsI.nil,hX,hb0⟩
 case round=>
  clear hX hb0 hz;obtain⟨k,hk,rfl,ho,hX,hb⟩:=hrel;by_cases hlt:k<N
  ·have r1:decide ((k:Int)<(N:Nat))=true:=by simp;omega
   have c0:=hX.cell k (hi8.o k (by omega));have k8:decide ((k:Int)<8)=true:=by simp;omega
   have a3:=ha3.o (g k);have z1:IntKind.i64.wrap (g k%4-1)=g k%4-1:=aO _ (by omega);have hl:=hle.o k;have SH:=af (hsu.o k);have ho1:=af (ho.alloc (.cells #[↑(g k%4-1:Int)] 3));have hX1:=af (hX.alloc (.cells #[↑(g k%4-1:Int)] 3));have hb1:=af (hb.alloc hb.size (.cells #[↑(g k%4-1:Int)] 3));have kI:=af (tE wr 3 #[↑(g k%4-1:Int)] [g k%4-1] rfl (wr.heap.size+1) (cJ _) (by simp[maxLen]) wr 1 1 rfl rfl rfl);have hlt1:=af ho1.o.lt;have hsz:w.heap.size+1<=(wr.alloc (.cells #[↑(g k%4-1:Int)] 3)).heap.size:=by have:=hX.lt;simp;omega
   clear ho hX hb hN hs hKn hN2 hW0;go_wp2_with (at_builtin;go_loud (refine pE _ rfl (.tmp 32) (.tmp 38) 33 rfl (w.heap.size+1) oh Tryz.underlying33 _ (dfs k g) ho1.o rfl _ _ [g k%4-1] rfl kI.o hsz (by rw[hl];simp;omega) ?_));intro v2 w2 ho2 hx2;rw[<-SH.o]at ho2;have hX2:=af (hX1.o.ext hx2 (λe=>by have:=(hlt1.o _ e).1;omega));have hb2:=af (hb1.o.trans (hx2.toBelow (B:=w.heap.size) (by omega) (λi hi=>by have:=(hlt1.o i hi).1;omega)));replace ho2:=af ho2;clear hX1 hb1 ho1 kI hx2 hlt1;go_wp2;go_roundw
   case rel=>exact⟨k+1,by omega,by go_num,ho2.o,hX2.o,hb2.o⟩
   case measure=>simp[intOf];omega
  ·obtain rfl:k=N:=by omega
   have r1:decide ((k:Int)<(k:Nat))=false:=by simp
   replace hb:=af hb;have od:=af ho.sees;have hzz:w.heap.size<=wr.heap.size:=hb.o.size;clear hX ho hi8 hsu hle ha3
   rename World=>w3
   go_wp2_with fail;refine(hs _).o.mono ?_;rintro e w4 ⟨v1,rfl,ho,c1⟩;have hv4:=af (ho.sees.more lr);have od4:=af ((od.o.below c1).more c1.size);have hb4:=af (hb.o.trans (c1.mono hb.o.size));clear ho c1 hb od;go_wp2_with fail;refine(hN _ _ _ hv4.o od4.o).o.mono ?_;rintro e w5 ⟨x,rfl,hw,c2⟩;have hw5:=af hw;have od5:=af ((od4.o.below c2).more c2.size);have hb5:=af (hb4.o.trans (c2.mono hb4.o.size));have hz4:=hb4.o.size;clear hw c2 hb4 od4 hv4 hN;go_wp2_with fail;refine(hs _).o.mono ?_;rintro e w6 ⟨v2,rfl,ho,c1⟩;have i9:=af ho.lt;have hv6:=af (ho.sees.more lr);have od6:=af ((od5.o.below c1).more c1.size);have hb6:=af c1;clear ho c1 od5 hs;go_wp2_with fail;refine(hN2 _ _ w5 _ hv6.o od6.o i9.o hb6.o.size).o.mono ?_;rintro e w7 ⟨y,rfl,hd,c2⟩;have hb7:=af (hb6.o.trans (c2.mono hb6.o.size));have hP:Hid (Pr w k x y (jA k 2) u0 w7):=af (by
    obtain⟨D,Rs,hd1,hd2⟩:=hd;exact Pr.made hw5.o hz4 hb7.o hd1 hd2)
   have hb9:=af (hb5.o.trans (hb7.o.mono hb5.o.size));clear hd c2 hb6 od6 hv6 i9 hN2 hw5 hb5 hb7;go_wp2_with fail
   go_loopw [15] (λi wr=>∃(j:Nat)(u:WM),j<=l.length/\j<=200/\i=↑(j:Nat)/\WB k u j/\Pr w k x y (jA k 2) u wr/\Below w w wr) (λi _=>200-(intOf i).toNat)
   case atStart=>exact⟨0,u0,by omega,by omega,rfl,hW0.o,hP.o,hb9.o⟩
   case round=>
    clear hW0 hP hb9;obtain⟨j,u,hj,hj2,rfl,hWB,hP,hB⟩:=hrel;by_cases hlj:j<l.length/\j<200
    ·have r1:decide ((j:Int)<(l.length:Nat))=true:=by simp;omega
     have r2:decide ((j:Int)<200)=true:=by simp;omega
     obtain⟨b,off,dv,fv,rfl,hact⟩:=hl.o.act j hlj.1;have hby:=hl.o.bytes j hlj.1;replace hact:=af hact;generalize l.getD j default=a at *;obtain⟨⟨s0,s1,s2,s3,s4⟩,sd,sf⟩:=hact.o _ hB;have HC:=af (vw hP hWB (by omega) a sd hby sf);have HD:=af (λW(hA:PrA w k x y (jA k 2) u (u.step k a) W)(h:Below w w W)=>AA hA (lB k) hWB (by omega) a rfl (hact.o W h).2.1 hby (hact.o W h).2.2);have uR:=af (hWB.step (by omega) a hby);generalize u.step k a=u' at *;generalize u.kU k a=r at *;replace hB:=af hB;clear hP sd sf;go_wp2_with fail;refine HC.o.mono ?_;rintro e w8 ⟨rfl,hA,d1⟩;have B1:=af (hB.o.trans d1);replace hA:=af hA;clear s0 s1 s2 s3 s4 d1 HC hB;obtain⟨s0,s1,s2,s3,s4⟩:=(hact.o _ B1.o).1;go_wp2_with fail;refine(HD.o _ hA.o B1.o).mono ?_;rintro e w9 ⟨rfl,hP,d2⟩;have B2:=af (B1.o.trans d2);replace hP:=af hP;clear s0 s1 s2 s3 s4 d2 HD hA B1;go_wp2_with fail;go_roundw
     case rel=>exact⟨j+1,u',by omega,by omega,by go_num,uR.o,hP.o,B2.o⟩
     case measure=>simp[intOf];omega
    ·obtain⟨r,s,hT⟩:=ox hP N8 but
     replace hT:=af hT;have hBo:=af hB;have e0:(s==s)=true:=by simp
     have hz0:=af (ah wr wr);have r12:(¬j<l.length/\decide ((j:Int)<(l.length:Nat))=false)\/(j<l.length/\decide ((j:Int)<(l.length:Nat))=true/\decide ((j:Int)<200)=false):=by
      by_cases h1:j<l.length
      ·exact .inr ⟨h1,av (by omega),aj (by omega)⟩
      ·exact .inl ⟨h1,aj (by omega)⟩
     clear hP hB hWB
     rename World=>wa
     rcases r12 with⟨h1,r1⟩|⟨h1,r1,r2⟩
     all_goals
      go_wp2_with fail;refine(hT.o _ hz0.o).1.mono ?_;rintro e wb ⟨rfl,d1⟩;have B1:=af (hz0.o.trans d1);clear d1;go_wp2_with fail;refine(hT.o _ B1.o).2.1.mono ?_;rintro e wc ⟨rfl,d2⟩;have B2:=af (B1.o.trans (d2.mono B1.o.size));clear d2
      cases r
      all_goals
       go_wp2_with fail;refine(hT.o _ B2.o).2.2.1.mono ?_;rintro e wd ⟨rfl,d3⟩;have B3:=af (B2.o.trans (d3.mono B2.o.size));clear d3;go_wp2_with fail;refine(hT.o _ B3.o).2.2.2.mono ?_;rintro e we ⟨rfl,d4⟩;have B4:=af (B3.o.trans (d4.mono B3.o.size));clear d4;go_wp2_with fail;refine(hKn _).o.mono ?_;rintro e wf ⟨rfl,d5⟩;have B5:=af (B4.o.trans (d5.mono B4.o.size));clear d5;go_wp2_with fail;go_ret;exact⟨rfl,hBo.o.trans (B5.o.mono hBo.o.size)⟩
theorem oy(n:Int)(b0 b1 b2 b3 b4 b5 b6 b7:Int)(l:List Ac)(v:Value)(but:Int)(w:World)(_h_n:-9223372036854775808<=n/\n<=9223372036854775807)(_h_b:∀k,qL (is8 b0 b1 b2 b3 b4 b5 b6 b7 k))(hl:j7 w w v l)(_h_but:-9223372036854775808<=but/\but<=9223372036854775807):
  Calls Tryz.prog 5 #[↑n,jK (is8 b0 b1 b2 b3 b4 b5 b6 b7),v,↑but] w λe w'=>e=.returned ↑true/\Below w w w':=m8 n _ v l but w hl
theorem oB:ownKnob Tryz.prog.godebug=none:=by kernel_rfl
theorem jn:laidOutB Tryz.prog=true:=by kernel_rfl
theorem oR(os:Os)(started:os.Started)(H:Type)(enc:TypeId×Value->H):
  ReturnsInHanded {} Tryz.checked os 5 .any (Rows.auditTellsSpec.pre6 enc Tryz.prog Tryz.f5 Rows.auditTellsRow.domain false) (Rows.auditTellsSpec.post enc Tryz.prog Tryz.f5 false true false false):=by
 refine returnsInHanded_of_change (C:=Tryz.checked) oB started (by kernel_rfl) Tryz.func5
  (ChangeSpec.witness6 (enc:=enc) (C:=Tryz.checked) false ⟨#[],#[↑(0:Int),.agg zI,.slice none 0 0,↑(0:Int)],[]⟩ 8 (by kernel_rfl) (by kernel_rfl) (by kernel_rfl) (by kernel_rfl)) ?_
 intro W base args ds gs before rT hW hcnd _;have hval:∀(j:Nat)t v,Tryz.f5.params[j]?=some t->args[j]?=some v->Value.okWide Tryz.prog W .any base t v:=rT;have hW':=hW;obtain⟨p,q,hA0,hV,rfl,hfz,hnd⟩:=hW;have hA:DataW.TrodAll enc Tryz.prog W 0 (λ_=>true) true Tryz.f5.params.toList args.toList ds p:=hA0;rw[Tryz.params5]at hA hval;obtain⟨v0,vs0,d0,ds0,p0,q0,hargs,rfl,rfl,h0,r0⟩:=trodAll_cons hA;obtain⟨v1,vs1,d1,ds1,p1,q1,rfl,rfl,rfl,h1,r1⟩:=trodAll_cons r0;obtain⟨v2,vs2,d2,ds2,p2,q2,rfl,rfl,rfl,h2,r2⟩:=trodAll_cons r1;obtain⟨v3,vs3,d3,ds3,p3,q3,rfl,rfl,rfl,h3,r3⟩:=trodAll_cons r2;obtain⟨rfl,rfl,rfl⟩:=trodAll_nil r3;obtain rfl:args=#[v0,v1,v2,v3]:=by cases args;simp_all
 obtain⟨rfl,rfl⟩:=trodVars_none hV;obtain⟨a0,rfl,rfl,rfl,w0⟩:=open_int Tryz.underlying3 (hval 0 3 v0 rfl rfl) h0;obtain⟨SY,SZ,S9,Ta,Tc,Td,Te,Tf,rfl,s1⟩:=J9 Tryz.underlying22 (by kernel_rfl) Tryz.underlying3 (by kernel_rfl) (hval 1 22 v1 rfl rfl) h1;have k1:=h1;have lt1:∀x∈p1,x.block<W.heap.size:=by obtain⟨m,hm⟩:=k1;exact DataW.trod_lt m _ _ _ hm
 obtain⟨A2,n2,c2,rfl⟩:=okWide_slice Tryz.underlying23 (hval 2 23 v2 rfl rfl);obtain⟨l2,s2⟩:=yD Tryz.underlying23 Tryz.underlying44 (by kernel_rfl) ⟨rfl,rfl⟩ ⟨rfl,rfl⟩ ⟨rfl,rfl⟩ ⟨rfl,rfl⟩ ⟨rfl,rfl⟩ Tryz.underlying42 Tryz.underlying56 (by kernel_rfl) ⟨rfl,rfl⟩ ⟨rfl,rfl⟩ ⟨rfl,rfl⟩ ⟨rfl,rfl⟩ Tryz.underlying3 Tryz.underlying41 Tryz.underlying5 (by kernel_rfl) (by kernel_rfl) (by kernel_rfl) (by kernel_rfl) h2;have k2:=h2;have lt2:∀x∈p2,x.block<W.heap.size:=by obtain⟨m,hm⟩:=k2;exact DataW.trod_lt m _ _ _ hm
 obtain⟨a3,rfl,rfl,rfl,w3⟩:=open_int Tryz.underlying3 (hval 3 3 v3 rfl rfl) h3;clear hA0 rT;refine(oy a0 SY SZ S9 Ta Tc Td Te Tf l2 _ a3 W (bounds_i64 w0) s1 s2 (bounds_i64 w3)).mono λe W'⟨he,bel⟩=>?_;subst he;exact⟨_,rfl,_,_,_,[],_,[],hW',trodAll_mk1 (shut_bool Tryz.underlying4 _),(trodAll_cons_mk (shut_int Tryz.underlying3 w0) (trodAll_cons_mk (Below.trod jn (by kernel_rfl) (dh (by kernel_rfl)) k1 bel lt1) (trodAll_cons_mk (Below.trod jn (by kernel_rfl) (dh (by kernel_rfl)) k2 bel lt2) (trodAll_cons_mk (shut_int Tryz.underlying3 w3) trodAll_mk0)))),rfl,bel.frame _,λh=>by cases h⟩
theorem oT:Rows.auditTellsRow.holds Tryz.pinned (OpenSpec.ofChange Rows.auditTellsSpec):=
 OpenClaim.holds_of_wide 5 Tryz.f5 rfl rfl rfl rfl rfl rfl rfl ⟨rfl,rfl,rfl,rfl,rfl⟩ rfl rfl rfl rfl rfl (by kernel_rfl) Tryz.func5 (by kernel_rfl)
  (dh (by kernel_rfl)) (by unfold Func.isWrapper;first|(rw[au (by decide+kernel)];kernel_rfl)|(rw[ai (by decide+kernel)];exact⟨rfl,rfl⟩))
  (λos started H enc _=>oR os started H enc)
theorem proved_auditTells:Rows.AuditTellsSaid:=oT
end
end Go.Proofs.YteadkhigkmijiaaGreat
