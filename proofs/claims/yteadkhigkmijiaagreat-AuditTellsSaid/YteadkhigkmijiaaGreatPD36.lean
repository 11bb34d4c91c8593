/- Texts SqM, QmE, LineM, LineL, LineN, QmF in one. -/
import Derived.IntWalk
import Derived.Test.YteadkhigkmijiaaGreatPD1
import Derived.Test.YteadkhigkmijiaaGreatPD2
import Derived.Test.YteadkhigkmijiaaGreatPD15
import Derived.Test.YteadkhigkmijiaaGreatPD16
import Derived.Test.YteadkhigkmijiaaGreatPD18
import Derived.Test.YteadkhigkmijiaaGreatPD21
import Derived.Test.YteadkhigkmijiaaGreatPD27
import Derived.Test.YteadkhigkmijiaaGreatPD29
set_option linter.all false
namespace Go.Proofs.YteadkhigkmijiaaGreat
section
set_option maxRecDepth 100000
set_option maxHeartbeats 4000000
open Go.RowKit
theorem Fh(n:Nat->Nat):∀m,mx n m=jw n m
 |0=>rfl
 |m+1=>by show max (mx n m) (n m)=max (jw n m) (n m);rw[Fh n m]
theorem Fj(n:Nat->Nat)(a r:Nat->Nat->Int)(k m:Nat)(h:∀i,i<m->r i k=if k<n i then a i k else 0):sm n a m k=iU r k m:=by
 induction m with
 |zero=>rfl
 |succ m ih=>
  show sm n a m k+(if k<n m then a m k else 0)=iU r k m+r m k;rw[ih λi hi=>h i (by omega),h m (by omega)]
theorem Qm:(Tryz.prog.info? 184).map (λi=>(i.zero,i.size,i.bytes))=some (some (.slice none 0 0),1,24):=rfl
theorem Qn(w:World)(t:TypeId)(b:Nat)(hb:b=w.heap.size)(A:Option Addr)(n c:Nat):Src (w.alloc (.cells #[.slice A n c] t)) (.slice (some (b,0)) 1 1) 1 1 [.slice A n c]:=by
 refine .inr ⟨_,1,rfl,rfl,λj x hj=>?_,λx hx=>?_⟩
 ·match j,hj with
  |0,hj=>simp at hj;subst hj;show(w.alloc _).cell? (b,0)=_;rw[aZ _ _ _ _ hb];rfl
  |j+1,hj=>simp at hj
 ·rw[bD.1 hx];rfl
theorem EW(x b:Nat)(l:List (Value×Sd))(c d:Ch)(P:List Nat)(w:World)(h:XAt w P x b l c d)(hl:l.length<=8)(hP:∀i∈P,i<w.heap.size)(h1:∀s∈l.map Prod.snd,∀k,(s.q k).natAbs<=1):
  Calls Tryz.prog 154 #[↑(x,0)] w λe w'=>∃u,e=.returned u/\Row w' P u (jw (mN (l.map Prod.snd)) l.length) (λj=>iU (mR (l.map Prod.snd)) j l.length) (λj=>iU (mR (l.map Prod.snd)) j l.length)/\Below w w w':=by
 have hr0:∀i,∃A,∃c,i<l.length->l[i]?.map Prod.fst=some (.slice A (mN (l.map Prod.snd) i) c)/\(mN (l.map Prod.snd) i<=400/\∃q:Nat->Int,(∀k,(q k).natAbs<=1)/\(∀k,mR (l.map Prod.snd) i k=if k<mN (l.map Prod.snd) i then q k else 0)/\iY w w A (mN (l.map Prod.snd) i) λk=>cx (q k) (q k)):=λi=>by
  cases e:l[i]? with
  |none=>exact⟨none,0,λhi=>by rw[List.getElem?_eq_none_iff]at e;omega⟩
  |some y=>
   obtain⟨v,s⟩:=y;have hrow:=h.sd.row _ (bO e);obtain⟨A,c,ev,-,-,hs⟩:=hrow.sees;have eN:mN (l.map Prod.snd) i=s.n:=by simp[mN,e]
   have eR:mR (l.map Prod.snd) i=s.row:=by simp[mR,e]
   refine⟨A,c,λ_=>⟨by simp only[fK];rw[eN];exact dn some ev,by rw[eN];exact hrow.n4,s.q,h1 s (List.mem_map_of_mem (f:=Prod.snd) (bO e)),λk=>by rw[eR,eN];rfl,by rw[eN];exact hs⟩⟩
 obtain⟨A,hA⟩:=Classical.skolem.1 hr0;obtain⟨cc,hcc⟩:=Classical.skolem.1 hA;clear hr0 hA;have hq0:∀i,∃q:Nat->Int,(∀k,(q k).natAbs<=1)/\(i<l.length->(∀k,mR (l.map Prod.snd) i k=if k<mN (l.map Prod.snd) i then q k else 0)/\iY w w (A i) (mN (l.map Prod.snd) i) λk=>cx (q k) (q k)):=λi=>by
  by_cases hi:i<l.length
  ·obtain⟨-,-,q,q1,q2,q3⟩:=hcc i hi
   exact⟨q,q1,λ_=>⟨q2,q3⟩⟩
  ·exact⟨λ_=>0,λk=>by simp,λh=>absurd h hi⟩
 obtain⟨q,hq⟩:=Classical.skolem.1 hq0;clear hq0;generalize hm:l.map Prod.snd=m at *;obtain⟨n,hn⟩:∃n,mN m=n:=⟨_,rfl⟩;rw[hn]at hcc hq ⊢;have HV:Hid (∀W k,Below w w W->k<l.length->W.cell? (b,k*3)=some (.slice (A k) (n k) (cc k))/\∃a e,W.cell? (b,k*3+1)=some (.int .i64 a)/\W.cell? (b,k*3+2)=some (.bool e)):=af λW k hW hk=>by
  have h2:=(h.below hW).sd
  cases e:l[k]? with
  |none=>rw[List.getElem?_eq_none_iff]at e;omega
  |some y=>
   obtain⟨v,s⟩:=y;have e1:=(hcc k hk).1;rw[e,fK,bB]at e1;obtain⟨x0,x1,x2⟩:=h2.cells e;exact⟨x0.trans (dn some e1),_,_,x1,x2⟩
 have y0:=h.blk.cell 0 (x:=.slice (some (b,0)) l.length l.length) rfl;have hfin:Hid (∀(L:Option Addr)(C:Nat)(W:World),Below w w W->iY W W L l.length (λi=>.slice (A i) (n i) (cc i))->Calls Tryz.prog 104 #[.slice L l.length C] W λe w'=>∃u,e=.returned u/\Row w' P u (jw n l.length) (λj=>iU (mR m) j l.length) (λj=>iU (mR m) j l.length)/\Below W W w'):=af λL C W hW hs=>by
  have e1:∀k,sm n q l.length k=iU (mR m) k l.length:=λk=>Fj n q (mR m) k l.length λi hi=>((hq i).2 hi).1 k;have hb1:∀k,(iU (mR m) k l.length).natAbs<=8:=λk=>aW (tX λi hi=>by
   rw[((hq i).2 hi).1 k]
   split
   ·exact(hq i).1 k
   ·exact bH _) hl
  have hsb:∀i k,i<l.length->(sm n q i k).natAbs<2^52:=λi k hi=>by
   rw[Fj n q (mR m) k i λi' hi'=>((hq i').2 (by omega)).1 k];have:=tX (f:=mR m) (j:=k) (k:=i) λi' hi'=>by
    rw[((hq i').2 (by omega)).1 k]
    split
    ·exact(hq i').1 k
    ·exact bH _
   omega
  refine(Co L l.length C A n cc q q W hs (λi hi=>(((hq i).2 hi).2.below hW).more hW.size) hl (λi hi=>by have:=(hcc i hi).2.1;omega) (λi k _ _=>by have:=(hq i).1 k;omega) (λi k _ _=>by have:=(hq i).1 k;omega) hsb hsb).mono ?_;rintro e w' ⟨u,rfl,ho,hb⟩;refine⟨u,rfl,?_,hb⟩;rw[Fh]at ho;refine iC (ho.alike λk _=>by rw[e1 k]) (λi hi=>by have:=hP i hi;have:=hW.size;omega) ?_ λk=>⟨hb1 k,hb1 k⟩;have key:∀m,m<=l.length->jw n m<=400:=λm=>by
   induction m with
   |zero=>intro _;exact bH _
   |succ m ih=>
    intro hm;have:=ih (by omega);have:=(hcc m (by omega)).2.1;show max (jw n m) (n m)<=400;omega
  exact key _ lr
 clear hcc hq h h1 hn hm;generalize(jw n l.length)=MN at *;generalize(λj=>iU (mR m) j l.length)=MQ at *;generalize l.length=N at *
 go_enter Tryz.func154,Tryz.ntmps154
 go_wp2_with fail
 go_loopw [3,11] (λv i wr=>∃k:Nat,k<=N/\i=↑k/\wr.ownsRow w 184 1 v k ((List.range k).map λi=>.slice (A i) (n i) (cc i))/\Below w w wr) (λ_ i _=>N-(intOf i).toNat)
 case atStart=>exact⟨0,by omega,rfl,dX _ _ _ _,ah _ _⟩
 case round=>
  obtain⟨k,hk,rfl,ho,hb⟩:=hrel;by_cases hlt:k<N
  ·have q1:decide ((k:Int)<((N:Nat):Int))=true:=av (by omega)
   obtain⟨c0,a,e,c1,c2⟩:=HV.o wr k hb hlt;have hX:=aJ wr wr rfl #[.slice (A k) (n k) (cc k),↑a,↑e] 224;have z0:=hX.cell 0 (x:=.slice (A k) (n k) (cc k)) rfl;have hb2:=hb.alloc hb.size (.cells #[.slice (A k) (n k) (cc k),↑a,↑e] 224);have ho2:=ho.alloc (.cells #[.slice (A k) (n k) (cc k),↑a,↑e] 224);have hs2:=hb2.size;have hx0:k+1<=8:=by omega
   have hwr:=hb.size;clear ho hb hX HV hfin;go_wp2_with (at_builtin;go_loud (refine og _ rfl (.tmp 15) (.tmp 18) 233 rfl w 184 _ 1 24 Qm rfl (by omega) Tryz.underlying233 u3 k _ (ho2.alloc _) rfl _ 1 _ rfl (Qn (wr.alloc (.cells #[.slice (A k) (n k) (cc k),↑a,↑e] 224)) 184 (wr.heap.size+1) (by simp) (A k) (n k) (cc k)) (by simp;omega) (by simp[maxLen];omega) (by omega) ?_));intro v5 w5 hl5 hx5;have hb5:Below w w w5:=(hb2.alloc hs2 (.cells #[.slice (A k) (n k) (cc k)] 184)).trans (hx5.toBelow (B:=w.heap.size) (by simp;omega) λj hj=>(ho2.lt j hj).1);have hl5:w5.ownsRow w 184 1 v5 (k+1) ((List.range (k+1)).map λi=>.slice (A i) (n i) (cc i)):=by
    rw[cZ,List.map_append];exact hl5
   clear hx5 ho2 hb2;go_wp2;go_roundw
   case rel=>exact⟨k+1,by omega,by go_num,hl5,hb5⟩
   case measure=>simp[intOf];omega
  ·obtain rfl:k=N:=by omega
   have q1:decide ((k:Int)<((k:Nat):Int))=false:=aj (by omega);obtain⟨L,C,rfl,-,-,hs⟩:=iP.form (show iP wr w 184 u3 k λi=>.slice (A i) (n i) (cc i)from ho);have hM:=af (hfin.o L C wr hb hs);clear ho hs HV hfin;go_wp2_with fail;refine hM.o.mono ?_;rintro e w2 ⟨u,rfl,hr,hb2⟩;have hr:=af hr;have hb3:=hb.trans (hb2.mono hb.size);clear hM;go_wp2;go_ret;exact⟨u,rfl,hr.o,hb3⟩
def Air.jR(x:Air)(N i:Nat):Bool:=decide (i<N)&&decide (0<(x.s i).b.length)
theorem Dr(ab:Nat)(V:Nat->Value)(x:Air)(N:Nat)(w:World)(h:jF w ab V x)(hN:N<=8):
  Calls Tryz.prog 176 #[↑(ab,0),↑(N:Nat)] w λe w'=>e=.returned (kZ (x.jR N))/\Below w w w':=by
 have X0:=(aJ w w rfl (b8 λ_=>false) 110).alloc (.cells (b8 λ_=>false) 110);have X1:=aJ (w.alloc (.cells (b8 λ_=>false) 110)) (w.heap.size+1) (by simp) (b8 λ_=>false) 110;have hb:=((ah w w).alloc lr (.cells (b8 λ_=>false) 110)).alloc (by simp) (.cells (b8 λ_=>false) 110);have HX:Hid (∀W k,Below w w W->k<8->∃A c,W.cell? ⟨ab,k,none⟩=some (.slice A (x.s k).b.length c)):=af λW k hW hk=>by
  have h2:=h.below hW;obtain⟨A,c,e⟩:=h2.form hk;exact⟨A,c,e▸h2.blk.cell k (nN V x k hk)⟩
 have hab:=h.lt;clear h;unfold b8 at *;unfold kZ
 go_enter Tryz.func176,Tryz.ntmps176
 go_wp2_with fail;generalize(w.alloc (.cells #[↑false,↑false,↑false,↑false,↑false,↑false,↑false,↑false] 110)).alloc (.cells #[↑false,↑false,↑false,↑false,↑false,↑false,↑false,↑false] 110)=w2 at *;have hS:=λk hk=>af (Du (λi=>decide (0<(x.s i).b.length)) k hk);have hE:Hid (N<=8->(λi=>decide (i<N)&&decide (0<(x.s i).b.length))=x.jR N):=af λ_=>rfl
 go_loopw [6] (λi wr=>∃k:Nat,k<=N/\i=↑k/\Blk wr w (b8 λ_=>false) 110/\Blk wr (w.heap.size+1) (b8 λi=>decide (i<k)&&decide (0<(x.s i).b.length)) 110/\Below w w wr) (λi _=>N-(intOf i).toNat)
 case atStart=>exact⟨0,by omega,rfl,by simpa[b8]using X0,by simpa[b8]using X1,hb⟩
 case round=>
  obtain⟨k,hk,rfl,hR0,hR1,hbk⟩:=hrel;clear X0 X1 hb;by_cases hlt:k<N
  ·have q1:decide ((k:Int)<((N:Nat):Int))=true:=av (by omega)
   obtain⟨A,c,e0⟩:=HX.o wr k hbk (by omega);have hS:=hS k (by omega);have c1:=hR1.cell k (lZ (λi=>decide (i<k)&&decide (0<(x.s i).b.length)) k (by omega));have f1:=hR1.frozen k;have i1:(k:Int)<8:=by omega
   have q3:decide ((0:Int)<(((x.s k).b.length:Nat):Int))=decide (0<(x.s k).b.length):=by rw[bY];simp
   have RR1:=af ((hR1.set k ↑(decide (0<(x.s k).b.length))).eq hS.o);have RR0:=af (hR0.other (w.heap.size+1,k) (by simp) ↑(decide (0<(x.s k).b.length)));have BB:=af (hbk.setCell (p:=(w.heap.size+1,k)) (by simp) ↑(decide (0<(x.s k).b.length)));clear hR0 hR1 hbk hS HX;generalize(x.s k).b.length=n at *;go_wp2_with fail;go_roundw
   case rel=>exact⟨k+1,by omega,by go_num,RR0.o,RR1.o,BB.o⟩
   case measure=>simp[intOf];omega
  ·obtain rfl:k=N:=by omega
   have q1:decide ((k:Int)<((k:Nat):Int))=false:=by simp
   rw[hE.o hN]at hR1;clear HX hE hS;generalize hff:x.jR k=ff at *;have HFF:=af hff;clear hff;unfold b8 at hR0;have c00:=hR0.cell 0 (x:=↑false) rfl;have f00:=hR0.frozen 0;have c10:=hR1.cell 0 (x:=↑(ff 0)) rfl;have c01:=hR0.cell 1 (x:=↑false) rfl;have f01:=hR0.frozen 1;have c11:=hR1.cell 1 (x:=↑(ff 1)) rfl;have c02:=hR0.cell 2 (x:=↑false) rfl;have f02:=hR0.frozen 2;have c12:=hR1.cell 2 (x:=↑(ff 2)) rfl;have c03:=hR0.cell 3 (x:=↑false) rfl;have f03:=hR0.frozen 3;have c13:=hR1.cell 3 (x:=↑(ff 3)) rfl;have c04:=hR0.cell 4 (x:=↑false) rfl;have f04:=hR0.frozen 4;have c14:=hR1.cell 4 (x:=↑(ff 4)) rfl;have c05:=hR0.cell 5 (x:=↑false) rfl;have f05:=hR0.frozen 5;have c15:=hR1.cell 5 (x:=↑(ff 5)) rfl;have c06:=hR0.cell 6 (x:=↑false) rfl;have f06:=hR0.frozen 6;have c16:=hR1.cell 6 (x:=↑(ff 6)) rfl;have c07:=hR0.cell 7 (x:=↑false) rfl;have f07:=hR0.frozen 7;have c17:=hR1.cell 7 (x:=↑(ff 7)) rfl;have HB:=af hbk;clear hR0 hR1 hbk;go_wp2_with fail;refine aK (v:=.agg #[↑(ff 0),↑(ff 1),↑(ff 2),↑(ff 3),↑(ff 4),↑(ff 5),↑(ff 6),↑(ff 7)]) ?_ rfl ⟨by rw[HFF.o],?_⟩
   ·rw[j4 rfl]
    go_simp
   ·(repeat' (first|(with_reducible exact HB.o)|(with_reducible refine bL ?_)|(with_reducible refine aU ?_ ?_ _)|exact aR _|(simp;done)))
theorem KH(x:Fin 256)(r:Fin 8):bits BinOp.and IntKind.u8 (((x.val:Nat):Int) / 2^r.val) 1=if jX ((x.val:Nat):Int) (7-r.val)then 1 else 0:=by
 revert x r
 decide+kernel
theorem KI(A:Option Addr)(n c:Nat)(z:Nat->Int)(f s:Bool)(w:World)(h:iY w w A n λk=>.int .u8 (z k))(hz:∀k,k<n->0<=z k/\z k<256)(hn:n<=maxLen):
  Calls Tryz.prog 177 #[.slice A n c,↑f,↑s] w λe w'=>
   ∃v,e=.returned v/\jJ w' w 250 v (8*min n 50) (prs (lv f z) (lv s z))/\Below w w w':=by
 unfold maxLen at hn;obtain⟨M,hM⟩:∃M,M=min n 50:=⟨_,rfl⟩;rw[<-hM];have hM1:M<=n:=by omega
 have hM2:M<=50:=by omega
 have HM:=af hM;clear hM
 go_enter Tryz.func177,Tryz.ntmps177
 go_wp2
 go_loopw [7,8] (λv i wr=>∃k:Nat,k<=M/\i=↑k/\jJ wr w 250 v (8*k) (prs (lv f z) (lv s z))/\Below w w wr) (λ_ i _=>n-(intOf i).toNat)
 case atStart=>exact⟨0,by omega,rfl,dX _ _ _ _,ah _ _⟩
 case round=>
  obtain⟨k,hk,rfl,hown,hbel⟩:=hrel;by_cases hlt:k<M
  ·obtain⟨b0,off,rfl,hbb,hcell⟩:=h (by omega)
   have f0:w.cell? (b0,off+k)=some (.int .u8 (z k)):=hcell k (by omega);have hzk:=hz k (by omega);have q2:decide (k<n)=true:=by simp;omega
   have q3:decide ((k:Int)<50)=true:=by simp;omega
   obtain⟨wo,rfl⟩:∃W:World,W=wr:=⟨_,rfl⟩;clear hcell;go_wp2
   go_loopw [7,9] (λv i wx=>∃(r m:Nat),jJ wx w 250 v m (prs (lv f z) (lv s z))/\Below w w wx/\((r<8/\i=↑r/\m+r=8*k+7)\/(r=8/\i=↑(-1:Int)/\m=8*k+8))) (λ_ i _=>((intOf i)+1).toNat)
   case atStart=>exact⟨7,8*k,hown,hbel,.inl ⟨by omega,rfl,rfl⟩⟩
   case round=>
    clear hown hbel;obtain⟨r,m,hown,hbel,hr⟩:=hrel;rcases hr with⟨hr8,rfl,hmr⟩|⟨rfl,rfl,rfl⟩
    ·have hB:=hbel.size
     have e0:=(hbel.cell hbb).trans f0;obtain⟨x,hx⟩:=bZ hzk.1;have hb:=KH ⟨x,by omega⟩ ⟨r,hr8⟩;simp only at hb;rw[<-hx]at hb;have hl:∀g:Bool,lv g z m=if g then(if jX (z k) (7-r)then 1 else -1)else 0:=λg=>by
      unfold lv;rw[show m / 8=k by omega,show m%8=7-r by omega]
     have hV:=af (show(prs (lv f z) (lv s z) (m*2)=↑(lv f z m))/\(prs (lv f z) (lv s z) (m*2+1)=↑(lv s z m))from⟨mY _ _ m,mZ _ _ m⟩);have hl1:=af (hl f);have hl2:=af (hl s);clear hl hx;have Tt:m+r<=8*k+7:=by omega
     have Tv:8*k+7<=m+r:=by omega
     clear hmr;generalize jX (z k) (7-r)=B at *
     cases B<;>cases f<;>cases s
     all_goals
      simp only[dG,bA,dB]at hb;have hh:=hV.o;simp only[hl1.o,hl2.o]at hh;simp only[dG,bA,dB]at hh;have HH:=af hh;clear hh;go_wp2_with (at_builtin;go_loud (refine KF _ rfl (.tmp 44) (.tmp 46) 202 rfl w 250 _ 16 Cq rfl Tryz.underlying202 _ m _ w (eH hown _) (hbel.alloc hB _) rfl _ _ ?_ ⟨rfl,rfl⟩ ?_ ?_ ?_ ⟨HH.o.1.symm,HH.o.2.symm⟩ ?_))
      all_goals (try (first|(simp[Act.eval];done)|(simp;omega)|(unfold maxLen;omega)|omega))
      intro v' w1 ho1 hb1;rcases gF r with h0|h0
      ·subst h0
       go_wp2;go_roundw
       case rel=>exact⟨8,m+1,ho1,hb1,.inr ⟨rfl,rfl,by omega⟩⟩
       case measure=>simp[intOf]
      ·obtain⟨r',rfl⟩:∃r',r=r'+1:=⟨r-1,by omega⟩
       go_wp2;go_roundw
       case rel=>exact⟨r',m+1,ho1,hb1,.inl ⟨by omega,by go_num,by omega⟩⟩
       case measure=>simp[intOf];omega
    ·go_wp2
     go_roundw
     case rel=>exact⟨k+1,by omega,by go_num,by rw[show 8*(k+1)=8*k+8 by omega];exact hown,hbel⟩
     case measure=>simp[intOf];omega
  ·have hkM:k=M:=by omega
   subst hkM;have hm:=HM.o;by_cases hn:k<n
   ·obtain rfl:k=50:=by omega
    have q2:decide (50<n)=true:=by simp;omega
    clear hm;go_wp2;go_ret;exact⟨_,rfl,hown,hbel⟩
   ·have q2:decide (k<n)=false:=by simp;omega
    clear hm;go_wp2;go_ret;exact⟨_,rfl,hown,hbel⟩
end
section
open Go.RowKit
def en(a b:Nat->Int):Nat->Int
 |0=>0
 |k+1=>en a b k+(a k*a k+b k*b k)
end
section
set_option maxRecDepth 100000
set_option maxHeartbeats 4000000
open Go.RowKit
theorem KJ(a b:Int)(s:Bool)(w:World):
  Calls Tryz.prog 209 #[.agg #[↑a,↑b],↑s] w λe w'=>e=.returned ↑(pt s a b)/\Below w w w':=by
 cases s
 all_goals
  go_enter Tryz.func209,Tryz.ntmps209
  go_wp2;go_ret;exact⟨by simp[pt],(ah _ _).alloc lr _⟩
theorem iP.below{w w':World}{B B' n:Nat}{e:TypeId}{v:Value}{V:Nat->Value}(h:iP w B e v n V)(hb:Below B' w w')(hB:w.heap.size<=B'):iP w' B e v n V:=
 cB (row:=none) h ⟨hb.os,hb.tape,hb.output,hb.size,λk hk _=>hb.block k (by omega)⟩ (by
  rcases h.2 with⟨rfl,_⟩|⟨g,cap,cur,rfl,_⟩
  ·exact .inl rfl
  ·exact .inr (by simp[Value.ownBlock]))
theorem KL(q:Nat->Int)(E:Bool)(k:Nat):
  (q k=0/\kC q (k+1)=kC q k/\(E&&j3 q (k+1))=false)\/(q k=1/\kC q (k+1)=false/\(E&&j3 q (k+1))=(E&&j3 q k))\/(q k=-1/\kC q (k+1)=false/\(E&&j3 q (k+1))=(E&&j3 q k))\/
  (q k≠1/\(q k==1)=false/\(q k==-1)=false/\(q k != 0)=true/\kC q (k+1)=false/\(E&&j3 q (k+1))=false):=by
 rw[BV,BW];by_cases h0:q k=0
 ·exact .inl ⟨h0,by simp[h0],by simp[h0]⟩
 by_cases h1:q k=1
 ·exact .inr (.inl ⟨h1,by simp[h1],by simp[h1]⟩)
 by_cases h2:q k=-1
 ·exact .inr (.inr (.inl ⟨h2,by simp[h2],by simp[h2]⟩))
 ·exact .inr (.inr (.inr ⟨h1,by simpa using h1,by simpa using h2,by simpa using h0,by simp[h0],by simp[h1,h2]⟩))
theorem Ct(A:Option Addr)(n c:Nat)(a b:Nat->Int)(s:Bool)(w:World)(h:iY w w A (2*n) (prs a b))(hn:n<=100000):
  Calls Tryz.prog 178 #[.slice A n c,↑s] w (Ci w (λk=>pt s (a k) (b k)) n):=by
 obtain⟨E,hE⟩:∃E:Bool,E=decide (n%8=0):=⟨_,rfl⟩;have HE:=af hE;have hE':((n:Int)%8==0)=E:=by
  rw[hE,bY];simp;omega
 clear hE;obtain⟨m,hm⟩:∃m,m=n / 8:=⟨_,rfl⟩;have HM:=af hm;have hm1:8*m<=n:=by omega
 have hm2:n<=8*m+7:=by omega
 have hmn:(n:Int) / 8=m:=by omega
 clear hm
 go_enter Tryz.func178,Tryz.ntmps178
 go_wp2_with (at_make;go_loud (refine oM _ rfl _ _ 41 rfl w w (ah _ _) lr 5 (.int .u8 0) 1 BX rfl Tryz.underlying41 _ _ _ _ m rfl rfl rfl rfl (by omega) (by unfold maxLen;omega) ?_));intro w1 ho1 hb1 hs1 _;clear hmn hE';go_wp2
 go_loopw [6,7,9] (λx y i wr=>∃k:Nat,k<=n/\i=↑k/\x=↑(!kC (λk=>pt s (a k) (b k)) k)/\y=↑(E&&j3 (λk=>pt s (a k) (b k)) k)/\iP wr w 5 (.slice (some (w,0)) m m) m (kP (λk=>pt s (a k) (b k)) k)/\Below w w wr) (λ_ _ i _=>n-(intOf i).toNat)
 case atStart=>exact⟨0,by omega,rfl,by simp[kC],by simp[j3],ho1.alike λk _=>(Cb _ k).symm,hb1⟩
 case round=>
  obtain⟨k,hk,rfl,rfl,rfl,hown,hbel⟩:=hrel;clear ho1 hb1 hs1;by_cases hlt:k<n
  ·obtain⟨b0,off,rfl,hbb,hcell⟩:=h (by omega)
   have e0:wr.cell? (b0,off+k*2)=some ↑(a k):=by rw[<-mY a b k];exact(hbel.cell hbb).trans (hcell (k*2) (by omega))
   have e1:wr.cell? (b0,off+k*2+1)=some ↑(b k):=by rw[<-mZ a b k];exact(hbel.cell hbb).trans (hcell (k*2+1) (by omega))
   have hcl:=af (KL (λk=>pt s (a k) (b k)) E k);have HP:=af (Ce (λk=>pt s (a k) (b k)) k);have HO:=af (Cg (λk=>pt s (a k) (b k)) k);have HT:=af (λj=>vY (λk=>pt s (a k) (b k)) k j);have q2:decide (k<n)=true:=by simp;omega
   have q3:(k:Int)<n:=by omega
   clear hcell;go_wp2_with fail;refine(KJ (a k) (b k) s wr).mono ?_;rintro e w2 ⟨he,hb2⟩;have ho2:=hown.below hb2 lr;have qM:=hbel.trans (hb2.mono hbel.size);clear hown hbel hb2 e0 e1;generalize hX:kC (λk=>pt s (a k) (b k)) k=X at *;generalize hY:(E&&j3 (λk=>pt s (a k) (b k)) k)=Y at *;have HX:=af hX;have HY:=af hY;clear hX hY;rcases hcl.o with⟨h0,hz,hu⟩|⟨h0,hz,hu⟩|⟨h0,hz,hu⟩|⟨h0,d1,d2,d3,hz,hu⟩
   case' inl|inr.inr.inl=>
    have HH:=af h0;have HZ:=af hz;have HU:=af hu;have h0':pt s (a k) (b k)=_:=h0;rw[h0']at he;clear h0 h0' hz hu;subst he;have ho3:=ho2.alike λj _=>(HP.o (by rw[HH.o];decide) j).symm;clear ho2 HP HO HT hcl
    cases X<;>cases Y
    all_goals
     go_wp2;go_roundw
     case rel=>exact⟨k+1,by omega,by go_num,(by rw[HZ.o];try rfl),(by rw[HU.o];try rfl),ho3,qM⟩
     case measure=>simp[intOf];omega
   case' inr.inr.inr=>
    have HZ:=af hz;have HU:=af hu;have d1':(pt s (a k) (b k)==1)=false:=d1;have d2':(pt s (a k) (b k)==-1)=false:=d2;have d3':(pt s (a k) (b k) != 0)=true:=d3;clear d1 d2 d3;have ho3:=ho2.alike λj _=>(HP.o h0 j).symm;clear ho2 HP HO HT hcl h0 hz hu;subst he;generalize pt s (a k) (b k)=v at *
    cases X<;>cases Y
    all_goals
     go_wp2;go_roundw
     case rel=>exact⟨k+1,by omega,by go_num,(by rw[HZ.o];try rfl),(by rw[HU.o];try rfl),ho3,qM⟩
     case measure=>simp[intOf];omega
   have HH:=af h0;have HZ:=af hz;have HU:=af hu;have h0':pt s (a k) (b k)=_:=h0;rw[h0']at he;clear h0 h0' hz hu hcl HP;subst he;by_cases hkm:k / 8<m
   ·have hb0:kP (λk=>pt s (a k) (b k)) k (k / 8)=.int .u8 (lN (λk=>pt s (a k) (b k)) (k / 8) (k%8):Nat):=by
     unfold kP;rw[show min 8 (k-8*(k / 8))=k%8 by omega]
    have hbyte:=ho2.cell hkm;rw[hb0]at hbyte;have hfr:=ho2.frozen (k / 8);have H2:=af (HO.o HH.o);clear hb0 HO;generalize lN (λk=>pt s (a k) (b k)) (k / 8) (k%8)=Z at *;have ho3:=ho2.j5 (k / 8) (.int .u8 (bits BinOp.or IntKind.u8 Z (128 / 2^(k%8)))) H2.o (λj _ hj=>HT.o j hj);have hb3:=qM.setCell (p:=(w.heap.size,k / 8)) lr (.int .u8 (bits BinOp.or IntKind.u8 Z (128 / 2^(k%8))));have q4:(k:Int) / 8<m:=by omega
    have q5:decide ((k:Int) / 8<m)=true:=by simp;omega
    clear ho2 qM HT
    cases X<;>cases Y
    all_goals
     go_wp2;go_roundw
     case rel=>exact⟨k+1,by omega,by go_num,(by rw[HZ.o];try rfl),(by rw[HU.o];try rfl),ho3,hb3⟩
     case measure=>simp[intOf];omega
   ·have ho3:=ho2.alike λj hj=>(HT.o j (by omega)).symm
    have q5:decide ((k:Int) / 8<m)=false:=by simp;omega
    clear ho2 HO HT
    cases X<;>cases Y
    all_goals
     go_wp2;go_roundw
     case rel=>exact⟨k+1,by omega,by go_num,(by rw[HZ.o];try rfl),(by rw[HU.o];try rfl),ho3,qM⟩
     case measure=>simp[intOf];omega
  ·obtain rfl:k=n:=by omega
   have hown2:iP wr w 5 (.slice (some (w,0)) m m) m (λj=>.int .u8 (packed (λk=>pt s (a k) (b k)) j)):=hown.alike λj hj=>Cc _ k j (by omega);clear hown;generalize hX:kC (λk=>pt s (a k) (b k)) k=X at *;generalize hY:(E&&j3 (λk=>pt s (a k) (b k)) k)=Y at *;have HX:=af hX;have HY:=af hY;clear hX hY
   cases X
   ·cases Y
    ·go_wp2
     go_ret2;refine⟨1,_,rfl,.inr (.inr ⟨HX.o,?_,rfl,rfl⟩),hbel⟩;have h1:=HY.o;rw[HE.o,Bool.and_eq_false_iff]at h1;rcases h1 with h1|h1
     ·exact .inl (by simpa using h1)
     ·exact .inr h1
    ·have h1:=HY.o
     rw[bg,HE.o]at h1;obtain⟨h8,h9⟩:=h1;have H8:=af (show k%8=0 by simpa using h8);have H9:=af h9;have KM:=af (show iP wr w 5 (.slice (some (w,0)) m m) (k / 8) (λj=>.int .u8 (packed (λk=>pt s (a k) (b k)) j)) by rw[<-HM.o];exact hown2);clear h8 h9 hown2;go_wp2;go_ret2;exact⟨2,_,rfl,.inr (.inl ⟨HX.o,H8.o,H9.o,rfl,KM.o⟩),hbel⟩
   ·go_wp2
    go_ret2;exact⟨0,_,rfl,.inl ⟨HX.o,rfl,rfl⟩,hbel⟩
theorem KN(A:Option Addr)(n c:Nat)(a b:Nat->Int)(w:World)(h:iY w w A (2*n) (prs a b))(hn:n<=100000):
  Calls Tryz.prog 120 #[.slice A n c] w (Ck w a b n):=by
 have T1:=Ct A n c a b false w h hn
 go_enter Tryz.func120,Tryz.ntmps120
 go_wp2_with fail;refine T1.mono ?_;rintro e w1 ⟨K,v,rfl,ht,hb1⟩;have T2:=Ct A n c a b true w1 ((h.below hb1).more hb1.size) hn;go_wp2_with fail;refine T2.mono ?_;rintro e w2 ⟨L,u,rfl,ht2,hb2⟩;go_wp2;refine aK (v:=.tuple #[↑K,v,↑L,u]) (by simp[results,Tryz.results120,go_sem]) rfl ?_;refine⟨K,v,L,u,rfl,?_,?_,hb1.trans (hb2.mono hb1.size)⟩
 ·simpa[pt]using ht.below hb2 lr
 ·simpa[pt]using ht2.base hb1.size
end
section
set_option maxHeartbeats 1000000
open Go.RowKit
structure jN(W:World)(v:Value)(n:Nat)(a b:Nat->Int):Prop where
 at_:∃A c,v=.slice A n c/\iY W W A (2*n) (prs a b)
 n4:n<=400
 bd:∀k,(a k).natAbs<=8/\(b k).natAbs<=8
theorem jN.below{W W':World}{v:Value}{n:Nat}{a b:Nat->Int}(h:jN W v n a b)(k:Below W W W'):jN W' v n a b:=⟨by
 obtain⟨A,c,e,hs⟩:=h.at_;exact⟨A,c,e,(hs.below k).more k.size⟩,h.n4,h.bd⟩
theorem jN.nil(W:World)(a b:Nat->Int)(h:∀k,(a k).natAbs<=8/\(b k).natAbs<=8):jN W (.slice none 0 0) 0 a b:=⟨⟨none,0,rfl,iH⟩,by omega,h⟩
theorem jN.of{W:World}{B:Nat}{v:Value}{n:Nat}{a b a' b':Nat->Int}(h:jJ W B 250 v n (prs a b))(hn:n<=400)(ha:∀k,k<n->a k=a' k)(hb:∀k,k<n->b k=b' k)(h8:∀k,(a' k).natAbs<=8/\(b' k).natAbs<=8):jN W v n a' b':=by
 obtain⟨A,c,rfl,-,-,hs⟩:=h.form;exact⟨⟨A,c,rfl,hs.alike λk hk=>oN (ha _ (by omega)) (hb _ (by omega))⟩,hn,h8⟩
theorem kQ(f:Bool)(a:Int)(B:Nat)(h:a.natAbs<=B):(pf f a).natAbs<=B:=by
 unfold pf
 split
 ·exact h
 ·exact bH _
theorem Dv(f:Bool)(z:Nat->Int)(k:Nat):lv f z k=pf f (lv true z k):=by
 unfold lv pf
 cases f<;>simp
theorem Dw(x:Db)(k:Nat)(h:k<rn x.b):x.row k=lv true (λi=>x.b.getD i 0) k:=by
 unfold Db.row;rw[au h]
 rfl
theorem tT(x:Db)(v:Value)(f s:Bool)(w:World)(h:iI w w v x.b)(ok:x.Ok):
  Calls Tryz.prog 177 #[v,↑f,↑s] w λe w'=>∃u,e=.returned u/\jN w' u (rn x.b) (λk=>pf f (x.row k)) (λk=>pf s (x.row k))/\Below w w w':=by
 obtain⟨A,c,rfl,h1,h2,h3,-⟩:=h.at_;refine(KI A x.b.length c (λk=>x.b.getD k 0) f s w h3 (λk _=>ok.b.getD k) (aW h1 h2)).mono ?_;rintro e w' ⟨u,rfl,ho,hb⟩;refine⟨u,rfl,jN.of ho (wX _) (λk hk=>?_) (λk hk=>?_) (λk=>⟨kQ _ _ _ (aW (x.tV k) (by decide)),kQ _ _ _ (aW (x.tV k) (by decide))⟩),hb⟩
 ·rw[Dv,Dw x k hk]
 ·rw[Dv,Dw x k hk]
theorem wY(u0 u1:Value)(n0 n1:Nat)(a0 b0 a1 b1:Nat->Int)(w:World)(h0:jN w u0 n0 a0 b0)(h1:jN w u1 n1 a1 b1)(z0:∀k,n0<=k->a0 k=0/\b0 k=0)(z1:∀k,n1<=k->a1 k=0/\b1 k=0)(hs:∀k,(a0 k+a1 k).natAbs<=8/\(b0 k+b1 k).natAbs<=8):
  Calls Tryz.prog 121 #[u0,u1] w λe w'=>∃u,e=.returned u/\jN w' u (max n0 n1) (λk=>a0 k+a1 k) (λk=>b0 k+b1 k)/\Below w w w':=by
 obtain⟨A0,c0,rfl,s0⟩:=h0.at_;obtain⟨A1,c1,rfl,s1⟩:=h1.at_;have e0:=h0.bd;have e1:=h1.bd;have l0:=h0.n4;have l1:=h1.n4;refine(KP A0 n0 c0 A1 n1 c1 a0 b0 a1 b1 w s0 s1 (λk _=>by have:=e0 k;omega) (λk _=>by have:=e1 k;omega) (by omega) (by omega)).mono ?_;rintro e w' ⟨u,rfl,ho,hb⟩;refine⟨u,rfl,jN.of ho (by omega) (λk hk=>?_) (λk hk=>?_) hs,hb⟩
 ·have q0:(if k<n0 then a0 k else 0)=a0 k:=by
   split
   ·rfl
   ·exact(z0 k (by omega)).1.symm
  have q1:(if k<n1 then a1 k else 0)=a1 k:=by
   split
   ·rfl
   ·exact(z1 k (by omega)).1.symm
  rw[q0,q1]
 ·have q0:(if k<n0 then b0 k else 0)=b0 k:=by
   split
   ·rfl
   ·exact(z0 k (by omega)).2.symm
  have q1:(if k<n1 then b1 k else 0)=b1 k:=by
   split
   ·rfl
   ·exact(z1 k (by omega)).2.symm
  rw[q0,q1]
theorem qZ(x:Db)(k:Nat)(h:rn x.b<=k):x.row k=0:=by unfold Db.row;rw[ai (by omega)]
end
end Go.Proofs.YteadkhigkmijiaaGreat
