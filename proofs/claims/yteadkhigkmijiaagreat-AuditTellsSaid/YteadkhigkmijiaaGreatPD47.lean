/- Texts VdH, RaY in one. -/
import Derived.Deep.CutRange
import Derived.StillTailTactics
import Derived.Test.YteadkhigkmijiaaGreatPD1
import Derived.Test.YteadkhigkmijiaaGreatPD8
import Derived.Test.YteadkhigkmijiaaGreatPD13
import Derived.Test.YteadkhigkmijiaaGreatPD42
import Derived.Test.YteadkhigkmijiaaGreatPD46
set_option linter.all false
namespace Go.Proofs.YteadkhigkmijiaaGreat
section
set_option maxRecDepth 100000
set_option maxHeartbeats 8000000
open Go.RowKit
theorem su{W:World}{b:Nat}{f:Nat->Hd}(ht:W.there b 0 (hdC f).size)(h1:(hdC f).all (·.oneCell')=true):(storeCells (b,0) (hdC f).toList).run Tryz.prog W=.ok () (W.setCells b 0 (hdC f).toList):=
 run_storeCells_cells (P:=Tryz.prog) b 0 (hdC f).toList 0 W (λj hj=>by simpa using(ht j (by simpa using hj)).1) (λj hj=>by simpa using(ht j (by simpa using hj)).2) (λv hv=>(Array.all_eq_true_iff_forall_mem.1 h1) v (by simpa using hv))
theorem RQ{B:Nat}{P:List Nat}{N x:Nat}{u:WM}{fl:List Ft}{Af:Option Addr}{cf:Nat}{W:World}(h:WAt B P N W x u)(ok:WOk N u)(hsl:u.sl<=1000000)(hsf:ju W B (.slice Af fl.length cf) fl):
  Calls Tryz.prog 28 #[↑(x,0),.slice Af fl.length cf] W λe w'=>e=.returned (.int .i64 (if jc fl=true then 0 else 1))/\WAt B P N w' x (if jc fl=true then u.slot N fl else u)/\Bw B P W w':=by
 obtain⟨q0,h⟩:=h;obtain⟨n4,n8⟩:=ok.n4;have hBW:B<=W.heap.size:=by have:=h.bas.1;have:=h.blk.lt;omega
 have hIs:=af (show Calls Tryz.prog 66 #[.slice Af fl.length cf] W λe w'=>e=.returned ↑(jc fl)/\Below W W w' from EY _ fl W (hsf.more hBW));by_cases his:jc fl=true
 case neg=>
  rw[ai his,ai his];have hno:jc fl=false:=by cases e:jc fl<;>simp_all
  go_enter Tryz.func28,Tryz.ntmps28
  go_wp2_with fail;refine hIs.o.mono ?_;rintro e w1 ⟨rfl,hb1⟩;have hfin:=af (show WAt B P N w1 x u/\Bw B P W w1 from⟨⟨q0,h.below hb1⟩,h.lD hb1⟩);rw[hno];clear h hb1 hIs;go_wp2_with fail;go_ret;exact⟨rfl,hfin.o.1,hfin.o.2⟩
 rw[au his,au his]
 go_enter Tryz.func28,Tryz.ntmps28
 go_wp2_with fail;refine hIs.o.mono ?_;rintro e w1 ⟨rfl,hb1⟩;have h1:=h.below hb1;have hw1:=h.lD hb1;have RU:=hsf.below hw1.b;rw[his];have h2:=(h1.box (.cells zS 150)).box (.cells zI 22);have hw2:Bw B P w1 ((w1.alloc (.cells zS 150)).alloc (.cells zI 22)):=h1.lD (((ah _ _).alloc lr (.cells zS 150)).alloc (by simp) (.cells zI 22));have Y2:=(aJ w1 w1 rfl (sl8 (λ_=>none) (λ_=>0) (u.bsK 0)) 150).alloc (.cells zI 22);have Z2:=aJ (w1.alloc (.cells zS 150)) (w1.heap.size+1) (by simp) (i8 (u.atK 0)) 22;have eY:sl8 (λ_=>none) (λ_=>0) (u.bsK 0)=zS:=by simp[sl8,WM.bsK]
 have eZ:i8 (u.atK 0)=zI:=by simp[i8,WM.atK]
 rw[show(w1.alloc (.cells zS 150)).heap.size=w1.heap.size+1 by simp]at h2;have x0:=h2.blk.cell 0 (x:=.slice (some (q0.nb,0)) N q0.cap) rfl;have hA:SA B P N x u q0.nb q0.gs w1 W 0 q0 (λ_=>none) (λ_=>0) ((w1.alloc (.cells zS 150)).alloc (.cells zI 22)):=by
  refine⟨rfl,rfl,by rw[WM.zZ];exact h2,by rw[eY]at Y2 ⊢;exact Y2,by rw[eZ]at Z2 ⊢;exact Z2,λi hi=>?_,λi hi=>?_,λi hi=>by omega,λi hi=>⟨rfl,rfl⟩,hw1.trans hw2,?_,λr hr=>(h1.o r hr).1⟩
  ·rw[show u.bsK 0 i=[] by simp[WM.bsK]];exact bR
  ·rw[show u.bsK 0 i=[] by simp[WM.bsK]];exact⟨λx hx=>(by cases hx),by simp⟩
  ·have:=h1.bas.1;have:=h1.blk.lt;omega
 have hA:=af hA;have hsF:=af (show ∀W1,Bw B P W W1->ju W1 B (.slice Af fl.length cf) fl from λW1 b=>hsf.below b.b);clear h h1 hw1 hw2 hb1 hIs Y2 Z2 eY eZ h2 hsf RU;go_wp2_with fail;generalize(w1.alloc (.cells zS 150)).alloc (.cells zI 22)=w2 at *;have q3:(0:Int)<=(N:Nat):=by omega
 go_loopw [21] (λi wr=>∃(k:Nat)(q:WP)(V:Nat->Option Addr)(c:Nat->Nat),k<=N/\i=↑(k:Nat)/\SA B P N x u q0.nb q0.gs w1 W k q V c wr) (λi _=>N-(intOf i).toNat)
 case atStart=>exact⟨0,q0,_,_,by omega,rfl,hA.o⟩
 case round=>
  clear hA x0;obtain⟨k,q,V,c,hk,rfl,h⟩:=hrel;by_cases hlt:k<N
  ·have r1:decide ((k:Int)<(N:Nat))=true:=by simp;omega
   have i8':(k:Int)<8:=by omega
   have ptr:=h.win.ptr k hlt;rw[h.nb]at ptr;have hcp:=h.win.cap;have hd:=h.below ((ah wr wr).drew);have HS:=af (hd.send hlt);clear h hd;go_wp2_with fail
   go_region_with (first
    |(go_at_call 67;refine HS.o.mono ?_;rintro e w4 ⟨A',c',q',rfl,eg,hn',hB⟩;have HC:=af (oP.clock hn'))
    |(go_at_call 68;refine HC.o.mono ?_;rintro e w5 ⟨rfl,hb5⟩;have hB5:=hB.below hb5;have a0:=hB5.Y.cell k (Aa V c (u.bsK k) k (by omega));have a1:=hB5.Y.frozen k;have a2:=hB5.Z.cell k (l7 (u.atK k) k (by omega));have a3:=hB5.Z.frozen k;have hS5:=af (hB5.store hlt n8);clear hB hB5)
    |fail)
   all_goals
    go_wp2_with fail;go_roundw
    case rel=>exact⟨k+1,q',_,_,by omega,by go_num,hS5.o⟩
    case measure=>simp[intOf];omega
  ·obtain rfl:k=N:=by omega
   have r1:decide ((k:Int)<(k:Nat))=false:=by simp
   have hSW:∀W,Blk W w1 (sl8 V c (u.bsK k)) 150->Blk W (w1.heap.size+1) (i8 (u.atK k)) 22->W.cell? (x,1)=some ↑(q.gs,0)->W.cell? (x,1)=some ↑(q.gs,0)/\W.cell? (w1,0)=some (.slice (V 0) (u.bsK k 0).length (c 0))/\W.cell? (w1,1)=some (.slice (V 1) (u.bsK k 1).length (c 1))/\W.cell? (w1,2)=some (.slice (V 2) (u.bsK k 2).length (c 2))/\W.cell? (w1,3)=some (.slice (V 3) (u.bsK k 3).length (c 3))/\W.cell? (w1,4)=some (.slice (V 4) (u.bsK k 4).length (c 4))/\W.cell? (w1,5)=some (.slice (V 5) (u.bsK k 5).length (c 5))/\W.cell? (w1,6)=some (.slice (V 6) (u.bsK k 6).length (c 6))/\W.cell? (w1,7)=some (.slice (V 7) (u.bsK k 7).length (c 7))/\W.cell? (w1.heap.size+1,0)=some ↑(u.atK k 0)/\W.cell? (w1.heap.size+1,1)=some ↑(u.atK k 1)/\W.cell? (w1.heap.size+1,2)=some ↑(u.atK k 2)/\W.cell? (w1.heap.size+1,3)=some ↑(u.atK k 3)/\W.cell? (w1.heap.size+1,4)=some ↑(u.atK k 4)/\W.cell? (w1.heap.size+1,5)=some ↑(u.atK k 5)/\W.cell? (w1.heap.size+1,6)=some ↑(u.atK k 6)/\W.cell? (w1.heap.size+1,7)=some ↑(u.atK k 7):=λW Y Z e1=>⟨e1,Y.cell 0 rfl,Y.cell 1 rfl,Y.cell 2 rfl,Y.cell 3 rfl,Y.cell 4 rfl,Y.cell 5 rfl,Y.cell 6 rfl,Y.cell 7 rfl,Z.cell 0 rfl,Z.cell 1 rfl,Z.cell 2 rfl,Z.cell 3 rfl,Z.cell 4 rfl,Z.cell 5 rfl,Z.cell 6 rfl,Z.cell 7 rfl⟩;have hSW:=af hSW;have e1:=h.win.blk.cell 1 (x:=↑(q.gs,0)) rfl;have T0:=hSW.o wr.drew h.Y.drew h.Z.drew e1;have T0':=T0;obtain⟨x1,y0,y1,y2,y3,y4,y5,y6,y7,z0,z1,z2,z3,z4,z5,z6,z7⟩:=T0';have hd:=h.below ((ah wr wr).drew);have HS1:=FT ok hd.win (λi hi=>(hd.own i hi).sees) hd.ok ((hsF.o _ hd.bw).more (by have:=hd.win.bas.1;have:=hd.win.blk.lt;omega)) his (hsF.o _ hd.bw).by_;have hx:=(h.win.box (.cells (hdC λ_=>hdz) 154)).below ((ah (wr.alloc (.cells (hdC λ_=>hdz) 154)).heap.size (wr.alloc (.cells (hdC λ_=>hdz) 154))).drew);have HS2:=FT ok hx (λi hi=>((h.own i hi).alloc (.cells (hdC λ_=>hdz) 154)).drew.sees) hd.ok ((hsF.o _ (h.bw.trans (Bw.box wr (.cells (hdC λ_=>hdz) 154) h.win.bas.1 h.win.lt.1 λp hp=>(h.win.o p (by simp[hp])).1))).more (by have:=hx.bas.1;have:=hx.blk.lt;omega)) his (hsF.o _ h.bw).by_;have T1:=hSW.o (wr.alloc (.cells (hdC λ_=>hdz) 154)).drew (h.Y.alloc (.cells (hdC λ_=>hdz) 154)).drew (h.Z.alloc (.cells (hdC λ_=>hdz) 154)).drew (hx.blk.cell 1 rfl);rw[<-WM.Ae u k,<-WM.Ag u k]at HS1 HS2;unfold s8 jK at HS1 HS2;have hin:=λp(hp:p∈P)=>(h.win.o p (by simp[hp])).1;have HS1:=af (HS1.mono (R':=λe w5=>∃f,e=.returned (.tuple #[.agg (hdC f),↑(0:Int)])/\Hid (((hdC f).all (·.oneCell')=true)/\(w5.cell? (x,1)=some ↑(q.gs,0)/\w5.cell? (w1,0)=some (.slice (V 0) (u.bsK k 0).length (c 0))/\w5.cell? (w1,1)=some (.slice (V 1) (u.bsK k 1).length (c 1))/\w5.cell? (w1,2)=some (.slice (V 2) (u.bsK k 2).length (c 2))/\w5.cell? (w1,3)=some (.slice (V 3) (u.bsK k 3).length (c 3))/\w5.cell? (w1,4)=some (.slice (V 4) (u.bsK k 4).length (c 4))/\w5.cell? (w1,5)=some (.slice (V 5) (u.bsK k 5).length (c 5))/\w5.cell? (w1,6)=some (.slice (V 6) (u.bsK k 6).length (c 6))/\w5.cell? (w1,7)=some (.slice (V 7) (u.bsK k 7).length (c 7))/\w5.cell? (w1.heap.size+1,0)=some ↑(u.atK k 0)/\w5.cell? (w1.heap.size+1,1)=some ↑(u.atK k 1)/\w5.cell? (w1.heap.size+1,2)=some ↑(u.atK k 2)/\w5.cell? (w1.heap.size+1,3)=some ↑(u.atK k 3)/\w5.cell? (w1.heap.size+1,4)=some ↑(u.atK k 4)/\w5.cell? (w1.heap.size+1,5)=some ↑(u.atK k 5)/\w5.cell? (w1.heap.size+1,6)=some ↑(u.atK k 6)/\w5.cell? (w1.heap.size+1,7)=some ↑(u.atK k 7))/\((w5.alloc (.cells (hdC λ_=>hdz) 154)).cell? (x,1)=some ↑(q.gs,0)/\(w5.alloc (.cells (hdC λ_=>hdz) 154)).cell? (w1,0)=some (.slice (V 0) (u.bsK k 0).length (c 0))/\(w5.alloc (.cells (hdC λ_=>hdz) 154)).cell? (w1,1)=some (.slice (V 1) (u.bsK k 1).length (c 1))/\(w5.alloc (.cells (hdC λ_=>hdz) 154)).cell? (w1,2)=some (.slice (V 2) (u.bsK k 2).length (c 2))/\(w5.alloc (.cells (hdC λ_=>hdz) 154)).cell? (w1,3)=some (.slice (V 3) (u.bsK k 3).length (c 3))/\(w5.alloc (.cells (hdC λ_=>hdz) 154)).cell? (w1,4)=some (.slice (V 4) (u.bsK k 4).length (c 4))/\(w5.alloc (.cells (hdC λ_=>hdz) 154)).cell? (w1,5)=some (.slice (V 5) (u.bsK k 5).length (c 5))/\(w5.alloc (.cells (hdC λ_=>hdz) 154)).cell? (w1,6)=some (.slice (V 6) (u.bsK k 6).length (c 6))/\(w5.alloc (.cells (hdC λ_=>hdz) 154)).cell? (w1,7)=some (.slice (V 7) (u.bsK k 7).length (c 7))/\(w5.alloc (.cells (hdC λ_=>hdz) 154)).cell? (w1.heap.size+1,0)=some ↑(u.atK k 0)/\(w5.alloc (.cells (hdC λ_=>hdz) 154)).cell? (w1.heap.size+1,1)=some ↑(u.atK k 1)/\(w5.alloc (.cells (hdC λ_=>hdz) 154)).cell? (w1.heap.size+1,2)=some ↑(u.atK k 2)/\(w5.alloc (.cells (hdC λ_=>hdz) 154)).cell? (w1.heap.size+1,3)=some ↑(u.atK k 3)/\(w5.alloc (.cells (hdC λ_=>hdz) 154)).cell? (w1.heap.size+1,4)=some ↑(u.atK k 4)/\(w5.alloc (.cells (hdC λ_=>hdz) 154)).cell? (w1.heap.size+1,5)=some ↑(u.atK k 5)/\(w5.alloc (.cells (hdC λ_=>hdz) 154)).cell? (w1.heap.size+1,6)=some ↑(u.atK k 6)/\(w5.alloc (.cells (hdC λ_=>hdz) 154)).cell? (w1.heap.size+1,7)=some ↑(u.atK k 7))/\∃w6,(storeCells (w5,0) (hdC f).toList).run Tryz.prog (w5.alloc (.cells (hdC λ_=>hdz) 154))=.ok () w6/\(w6.cell? (x,1)=some ↑(q.gs,0)/\w6.cell? (w1,0)=some (.slice (V 0) (u.bsK k 0).length (c 0))/\w6.cell? (w1,1)=some (.slice (V 1) (u.bsK k 1).length (c 1))/\w6.cell? (w1,2)=some (.slice (V 2) (u.bsK k 2).length (c 2))/\w6.cell? (w1,3)=some (.slice (V 3) (u.bsK k 3).length (c 3))/\w6.cell? (w1,4)=some (.slice (V 4) (u.bsK k 4).length (c 4))/\w6.cell? (w1,5)=some (.slice (V 5) (u.bsK k 5).length (c 5))/\w6.cell? (w1,6)=some (.slice (V 6) (u.bsK k 6).length (c 6))/\w6.cell? (w1,7)=some (.slice (V 7) (u.bsK k 7).length (c 7))/\w6.cell? (w1.heap.size+1,0)=some ↑(u.atK k 0)/\w6.cell? (w1.heap.size+1,1)=some ↑(u.atK k 1)/\w6.cell? (w1.heap.size+1,2)=some ↑(u.atK k 2)/\w6.cell? (w1.heap.size+1,3)=some ↑(u.atK k 3)/\w6.cell? (w1.heap.size+1,4)=some ↑(u.atK k 4)/\w6.cell? (w1.heap.size+1,5)=some ↑(u.atK k 5)/\w6.cell? (w1.heap.size+1,6)=some ↑(u.atK k 6)/\w6.cell? (w1.heap.size+1,7)=some ↑(u.atK k 7))/\TA B P k x u fl q.nb q.gp w5 f wr.drew W 0 (w5.heap.size::(hdB f++((w1.heap.size+1)::w1.heap.size::P))) q w6)) λe w5⟨f,e0,hsc,hw5,hbw⟩=>⟨f,e0,af (by
    have hY5:Blk w5 w1 (sl8 V c (u.bsK k)) 150:=(hbw.k w1 (by simp)).trans h.Y.drew;have hZ5:Blk w5 (w1.heap.size+1) (i8 (u.atK k)) 22:=(hbw.k (w1.heap.size+1) (by simp)).trans h.Z.drew;have hl:=r9 w5 w5 rfl f 154;have hth:=vn w5 w5 rfl 154;have hTA:=TA.behind (P:=P) hw5 hsc (λp hp=>by simp[hp]) ((h.bw.trans (Bw.RP wr)).trans (hbw.less (λp hp=>by simp[hp])));have T3:=hSW.o (w5.alloc (.cells (hdC λ_=>hdz) 154)) (hY5.alloc _) (hZ5.alloc _) ((hw5.box (.cells (hdC λ_=>hdz) 154)).blk.cell 1 rfl);have T4:=hSW.o _ (hY5.below hl.2 hY5.lt) (hZ5.below hl.2 hZ5.lt) ((hw5.below hl.2).blk.cell 1 rfl);rw[show(40:Nat)=(hdC f).size from rfl]at hth;exact⟨lH f (λi hi=>(hsc.forms i hi).1) (λi hi=>(hsc.forms i hi).2),hSW.o w5 hY5 hZ5 (hw5.blk.cell 1 rfl),T3,_,su hth (lH f (λi hi=>(hsc.forms i hi).1) (λi hi=>(hsc.forms i hi).2)),T4,hTA⟩)⟩)
   have HS2:=af (HS2.mono (R':=λe w5=>∃f,e=.returned (.tuple #[.agg (hdC f),↑(0:Int)])/\Hid (((hdC f).all (·.oneCell')=true)/\(w5.cell? (x,1)=some ↑(q.gs,0)/\w5.cell? (w1,0)=some (.slice (V 0) (u.bsK k 0).length (c 0))/\w5.cell? (w1,1)=some (.slice (V 1) (u.bsK k 1).length (c 1))/\w5.cell? (w1,2)=some (.slice (V 2) (u.bsK k 2).length (c 2))/\w5.cell? (w1,3)=some (.slice (V 3) (u.bsK k 3).length (c 3))/\w5.cell? (w1,4)=some (.slice (V 4) (u.bsK k 4).length (c 4))/\w5.cell? (w1,5)=some (.slice (V 5) (u.bsK k 5).length (c 5))/\w5.cell? (w1,6)=some (.slice (V 6) (u.bsK k 6).length (c 6))/\w5.cell? (w1,7)=some (.slice (V 7) (u.bsK k 7).length (c 7))/\w5.cell? (w1.heap.size+1,0)=some ↑(u.atK k 0)/\w5.cell? (w1.heap.size+1,1)=some ↑(u.atK k 1)/\w5.cell? (w1.heap.size+1,2)=some ↑(u.atK k 2)/\w5.cell? (w1.heap.size+1,3)=some ↑(u.atK k 3)/\w5.cell? (w1.heap.size+1,4)=some ↑(u.atK k 4)/\w5.cell? (w1.heap.size+1,5)=some ↑(u.atK k 5)/\w5.cell? (w1.heap.size+1,6)=some ↑(u.atK k 6)/\w5.cell? (w1.heap.size+1,7)=some ↑(u.atK k 7))/\∃w6,(storeCells (wr,0) (hdC f).toList).run Tryz.prog w5=.ok () w6/\(w6.cell? (x,1)=some ↑(q.gs,0)/\w6.cell? (w1,0)=some (.slice (V 0) (u.bsK k 0).length (c 0))/\w6.cell? (w1,1)=some (.slice (V 1) (u.bsK k 1).length (c 1))/\w6.cell? (w1,2)=some (.slice (V 2) (u.bsK k 2).length (c 2))/\w6.cell? (w1,3)=some (.slice (V 3) (u.bsK k 3).length (c 3))/\w6.cell? (w1,4)=some (.slice (V 4) (u.bsK k 4).length (c 4))/\w6.cell? (w1,5)=some (.slice (V 5) (u.bsK k 5).length (c 5))/\w6.cell? (w1,6)=some (.slice (V 6) (u.bsK k 6).length (c 6))/\w6.cell? (w1,7)=some (.slice (V 7) (u.bsK k 7).length (c 7))/\w6.cell? (w1.heap.size+1,0)=some ↑(u.atK k 0)/\w6.cell? (w1.heap.size+1,1)=some ↑(u.atK k 1)/\w6.cell? (w1.heap.size+1,2)=some ↑(u.atK k 2)/\w6.cell? (w1.heap.size+1,3)=some ↑(u.atK k 3)/\w6.cell? (w1.heap.size+1,4)=some ↑(u.atK k 4)/\w6.cell? (w1.heap.size+1,5)=some ↑(u.atK k 5)/\w6.cell? (w1.heap.size+1,6)=some ↑(u.atK k 6)/\w6.cell? (w1.heap.size+1,7)=some ↑(u.atK k 7))/\TA B P k x u fl q.nb q.gp wr f (wr.alloc (.cells (hdC λ_=>hdz) 154)).drew.heap.size W 0 (hdB f++(wr.heap.size::(w1.heap.size+1)::w1.heap.size::P)) q w6)) λe w5⟨f,e0,hsc,hw5,hbw⟩=>⟨f,e0,af (by
    have hY5:Blk w5 w1 (sl8 V c (u.bsK k)) 150:=(hbw.k w1 (by simp)).trans (h.Y.alloc (.cells (hdC λ_=>hdz) 154)).drew;have hZ5:Blk w5 (w1.heap.size+1) (i8 (u.atK k)) 22:=(hbw.k (w1.heap.size+1) (by simp)).trans (h.Z.alloc (.cells (hdC λ_=>hdz) 154)).drew;have hX5:Blk w5 wr (hdC λ_=>hdz) 154:=(hbw.k wr (by simp)).trans (aJ wr wr rfl (hdC λ_=>hdz) 154).drew;have hth:w5.there wr 0 (hdC f).size:=λi hi=>⟨by rw[bU,hX5.cell i (cm (by simpa[hdC]using hi))];rfl,hX5.frozen _⟩;have o6:Only wr w5 (w5.setCells wr 0 (hdC f).toList):=Only.setCells _ 0 (aE _ _);have hYl:=h.Y.lt;have hZl:=h.Z.lt;have hxl:=h.win.lt.1;have hxb:=h.win.bas.1;have T4:=hSW.o _ (hY5.only o6 (by omega)) (hZ5.only o6 (by omega)) ((hw5.only (.inl (by simp)) o6).blk.cell 1 rfl);exact⟨lH f (λi hi=>(hsc.forms i hi).1) (λi hi=>(hsc.forms i hi).2),hSW.o w5 hY5 hZ5 (hw5.blk.cell 1 rfl),_,su hth (lH f (λi hi=>(hsc.forms i hi).1) (λi hi=>(hsc.forms i hi).2)),T4,TA.ahead (P:=P) hw5 hsc (by simp) (by simp) (λp hp=>⟨by simp[hp],by have:=hin p hp;omega⟩) (by omega) ((h.bw.trans (Bw.box wr (.cells (hdC λ_=>hdz) 154) hxb hxl hin)).trans (hbw.less (λp hp=>by simp[hp]))) hth⟩)⟩)
   rw[Ah]at HS1 HS2 T1;have h:=af h;clear hd hx;go_wp2_with fail
   go_region_held3 (λW=>W.cell? (x,1)=some ↑(q.gs,0)/\W.cell? (w1,0)=some (.slice (V 0) (u.bsK k 0).length (c 0))/\W.cell? (w1,1)=some (.slice (V 1) (u.bsK k 1).length (c 1))/\W.cell? (w1,2)=some (.slice (V 2) (u.bsK k 2).length (c 2))/\W.cell? (w1,3)=some (.slice (V 3) (u.bsK k 3).length (c 3))/\W.cell? (w1,4)=some (.slice (V 4) (u.bsK k 4).length (c 4))/\W.cell? (w1,5)=some (.slice (V 5) (u.bsK k 5).length (c 5))/\W.cell? (w1,6)=some (.slice (V 6) (u.bsK k 6).length (c 6))/\W.cell? (w1,7)=some (.slice (V 7) (u.bsK k 7).length (c 7))/\W.cell? (w1.heap.size+1,0)=some ↑(u.atK k 0)/\W.cell? (w1.heap.size+1,1)=some ↑(u.atK k 1)/\W.cell? (w1.heap.size+1,2)=some ↑(u.atK k 2)/\W.cell? (w1.heap.size+1,3)=some ↑(u.atK k 3)/\W.cell? (w1.heap.size+1,4)=some ↑(u.atK k 4)/\W.cell? (w1.heap.size+1,5)=some ↑(u.atK k 5)/\W.cell? (w1.heap.size+1,6)=some ↑(u.atK k 6)/\W.cell? (w1.heap.size+1,7)=some ↑(u.atK k 7))
    ((first|exact T0|exact T1|exact T2|exact T3|exact T4))
    (first
     |(go_at_call 69;first
      |(with_reducible refine HS1.o.mono ?_;rintro e w5 ⟨f,rfl,hbd⟩;obtain⟨-,T2,T3,w6,hst,T4,hTA⟩:=hbd.o;have hTA:=af hTA;clear hbd)
      |(with_reducible refine HS2.o.mono ?_;rintro e w5 ⟨f,rfl,hbd⟩;obtain⟨-,T2,w6,hst,T4,hTA⟩:=hbd.o;have hTA:=af hTA;clear hbd)
      |fail)
     |fail)
   have oD:∃S E,TA B P k x u fl q.nb q.gp w5 f S W 0 E q w6:=⟨_,_,hTA.o⟩;obtain⟨SS,EE,hT⟩:=oD;have x0:=hT.win.blk.cell 0 (x:=.slice (some (q.nb,0)) k q.cap) rfl;have hT:=af hT;clear hTA T0 T1 T2 T4 hst x1 y0 y1 y2 y3 y4 y5 y6 y7 z0 z1 z2 z3 z4 z5 z6 z7 hSW e1 HS1 HS2 h hin;generalize w5.heap.size=ph at *;rotate_left 1;have oD:∃S E,TA B P k x u fl q.nb q.gp wr f S W 0 E q w6:=⟨_,_,hTA.o⟩;obtain⟨SS,EE,hT⟩:=oD;have x0:=hT.win.blk.cell 0 (x:=.slice (some (q.nb,0)) k q.cap) rfl;have hT:=af hT;clear hTA T0 T1 T2 T4 hst x1 y0 y1 y2 y3 y4 y5 y6 y7 z0 z1 z2 z3 z4 z5 z6 z7 hSW e1 HS1 HS2 h hin;generalize wr.heap.size=ph at *
   all_goals
    go_wp2_with fail
    go_loopw [51] (λi wz=>∃(j:Nat)(q':WP),j<=k/\i=↑(j:Nat)/\TA B P k x u fl q.nb q.gp ph f SS W j EE q' wz) (λi _=>k-(intOf i).toNat)
    case atStart=>exact⟨0,q,by omega,rfl,hT.o⟩
    case round=>
     clear hT x0;obtain⟨j,q',hj,rfl,h⟩:=hrel;by_cases hlt:j<k
     ·have r2:decide ((j:Int)<(k:Nat))=true:=by simp;omega
      have j8:(j:Int)<8:=by omega
      have ptr:=h.win.ptr j hlt;rw[h.nb,h.gp]at ptr;obtain⟨c0,c1,c2,c3,c4⟩:=h.H.get j (by omega);have HT:=af (h.take ok his hlt);clear h;go_wp2_with fail;refine HT.o.mono ?_;rintro e w8 ⟨q2,rfl,h2⟩;have h2:=af h2;clear HT c0 c1 c2 c3 c4 ptr;go_wp2_with fail;go_roundw
      case rel=>exact⟨j+1,q2,by omega,by go_num,h2.o⟩
      case measure=>simp[intOf];omega
     ·obtain rfl:j=k:=by omega
      have r2:decide ((j:Int)<(j:Nat))=false:=by simp
      have s2:=h.win.blk.cell 2 (x:=↑(u.sl:Nat)) rfl;have f2:=h.win.blk.frozen 2;have z1:IntKind.i64.wrap ((u.sl:Int)+1)=(u.sl:Int)+1:=aO _ (by omega);have hz:((u.sl+1:Nat):Int)=(u.sl:Int)+1:=by omega
      have hfin:Hid (WAt B P j (wr.setCell (x,2) ↑((u.sl:Int)+1:Int)) x (u.slot j fl)/\Bw B P W (wr.setCell (x,2) ↑((u.sl:Int)+1:Int))):=af (by
       have hs:=h.win.slots (u.sl+1);rw[hz,WM.zX]at hs;refine⟨⟨q',hs.less h.ps⟩,h.bw.trans (Bw.rR ((aE x wr).set 2 _) h.win.bas.1 h.win.lt.1 λr hr=>⟨(h.win.o r (h.ps r hr)).1,(h.win.o r (h.ps r hr)).2.1⟩)⟩)
      clear h hz;go_wp2_with fail;go_ret;exact⟨rfl,hfin.o.1,hfin.o.2⟩
end
section
set_option maxRecDepth 100000
set_option maxHeartbeats 8000000
open Go.RowKit
open Fr (St F)
theorem Oa(b:Bool)(G:GS)(g:Nat)(m:NM)(x:RX)(h:Hn)(vx vy:Value)(l:List Int)(w:World)(hm:RA b G w g m x)(hG:GN G w)(hh:HOk w h vx vy)(hst:m.st=2\/m.st=3\/m.st=4)(hs:m.sl≠m.i)(hsl:m.sl<m.t.ns.length/\m.t.ns.length<=8)(hta:m.ty.a<1000/\m.ty.f<1000)(hn:m.lg h=some l)(hd:iK (Fr.res l m.own).d)(hsy:(m.at_ m.sl).sy=false)(hN:NG (m.took (m.ty.right (m.sl:Nat)) (m.so.put (m.sl:Nat) (Fr.res l m.own).d) m.ck)):Tke G g ((m.took (m.ty.right (m.sl:Nat)) (m.so.put (m.sl:Nat) (Fr.res l m.own).d) m.ck):NM).goOn h vx vy w:=by
 unfold Tke;have hb0:=(ah w w).alloc lr (.cells (aH h vx vy) 153);have hX0:=aJ w w rfl (aH h vx vy) 153;have hm0:=hm.below hb0;have HT:=λa v W=>af (rF a v W);have HF:=λW(hW:Below w w W)=>af (Ef b G g m x h vx vy l (by omega) W (hh.below hW) (hm.below hW) hn);obtain⟨ux,hux⟩:∃ux,jZ h.a vx=ux:=⟨_,rfl⟩;obtain⟨uy,huy⟩:∃uy,jZ h.b vy=uy:=⟨_,rfl⟩;have HTx:∀W,Hid (Calls Tryz.prog 127 #[↑h.a,vx] W λe w'=>e=.returned ux/\w'=W):=λW=>hux▸HT h.a vx W;have HTy:∀W,Hid (Calls Tryz.prog 127 #[↑h.b,vy] W λe w'=>e=.returned uy/\w'=W):=λW=>huy▸HT h.b vy W;rw[hux,huy]at HF;clear hux huy HT;obtain⟨Ax,cx,rfl,-⟩:=hh.x.at_;obtain⟨Ay,cy,rfl,-⟩:=hh.y.at_;have hk:=af (λW(hW:Below w w W)=>hm.past hW);have c6:=hm0.c6;have c8:=hm0.c8;have c4:=hm0.c4;have q:(((m.sl:Nat):Int)==((m.i:Nat):Int))=false:=by rw[aB];omega
 have ho:=hh.o;have hN:=af hN;have Ej:m.sl<8:=by omega
 clear hh hn hs;obtain⟨fr,hfr⟩:∃fr,Fr.res l m.own=fr:=⟨_,rfl⟩;rw[hfr]at HF hd hN;have xM:=af hfr;clear hfr;obtain⟨fk,⟨f_r,f_s,f_m⟩,fd⟩:=fr;simp only at HF hd;obtain⟨zi,hzi⟩:∃z:Int,((m.i:Nat):Int)=z:=⟨_,rfl⟩;rw[hzi]at c4 q;clear hzi;unfold hdV;obtain⟨zs,hzs⟩:∃z:Int,((m.st:Nat):Int)=z:=⟨_,rfl⟩;rw[hzs]at c6;have z0:(zs==0)=false:=by rw[aB];omega
 have z5:(zs==5)=false:=by rw[aB];omega
 have z1:(zs==1)=false:=by rw[aB];omega
 clear hzs hst
 go_enter Tryz.func76,Tryz.ntmps76
 go_wp2_with fail;clear hm hm0 c6 c8 c4;generalize w.alloc (.cells (aH h (.slice Ax h.x.length cx) (.slice Ay h.y.length cy)) 153)=w0 at *;have b0:=hb0;have HS:∀W,Below w0 w0 W->(W.cell? (w,0)=some ↑h.a/\W.cell? (w,1)=some ↑h.b/\W.cell? (w,2)=some (.slice Ax h.x.length cx)/\W.cell? (w,3)=some (.slice Ay h.y.length cy)):=λW hW=>by
  have h':=hX0.below hW hX0.lt;exact⟨h'.cell 0 rfl,h'.cell 1 rfl,h'.cell 2 rfl,h'.cell 3 rfl⟩
 have br:=(ah w0 w0).drew;have S0:=af (HS _ br);have HH:=af HS;clear HS
 go_cut [5,6]from 50 to 64 (λs5 s6 wx=>∃a A2 c2,s5=.pointer (some ⟨a,0,none⟩)/\s6=↑true/\Blk wx a (aF fk f_r f_s f_m A2 (fd.length) c2) 182/\iJ wx w0 (.slice A2 fd.length c2) fd/\Below w0 w0 wx/\w0.heap.size<=a)
 case first=>
  refine cW (S:=λW=>W.cell? (w,0)=some ↑h.a/\W.cell? (w,1)=some ↑h.b/\W.cell? (w,2)=some (.slice Ax h.x.length cx)/\W.cell? (w,3)=some (.slice Ay h.y.length cy)) (by kernel_rfl) S0.o (λhHeld=>?_);refine wT 0 51 ?_;refine wT 1 52 ?_;refine wT 2 53 ?_;refine wT 3 54 ?_;refine wT 4 55 ?_;refine wT 6 57 ?_;refine wT 7 58 ?_;refine wT 8 59 ?_;refine wT 9 60 ?_;refine aM (rs:=[5,15]) (by kernel_rfl) (by simp) ?_;refine(aA rfl (λK hK=>?_) (aA rfl (λK hK=>?_) aG))
  ·skip
   go_simp;refine(HTx _).o.mono ?_;rintro _ _ ⟨rfl,rfl⟩;refine hK.o _ _ (HH.o _ br) (λhHeld=>?_);clear hK K
   try simp only[qq]
   refine aM (rs:=[10,15]) (by kernel_rfl) (by simp) ?_;refine(aA rfl (λK hK=>?_) (aA rfl (λK hK=>?_) aG))
   ·skip
    go_simp;refine(HTy _).o.mono ?_;rintro _ _ ⟨rfl,rfl⟩;refine hK.o _ _ (HH.o _ br) (λhHeld=>?_);clear hK K
    try simp only[qq]
    refine aM (rs:=[11,15]) (by kernel_rfl) (by simp) ?_;refine(aA rfl (λK hK=>?_) (aA rfl (λK hK=>?_) aG))
    ·skip
     go_simp;refine(HF _ (b0.trans (br.mono b0.size))).o.mono ?_;rintro _ w13 ⟨v,rfl,hv,d13⟩;obtain⟨A2,c2,rfl,-⟩:=hv.sees.at_;unfold frV;simp only
     (try simp only at hv)
     have b13:=br.trans (d13.mono br.size);refine hK.o _ _ (HH.o _ b13) (λhHeld=>?_);clear hK K
     try simp only[qq]
     refine wT 12 50 ?_;refine wT 13 63 ?_;refine wT 14 64 ?_;refine aM (rs:=[15]) (by kernel_rfl) (by simp) ?_;refine(aA rfl (λK hK=>?_) aG);go_simp;have b14:=b13.alloc b13.size (.cells zF 182);have X14:=aJ w13 (w13).heap.size rfl zF 182;refine hK.o _ _ (HH.o _ b14) (λhHeld=>?_);clear hK K
     try simp only[qq]
     refine aM (rs:=[16]) (by kernel_rfl) (by simp) ?_;refine(aA rfl (λK hK=>?_) aG);have y0:=X14.cell 0 (x:=↑(0:Int)) rfl;have z0:=X14.frozen 0;have y1:=X14.cell 1 (x:=↑(0:Int)) rfl;have z1:=X14.frozen 1;have y2:=X14.cell 2 (x:=↑(0:Int)) rfl;have z2:=X14.frozen 2;have y3:=X14.cell 3 (x:=↑(0:Int)) rfl;have z3:=X14.frozen 3;have y4:=X14.cell 4 (x:=.slice none 0 0) rfl;have z4:=X14.frozen 4;go_simp;have XF:=aJ w13 (w13).heap.size rfl (aF fk f_r f_s f_m A2 (fd.length) c2) 182;have bF:=b13.alloc b13.size (.cells (aF fk f_r f_s f_m A2 (fd.length) c2) 182);have le:w0.heap.size<=(w13).heap.size:=b13.size;refine hK.o _ _ (HH.o _ bF) (λhHeld=>?_);clear y0 z0 y1 z1 y2 z2 y3 z3 y4 z4;clear hK K
     try simp only[qq]
     refine wT 17 6 ?_;refine bP (by kernel_rfl) ?_ _;have hv5:=hv.alloc (.cells (aF fk f_r f_s f_m A2 (fd.length) c2) 182);go_wp2_with fail
     go_meet
     exact⟨_,A2,c2,rfl,rfl,XF,hv5.base (by have:=br.size;first|(simp;done)|(simp at this ⊢;omega)),bF,le⟩
    ·skip
     go_simp;have b16:=br.alloc br.size (.cells zF 182);have X16:=aJ w0.drew w0 rfl zF 182;refine hK.o _ _ (HH.o _ b16) (λhHeld=>?_);clear hK K
     try simp only[qq]
     refine aM (rs:=[11]) (by kernel_rfl) (by simp) ?_;refine(aA rfl (λK hK=>?_) aG);go_simp;refine(HF _ (b0.trans (b16.mono b0.size))).o.mono ?_;rintro _ w17 ⟨v,rfl,hv,d17⟩;obtain⟨A2,c2,rfl,-⟩:=hv.sees.at_;unfold frV;simp only
     (try simp only at hv)
     have b17:=b16.trans (d17.mono b16.size);have iV:=X16.below d17 X16.lt;refine hK.o _ _ (HH.o _ b17) (λhHeld=>?_);clear hK K
     try simp only[qq]
     refine wT 12 50 ?_;refine wT 13 63 ?_;refine wT 14 64 ?_;refine aM (rs:=[16]) (by kernel_rfl) (by simp) ?_;refine(aA rfl (λK hK=>?_) aG);have y0:=iV.cell 0 (x:=↑(0:Int)) rfl;have z0:=iV.frozen 0;have y1:=iV.cell 1 (x:=↑(0:Int)) rfl;have z1:=iV.frozen 1;have y2:=iV.cell 2 (x:=↑(0:Int)) rfl;have z2:=iV.frozen 2;have y3:=iV.cell 3 (x:=↑(0:Int)) rfl;have z3:=iV.frozen 3;have y4:=iV.cell 4 (x:=.slice none 0 0) rfl;have z4:=iV.frozen 4;go_simp;have le:w0.heap.size<=w0.heap.size:=br.size;have XF:Blk _ w0 (aF fk f_r f_s f_m A2 (fd.length) c2) 182:=(((((iV.set 0 ↑fk).set 1 ↑f_r).set 2 ↑f_s).set 3 ↑f_m).set 4 (.slice A2 fd.length c2)).eq (by simp);have bF:=(((((b17.setCell (p:=(w0.heap.size,0)) le ↑fk).setCell (p:=(w0.heap.size,1)) le ↑f_r).setCell (p:=(w0.heap.size,2)) le ↑f_s).setCell (p:=(w0.heap.size,3)) le ↑f_m).setCell (p:=(w0.heap.size,4)) le (.slice A2 fd.length c2));refine hK.o _ _ (HH.o _ bF) (λhHeld=>?_);clear y0 z0 y1 z1 y2 z2 y3 z3 y4 z4;clear hK K
     try simp only[qq]
     refine wT 17 6 ?_;refine bP (by kernel_rfl) ?_ _;have hv5:=(((((hv.iN (w0,0) ↑fk (by simp)).iN (w0,1) ↑f_r (by simp)).iN (w0,2) ↑f_s (by simp)).iN (w0,3) ↑f_m (by simp)).iN (w0,4) (.slice A2 fd.length c2) (by simp));go_wp2_with fail
     go_meet
     exact⟨_,A2,c2,rfl,rfl,XF,hv5.base (by have:=br.size;first|(simp;done)|(simp at this ⊢;omega)),bF,le⟩
   ·skip
    go_simp;have b19:=br.alloc br.size (.cells zF 182);have X19:=aJ w0.drew w0 rfl zF 182;refine hK.o _ _ (HH.o _ b19) (λhHeld=>?_);clear hK K
    try simp only[qq]
    refine aM (rs:=[10]) (by kernel_rfl) (by simp) ?_;refine(aA rfl (λK hK=>?_) aG);go_simp;refine(HTy _).o.mono ?_;rintro _ _ ⟨rfl,rfl⟩;refine hK.o _ _ (HH.o _ b19) (λhHeld=>?_);clear hK K
    try simp only[qq]
    refine aM (rs:=[11]) (by kernel_rfl) (by simp) ?_;refine(aA rfl (λK hK=>?_) aG);go_simp;refine(HF _ (b0.trans (b19.mono b0.size))).o.mono ?_;rintro _ w21 ⟨v,rfl,hv,d21⟩;obtain⟨A2,c2,rfl,-⟩:=hv.sees.at_;unfold frV;simp only
    (try simp only at hv)
    have b21:=b19.trans (d21.mono b19.size);have iW:=X19.below d21 X19.lt;refine hK.o _ _ (HH.o _ b21) (λhHeld=>?_);clear hK K
    try simp only[qq]
    refine wT 12 50 ?_;refine wT 13 63 ?_;refine wT 14 64 ?_;refine aM (rs:=[16]) (by kernel_rfl) (by simp) ?_;refine(aA rfl (λK hK=>?_) aG);have y0:=iW.cell 0 (x:=↑(0:Int)) rfl;have z0:=iW.frozen 0;have y1:=iW.cell 1 (x:=↑(0:Int)) rfl;have z1:=iW.frozen 1;have y2:=iW.cell 2 (x:=↑(0:Int)) rfl;have z2:=iW.frozen 2;have y3:=iW.cell 3 (x:=↑(0:Int)) rfl;have z3:=iW.frozen 3;have y4:=iW.cell 4 (x:=.slice none 0 0) rfl;have z4:=iW.frozen 4;go_simp;have le:w0.heap.size<=w0.heap.size:=br.size;have XF:Blk _ w0 (aF fk f_r f_s f_m A2 (fd.length) c2) 182:=(((((iW.set 0 ↑fk).set 1 ↑f_r).set 2 ↑f_s).set 3 ↑f_m).set 4 (.slice A2 fd.length c2)).eq (by simp);have bF:=(((((b21.setCell (p:=(w0.heap.size,0)) le ↑fk).setCell (p:=(w0.heap.size,1)) le ↑f_r).setCell (p:=(w0.heap.size,2)) le ↑f_s).setCell (p:=(w0.heap.size,3)) le ↑f_m).setCell (p:=(w0.heap.size,4)) le (.slice A2 fd.length c2));refine hK.o _ _ (HH.o _ bF) (λhHeld=>?_);clear y0 z0 y1 z1 y2 z2 y3 z3 y4 z4;clear hK K
    try simp only[qq]
    refine wT 17 6 ?_;refine bP (by kernel_rfl) ?_ _;have hv5:=(((((hv.iN (w0,0) ↑fk (by simp)).iN (w0,1) ↑f_r (by simp)).iN (w0,2) ↑f_s (by simp)).iN (w0,3) ↑f_m (by simp)).iN (w0,4) (.slice A2 fd.length c2) (by simp));go_wp2_with fail
    go_meet
    exact⟨_,A2,c2,rfl,rfl,XF,hv5.base (by have:=br.size;first|(simp;done)|(simp at this ⊢;omega)),bF,le⟩
  ·skip
   go_simp;have b23:=br.alloc br.size (.cells zF 182);have X23:=aJ w0.drew w0 rfl zF 182;refine hK.o _ _ (HH.o _ b23) (λhHeld=>?_);clear hK K
   try simp only[qq]
   refine aM (rs:=[5]) (by kernel_rfl) (by simp) ?_;refine(aA rfl (λK hK=>?_) aG);go_simp;refine(HTx _).o.mono ?_;rintro _ _ ⟨rfl,rfl⟩;refine hK.o _ _ (HH.o _ b23) (λhHeld=>?_);clear hK K
   try simp only[qq]
   refine aM (rs:=[10]) (by kernel_rfl) (by simp) ?_;refine(aA rfl (λK hK=>?_) aG);go_simp;refine(HTy _).o.mono ?_;rintro _ _ ⟨rfl,rfl⟩;refine hK.o _ _ (HH.o _ b23) (λhHeld=>?_);clear hK K
   try simp only[qq]
   refine aM (rs:=[11]) (by kernel_rfl) (by simp) ?_;refine(aA rfl (λK hK=>?_) aG);go_simp;refine(HF _ (b0.trans (b23.mono b0.size))).o.mono ?_;rintro _ w26 ⟨v,rfl,hv,d26⟩;obtain⟨A2,c2,rfl,-⟩:=hv.sees.at_;unfold frV;simp only
   (try simp only at hv)
   have b26:=b23.trans (d26.mono b23.size);have iX:=X23.below d26 X23.lt;refine hK.o _ _ (HH.o _ b26) (λhHeld=>?_);clear hK K
   try simp only[qq]
   refine wT 12 50 ?_;refine wT 13 63 ?_;refine wT 14 64 ?_;refine aM (rs:=[16]) (by kernel_rfl) (by simp) ?_;refine(aA rfl (λK hK=>?_) aG);have y0:=iX.cell 0 (x:=↑(0:Int)) rfl;have z0:=iX.frozen 0;have y1:=iX.cell 1 (x:=↑(0:Int)) rfl;have z1:=iX.frozen 1;have y2:=iX.cell 2 (x:=↑(0:Int)) rfl;have z2:=iX.frozen 2;have y3:=iX.cell 3 (x:=↑(0:Int)) rfl;have z3:=iX.frozen 3;have y4:=iX.cell 4 (x:=.slice none 0 0) rfl;have z4:=iX.frozen 4;go_simp;have le:w0.heap.size<=w0.heap.size:=br.size;have XF:Blk _ w0 (aF fk f_r f_s f_m A2 (fd.length) c2) 182:=(((((iX.set 0 ↑fk).set 1 ↑f_r).set 2 ↑f_s).set 3 ↑f_m).set 4 (.slice A2 fd.length c2)).eq (by simp);have bF:=(((((b26.setCell (p:=(w0.heap.size,0)) le ↑fk).setCell (p:=(w0.heap.size,1)) le ↑f_r).setCell (p:=(w0.heap.size,2)) le ↑f_s).setCell (p:=(w0.heap.size,3)) le ↑f_m).setCell (p:=(w0.heap.size,4)) le (.slice A2 fd.length c2));refine hK.o _ _ (HH.o _ bF) (λhHeld=>?_);clear y0 z0 y1 z1 y2 z2 y3 z3 y4 z4;clear hK K
   try simp only[qq]
   refine wT 17 6 ?_;refine bP (by kernel_rfl) ?_ _;have hv5:=(((((hv.iN (w0,0) ↑fk (by simp)).iN (w0,1) ↑f_r (by simp)).iN (w0,2) ↑f_s (by simp)).iN (w0,3) ↑f_m (by simp)).iN (w0,4) (.slice A2 fd.length c2) (by simp));go_wp2_with fail
   go_meet
   exact⟨_,A2,c2,rfl,rfl,XF,hv5.base (by have:=br.size;first|(simp;done)|(simp at this ⊢;omega)),bF,le⟩
 case rest=>
  obtain⟨fa,A2,c2,rfl,rfl,hF,hv,bc,hfa⟩:=hcut;have hXc:=hX0.below bc hX0.lt;have bw:=b0.trans (bc.mono b0.size);have hmc:=hk.o _ bw;have kc:=af (iZ (G:=G) bw);have hGc:=Gp.gn hG bw.size;have hsz:=b0.size;have hK2:Hid (∀W,KG (Gp G w wc) wc W->Blk W fa (aF fk f_r f_s f_m A2 (fd.length) c2) 182/\Blk W w (aH h (.slice Ax h.x.length cx) (.slice Ay h.y.length cy)) 153/\iI W W (.slice A2 fd.length c2) fd):=af λW k=>
   ⟨k.blk (by omega) hF,k.blk lr hXc,k.xI hv.sees (λk h0 e=>by have:=(hv.lt k e).1;omega)⟩
  have hK:Hid (∀W,KG (Gp G w wc) wc W->True/\GN (Gp G w wc) W):=af λW k=>⟨trivial,hGc.up k.size⟩;have hgm:=hmc.gs x.m (by simp[RX.own]);have uF:=hmc.gs x.s (by simp[RX.own]);have hg:=hmc.G_;have c9:=hmc.c9;have hW:=af (xJ x.m m.ty (m.sl:Nat) wc hmc.ty hta.1);have hmc:=af hmc;clear S0 HH HTx HTy HF hXc hk hX0 bw hGc br hF hv;go_wp2_with fail;refine hW.o.mono ?_;rintro _ w2 ⟨rfl,hT2,o2⟩;have h2:=hmc.o.upM hT2 o2;have hd2:=h2.drew;have kd2:=af ((o2.kg (G:=Gp G w wc) hgm).trans (iZ (ah _ w2).drew));clear hW hmc hT2 o2 c9;obtain⟨hF2,-,hs2⟩:=hK2.o w2.drew kd2.o;have HS:∀W(m':NM),RA b (Gp G w wc) W g m' x->KG (Gp G w wc) wc W->(W.cell? (g,13)=some ↑(x.s,0)/\W.cell? (fa,4)=some (.slice A2 fd.length c2)):=λW m' h k=>⟨h.c13,(hK2.o W k).1.cell 4 rfl⟩;have S0:=af (HS _ _ hd2 kd2.o);have hP:=af (xL (Gp G w wc) (x.own g) x.s m.so (m.sl:Nat) (.slice A2 fd.length c2) fd w2.drew w2.drew hd2.so (by simp[RX.own]) (λf hf=>hd2.lts f (aT _ hf)) (hK.o _ kd2.o).2 hs2 hd);have hUp:=af (λw8 so(hT:SRt (Gp G w wc) (x.own g) w8 x.s so)(o:Only x.s w2.drew w8)=>hd2.upS hT o);have HSH:=af HS;clear h2 hd2 hF2 hs2 HS;go_wp2_with fail
  go_region_held3 (λW=>W.cell? (g,13)=some ↑(x.s,0)/\W.cell? (fa,4)=some (.slice A2 fd.length c2)) ((first|exact S0.o|exact S1.o))
   (first
    |(go_at_call 129;refine hP.o.mono ?_;rintro _ w3 ⟨rfl,hT3,o3⟩;(have h3:=hUp.o w3 _ hT3 o3);(have k3:=af (kd2.o.trans (o3.kg uF)));(have S1:=af (HSH.o w3 _ h3 k3.o)))
    |fail)
  clear S0 S1 HSH hP hUp hT3 o3 kd2;have h3:RA b (Gp G w wc) w3 g ({m with ty:=m.ty.right (m.sl:Nat),so:=m.so.put (m.sl:Nat) fd}:NM) x:=h3;obtain⟨bl,off,cn,c0,hbl,⟨e0,-,-,-⟩,hcn⟩:=h3.lV (j:=m.sl) hsl.1;have d0:w3.cell? (bl,off+m.sl*4)=some ↑(m.at_ m.sl).sy:=e0;rw[hsy]at d0;have c0:w3.cell? (g,0)=some (.slice (some (bl,off)) m.t.ns.length cn):=c0;clear e0;have OL:=hsl.1;have h5:=af h3;have k5:=k3;clear h3 k3;go_wp2_with fail;clear c0 d0;generalize hw5:w3=w5 at *;clear hw5;have hd9:=h5.o.drew;have HS:∀W(m':NM),RA b (Gp G w wc) W g m' x->(W.cell? (g,13)=some ↑(x.s,0)/\W.cell? (g,9)=some ↑(x.m,0)):=λW m' h=>⟨h.c13,h.c9⟩;have S0:=af (HS _ _ hd9);have hgs:=hd9.gs x.s (by simp[RX.own]);have hI:=af (uD x.m (m.ty.right (m.sl:Nat)) (m.sl:Nat) w5.drew hd9.ty);have hM:=af (λn=>uE (Gp G w wc) (x.own g) x.s (m.so.put (m.sl:Nat) fd) (m.sl:Nat) (isB (m.ty.right (m.sl:Nat)).m (m.sl:Nat)) (w5.drewN n) (h5.o.drewN n).so (by simp[RX.own]));have hUp:=af (λn w8 so(hT:SRt (Gp G w wc) (x.own g) w8 x.s so)(o:Only x.s (w5.drewN n) w8)=>(h5.o.drewN n).upS hT o);have S1:=af (λn=>HS _ _ (h5.o.drewN n));have HSH:=af HS;clear h5 hd9 HS
  go_region_held3 (λW=>W.cell? (g,13)=some ↑(x.s,0)/\W.cell? (g,9)=some ↑(x.m,0)) ((first|exact S0.o|exact S1.o _|exact S2.o))
   (first
    |(go_at_call 133;refine hI.o.mono ?_;rintro _ _ ⟨rfl,n,rfl⟩)
    |(go_at_call 132;refine(hM.o (1+n)).mono ?_;rintro _ w8 ⟨rfl,hT8,o8⟩;(have h8:=hUp.o (1+n) w8 _ hT8 o8);(have k10:=af ((k5.o.trans (iZ (aC (ah _ w5) (1+n)))).trans (o8.kg hgs)));(have S2:=af (HSH.o w8 _ h8)))
    |fail)
  have h8:RA b (Gp G w wc) w8 g (m.took (m.ty.right (m.sl:Nat)) (m.so.put (m.sl:Nat) fd) m.ck:NM) x:=h8;obtain⟨-,hG8⟩:=hK.o w8 k10.o;have hO:=af (oU b (Gp G w wc) g _ x w8 h8 hG8 hN.o);unfold OnC at hO;clear S0 S1 S2 HSH hI hM hUp hT8 o8 k5 h8;go_wp2_with fail;refine hO.o.mono ?_;rintro _ w9 ⟨rfl,h10,k11⟩;have hfin:=af (h10.up);have oV:=af (kc.o.trans ((k10.o.trans k11).up));clear hO h10 k11 k10;go_wp2;exact aD (ax (by rfl) _ _ _) rfl ⟨rfl,(by rw[xM.o];exact⟨_,hfin.o⟩),oV.o⟩
end
end Go.Proofs.YteadkhigkmijiaaGreat
