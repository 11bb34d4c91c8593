/- Texts VdK, VlA, RaW, GbA in one. -/
import Derived.Deep.CutRange
import Derived.StillTailTactics
import Derived.Test.YteadkhigkmijiaaGreatPC1
import Derived.Test.YteadkhigkmijiaaGreatPC8
import Derived.Test.YteadkhigkmijiaaGreatPC12
import Derived.Test.YteadkhigkmijiaaGreatPC30
import Derived.Test.YteadkhigkmijiaaGreatPC41
import Derived.Test.YteadkhigkmijiaaGreatPC46
set_option linter.all false
namespace Go.Proofs.YteadkhigkmijiaaGreat
section
set_option maxRecDepth 100000
set_option maxHeartbeats 4000000
open Go.RowKit
def ics(n:Nat):Array Value:=((List.replicate n (0:Int)).map (Value.int .i64)).toArray
theorem RY:(Tryz.prog.info? 3).map (λi=>(i.zero,i.size))=some (some ↑(0:Int),1):=by kernel_rfl
theorem RZ:(Tryz.prog.info? 3).map (λi=>decide (i.bytes<=100))=some true:=by kernel_rfl
theorem R3(n:Nat)(hn:n<=8):madeCells (Value.int .i64 0).cells (n*1)=ics n:=by
 rcases(by omega:n=0\/n=1\/n=2\/n=3\/n=4\/n=5\/n=6\/n=7\/n=8)with rfl|rfl|rfl|rfl|rfl|rfl|rfl|rfl|rfl<;>kernel_rfl
theorem FU(n:Nat)(hn:n<=8)(w:World):(Instr.makeSlice 33 ↑(n:Int) ↑(n:Int)).run Tryz.prog w=.ok (.slice (some (w,0)) n n) (w.alloc (.cells (ics n) 3)):=by
 have h1:=RY;have h2:=RZ
 cases hi:Tryz.prog.info? 3 with
 |none=>rw[hi]at h1;simp at h1
 |some i=>
  rw[hi]at h1 h2;simp only[fK,bB,Prod.mk.injEq,bC]at h1 h2;have hb:(i.bytes:Int)*(n:Int)<=281474976710656:=by
   have:i.bytes*n<=100*8:=Nat.mul_le_mul h2 hn;have h:((i.bytes*n:Nat):Int)<=281474976710656:=by omega
   rwa[ic]at h
  have hr:=run_make (P:=Tryz.prog) w 33 3 i _ Tryz.underlying33 hi h1.1 .i64 .i64 n n (by omega) (by omega) hb (by omega);simp only[aQ]at hr;rw[hr,h1.2,R3 n hn]
theorem FV(n:Nat)(hn:n<=8)(w:World):ja (w.alloc (.cells (ics n) 3)) (w.heap.size+1) (.slice (some (w,0)) n n) (List.replicate n 0):=
 tE w 3 (ics n) (List.replicate n 0) rfl _ (cJ _) (by simp[maxLen];omega) w n n rfl (by simp) (by simp)
theorem GOk.new(n:Nat)(dr:Int)(h4:4<=n)(hd:0<=dr/\dr<=200):GOk n (newG (jA n dr)):=
 ⟨lB n,by show _<=(0:Int)/\(0:Int)<=_;omega,by show 0<n;omega,λx hx=>(by cases hx),by show 0<=4*dr+9/\4*dr+9<=1000;omega,by show 0<=4*dr+6/\4*dr+6<=1000;omega,by show 0<=1000;omega,λh=>Bool.noConfusion h⟩
theorem WOk.new(n:Nat)(dr:Int)(dl:List Int)(l:List R4)(h4:4<=n)(h8:n<=8)(hd:0<=dr/\dr<=200):WOk n (WM.new (jA n dr) dl l):=by
 have e:∀i,((WM.new (jA n dr) dl l).ms i).iL=(WM.new (jA n dr) dl l).ms i:=λi=>by
  unfold NM.iL;rw[ai (by show ¬(0:Nat)=1;omega),au (.inl rfl)]
  rfl
 exact⟨⟨h4,h8⟩,λi _=>by rw[e i];show _<=(0:Int)/\(0:Int)<=_;omega,λi _=>by rw[e i];show(0:Nat)<900/\(0:Nat)<900;omega,GOk.new n dr h4 hd,GOk.new n dr h4 hd⟩
theorem uP(n:Nat)(dr:Int)(i:Nat)(d:Int)(l:List R4)(h4:4<=n)(h8:n<=8)(hd:0<=dr/\dr<=200)(hi:i<n)(hdd:-dr<=d/\d<=dr)(hl:l.length<=8)(hm:∀k,k<l.length->(l.getD k default).may):NM.may (jA n dr) (i:Nat) d l:=
 ⟨tC n dr h4 h8 hd,⟨by omega,by show((i:Nat):Int)<((jQ n).length:Nat);rw[lB];omega⟩,hdd,hl,hm⟩
theorem FW(n:Nat)(dr:Int)(rv:Value)(l:List R4)(h4:4<=n)(h8:n<=8)(hd:0<=dr/\dr<=200)(hl:l.length<=8)(hm:∀k,k<l.length->(l.getD k default).may)(v dv:Value)(W:World)(hv:jh W W v (jQ n))(hdv:ja W W dv (List.replicate n 0))(hr:jl W W rv l):
  Calls Tryz.prog 7 #[.agg #[v,↑dr,↑(4*dr+6:Int),↑(4*dr+9:Int)],dv,rv] W λe w'=>∃x,e=.returned (.tuple #[.pointer (some ⟨x,0,none⟩),↑(0:Int)])/\WAt W [] n w' x (WM.new (jA n dr) (List.replicate n 0) l)/\Below W W w':=by
 have:=FX (jA n dr) v dv rv (List.replicate n 0) l W hv hdv hr (tC n dr h4 h8 hd) (by rw[List.length_replicate];exact(lB n).symm) (λi hi=>by
  have hi:i<n:=by rw[<-lB n];exact hi
  refine uP n dr i _ l h4 h8 hd hi ?_ hl hm;have e:(List.replicate n (0:Int)).getD i 0=0:=by simp[ay,hi]
  rw[e];omega)
 rw[show(jA n dr).ns.length=n from lB n]at this;exact this
theorem WAt.lower{B B':Nat}{P:List Nat}{N x:Nat}{u:WM}{W:World}(h:WAt B P N W x u)(hB:B'<=B):WAt B' P N W x u:=by
 obtain⟨q,h⟩:=h;exact⟨q,h.blk,h.nlt,h.ptr,h.star,h.nd,h.own,h.dis,h.ne,h.o,h.cap,aW hB h.bas.1,aW hB h.bas.2.1,aW hB h.bas.2.2.1,λi hi f hf=>aW hB (h.bas.2.2.2 i hi f hf)⟩
theorem WAt.vo{B:Nat}{P:List Nat}{N x:Nat}{u:WM}{W:World}(h:WAt B P N W x u):Calls Tryz.prog 40 #[↑(x,0)] W λe w'=>e=.returned ↑(u.sl:Nat)/\w'=W:=by
 obtain⟨q,h⟩:=h;exact Ry h
theorem WAt.Ao{B:Nat}{P:List Nat}{N x:Nat}{u:WM}{W:World}(h:WAt B P N W x u):Calls Tryz.prog 39 #[↑(x,0)] W λe w'=>e=.returned ↑(N:Nat)/\w'=W:=by
 obtain⟨q,h⟩:=h;exact yp h
theorem FY(w:World):Calls Tryz.prog 15 #[] w λe w'=>e=.returned ↑true/\Below w w w':=by
 have hs:=λW=>af (show Calls Tryz.prog 8 #[↑(4:Int),↑(1:Int)] W λe w'=>∃v,e=.returned (.agg #[v,↑(1:Int),↑(10:Int),↑(13:Int)])/\jm w' W v (jQ 4)/\Below W W w' from yu 4 1 (by omega) (by omega) W);have hmk:∀W:World,(Instr.makeSlice 33 ↑(4:Int) ↑(4:Int)).run Tryz.prog W=.ok (.slice (some (W,0)) 4 4) (W.alloc (.cells (ics 4) 3)):=λW=>FU 4 (by omega) W;have hN:=λv dv W(hv:jh W W v (jQ 4))(hdv:ja W W dv (List.replicate 4 0))=>af (FW 4 1 (.slice none 0 0) [] (by omega) (by omega) (by omega) (by simp) (λk hk=>by simp at hk) v dv W hv hdv jl.nil);have hI:=λW=>af (FV 4 (by omega) W)
 go_enter Tryz.func15,Tryz.ntmps15
 go_wp2_with fail
 go_region_with (first
  |(go_at_call 8;refine(hs _).o.mono ?_;rintro e w1 ⟨v,rfl,ho,hb1⟩)
  |(go_at_call 7;refine(hN _ _ _ ?_ ?_).o.mono ?_;(focus (first|exact ho.sees|exact(ho.sees.below ((ah _ _).alloc lr _)).more (by simp)));(focus (first|exact(hI w1).o.more (by simp)|exact(((hI w).o.below ((ah _ _).drew)).below (hb1.mono (by simp))).more (by have:=hb1.size;simpa using this)));rintro e w2 ⟨x,rfl,hw,hb2⟩;(have hB:Below w w w2:=by(first|exact((ah _ _).drew.trans (hb1.alloc hb1.size _)).trans (hb2.mono (by have:=hb1.size;simp;exact Nat.le_succ_of_le this))|exact((((ah _ _).alloc lr _).drew).trans (hb1.mono (by simp))).trans (hb2.mono (by have:=hb1.size;simp at this;omega)))))
  |fail)
 all_goals
  have hlo:w.heap.size<=w2.heap.size:=hB.size;have hw0:WAt w [] 4 w2 x (WM.new (jA 4 1) (List.replicate 4 0) []):=hw.lower (by first|(have:=hb1.size;simp at this ⊢;omega)|(have:=hb1.size;simp at this;omega));have ok0:=WOk.new 4 1 (List.replicate 4 0) [] (by omega) (by omega) (by omega);have hst:=FZ (Ad:=none) (cd:=0) (d:=[]) (Af:=none) (cf:=0) (fl:=[]) hw0 ok0 (by show 0<=1000000;omega) 0 0 ju.nil;have hsl:=hw0.vo;have hno:=hw0.Ao;change Calls _ _ _ _ (λe w'=>e=.returned ↑(0:Int)/\w'=w2)at hsl;have hsl:=af hsl;have hno:=af hno;have hB:=af hB;clear hw hw0 ok0 hs hN hI ho hb1 hb2 hmk;have hst:=af (show Calls Tryz.prog 12 #[↑(x,0),.agg #[↑(5:Int),↑(0:Int),↑(0:Int),.slice none 0 0,.slice none 0 0]] w2 λe w'=>mH w [] 4 x w2 0 ((WM.new (jA 4 1) (List.replicate 4 0) []).slot 4 []) e w' from hst);go_wp2_with fail;refine hsl.o.mono ?_;rintro _ _ ⟨rfl,rfl⟩;go_wp2_with fail;refine hno.o.mono ?_;rintro _ _ ⟨rfl,rfl⟩;go_wp2_with fail;refine hst.o.mono ?_;rintro _ w3 ⟨rfl,hw3,b3⟩;have rS:=hw3.vo;change Calls _ _ _ _ (λe w'=>e=.returned ↑(1:Int)/\w'=w3)at rS;have rS:=af rS;have hb3:=af (show Calls Tryz.prog 12 #[↑(x,0),.agg #[↑(0:Int),↑(0:Int),↑(0:Int),.slice none 0 0,.slice none 0 0]] w3 λe w'=>mH w [] 4 x w3 1 _ e w' from F3 (Ad:=none) (cd:=0) (d:=[]) (Af:=none) (cf:=0) (fl:=[]) hw3 0 0 0 (by decide) (by omega));have hB3:=af (hB.o.trans b3.b);clear hsl hno hst hw3 b3 hB;go_wp2_with fail;refine rS.o.mono ?_;rintro _ _ ⟨rfl,rfl⟩;go_wp2_with fail;refine hb3.o.mono ?_;rintro _ w4 ⟨rfl,-,b4⟩;have hB4:=af (hB3.o.trans b4.b);clear rS hb3;go_wp2_with fail;go_ret;exact⟨rfl,hB4.o⟩
end
section
set_option maxRecDepth 100000
set_option maxHeartbeats 4000000
open Go.RowKit
open Tb (D T)
theorem Sz(n:Nat)(dr:Int)(rv:Value)(dl:List Int)(l:List R4)(h4:4<=n)(h8:n<=8)(hd:0<=dr/\dr<=200)(hl:l.length<=8)(hm:∀k,k<l.length->(l.getD k default).may)(hdl:dl.length=n)(hdd:∀i,i<n->-dr<=dl.getD i 0/\dl.getD i 0<=dr)(v dv:Value)(W:World)(hv:jh W W v (jQ n))(hdv:ja W W dv dl)(hr:jl W W rv l):
  Calls Tryz.prog 7 #[.agg #[v,↑dr,↑(4*dr+6:Int),↑(4*dr+9:Int)],dv,rv] W λe w'=>∃x,e=.returned (.tuple #[.pointer (some ⟨x,0,none⟩),↑(0:Int)])/\WAt W [] n w' x (WM.new (jA n dr) dl l)/\Below W W w':=by
 have:=FX (jA n dr) v dv rv dl l W hv hdv hr (tC n dr h4 h8 hd) (by rw[hdl];exact(lB n).symm) (λi hi=>by
  have hi:i<n:=by rw[<-lB n];exact hi
  exact uP n dr i _ l h4 h8 hd hi (hdd i hi) hl hm)
 rw[show(jA n dr).ns.length=n from lB n]at this;exact this
theorem SD(a:Int):bits BinOp.and IntKind.i64 a 3=a%4:=by
 have h8:(BitVec.ofInt 64 3).toNat=2^2-1:=by decide
 show IntKind.i64.wrap (((BitVec.ofInt 64 a) &&& (BitVec.ofInt 64 3)).toNat:Int)=_;rw[eX,h8,cF,cG,dJ];omega
def dfs(k:Nat)(f:Nat->Int):List Int:=(List.range k).map λi=>f i%4-1
theorem yw(k:Nat)(f:Nat->Int):(dfs k f).length=k:=by simp[dfs]
theorem SE(k:Nat)(f:Nat->Int):dfs (k+1) f=dfs k f++[f k%4-1]:=by simp[dfs,cZ]
theorem uQ(k:Nat)(f:Nat->Int)(i:Nat):-2<=(dfs k f).getD i 0/\(dfs k f).getD i 0<=2/\(i<k->-1<=(dfs k f).getD i 0):=by
 by_cases h:i<k
 ·have:(dfs k f).getD i 0=f i%4-1:=by simp[dfs,ay,h]
  rw[this];omega
 ·have:(dfs k f).getD i 0=0:=by simp[dfs,ay,h]
  rw[this];omega
theorem SF(f:Nat->Int)(k:Nat)(hk:k<8):(i8 f)[k]?=some ↑(f k):=by
 rcases(by omega:k=0\/k=1\/k=2\/k=3\/k=4\/k=5\/k=6\/k=7)with rfl|rfl|rfl|rfl|rfl|rfl|rfl|rfl<;>rfl
theorem SG(N:Nat)(h8:N<=8)(f:Nat->Int)(w:World):
  Calls Tryz.prog 9 #[↑(N:Nat),jK f] w λe w'=>∃v,e=.returned v/\jg w' w v (dfs N f)/\Below w w w':=by
 have hb0:=(ah w w).alloc lr (.cells (aI f) 22);have hX:Blk (w.alloc (.cells (aI f) 22)) w (i8 f) 22:=aJ w w rfl (i8 f) 22;have hi8:=af (SF f);have hsu:=af (λk=>SE k f);have hle:=af (λk=>yw k f);have ha3:=af SD;unfold jK
 go_enter Tryz.func9,Tryz.ntmps9
 go_wp2_with fail;have hz:=hX.lt;generalize w.alloc (.cells (aI f) 22)=w0 at *
 go_loopw [5,6] (λv i wr=>∃k:Nat,k<=N/\i=↑k/\jg wr (w.heap.size+1) v (dfs k f)/\Blk wr w (i8 f) 22/\Below w w wr) (λ_ i _=>N-(intOf i).toNat)
 case atStart=>exact⟨0,by omega,rfl,jg.nil,hX,hb0⟩
 case round=>
  clear hX hb0 hz;obtain⟨k,hk,rfl,ho,hX,hb⟩:=hrel;by_cases hlt:k<N
  ·have q1:decide ((k:Int)<(N:Nat))=true:=by simp;omega
   have c0:=hX.cell k (hi8.o k (by omega));have k8:decide ((k:Int)<8)=true:=by simp;omega
   have k8n:decide (k<8)=true:=by simp;omega
   have a3:=ha3.o (f k);have z1:IntKind.i64.wrap (f k%4-1)=f k%4-1:=aO _ (by omega);have hl:=hle.o k;have SH:=af (hsu.o k);have ho1:=af (ho.alloc (.cells #[↑(f k%4-1:Int)] 3));have hX1:=af (hX.alloc (.cells #[↑(f k%4-1:Int)] 3));have hb1:=af (hb.alloc hb.size (.cells #[↑(f k%4-1:Int)] 3));have kI:=af (tE wr 3 #[↑(f k%4-1:Int)] [f k%4-1] rfl (wr.heap.size+1) (cJ _) (by simp[maxLen]) wr 1 1 rfl rfl rfl);have hlt1:=af ho1.o.lt;have hsz:w.heap.size+1<=(wr.alloc (.cells #[↑(f k%4-1:Int)] 3)).heap.size:=by have:=hX.lt;simp;omega
   clear ho hX hb;go_wp2_with (at_builtin;go_loud (refine pE _ rfl (.tmp 12) (.tmp 18) 33 rfl (w.heap.size+1) oh Tryz.underlying33 _ (dfs k f) ho1.o rfl _ _ [f k%4-1] rfl kI.o hsz (by rw[hl];simp;omega) ?_));intro v2 w2 ho2 hx2;rw[<-SH.o]at ho2;have hX2:=af (hX1.o.ext hx2 (λe=>by have:=(hlt1.o _ e).1;omega));have hb2:=af (hb1.o.trans (hx2.toBelow (B:=w.heap.size) (by omega) (λi hi=>by have:=(hlt1.o i hi).1;omega)));have ho2:=af ho2;clear hX1 hb1 ho1 kI hx2 hlt1;go_wp2;go_roundw
   case rel=>exact⟨k+1,by omega,by go_num,ho2.o,hX2.o,hb2.o⟩
   case measure=>simp[intOf];omega
  ·obtain rfl:k=N:=by omega
   have q1:decide ((k:Int)<(k:Nat))=false:=by simp
   go_wp2;go_ret;exact⟨_,rfl,ho.base (bS _),hb⟩
end
section
set_option maxRecDepth 100000
set_option maxHeartbeats 8000000
open Go.RowKit
open Fr (St F)
theorem D5(b:Bool)(G:GS)(g:Nat)(m:NM)(x:RX)(h:Hn)(vx vy:Value)(w:World)(hm:RA b G w g m x)(hG:GN G w)(hh:HOk w h vx vy)(hst:m.st=2\/m.st=3\/m.st=4)(hs:m.sl≠m.i)(hsl:m.sl<m.t.ns.length/\m.t.ns.length<=8)(hta:m.ty.a<1000/\m.ty.f<1000)(hn:m.lg h=none){ty2:TS}(hq:(h.a=0/\h.b=0)/\m.ty.miss (m.sl:Nat)=ty2\/¬(h.a=0/\h.b=0)/\m.ty.wrong (m.sl:Nat)=ty2)(hN:NG (m.took ty2 m.so m.ck)):Tke G g ((m.took ty2 m.so m.ck):NM).goOn h vx vy w:=by
 unfold Tke;have hb0:=(ah w w).alloc lr (.cells (aH h vx vy) 153);have hX0:=aJ w w rfl (aH h vx vy) 153;have hm0:=hm.below hb0;have HT:=λa v W=>af (rF a v W);have HF:=λW(hW:Below w w W)=>af (OJ b G g m x h vx vy (by omega) W (hh.below hW) (hm.below hW) hn);obtain⟨ux,hux⟩:∃ux,jZ h.a vx=ux:=⟨_,rfl⟩;obtain⟨uy,huy⟩:∃uy,jZ h.b vy=uy:=⟨_,rfl⟩;have HTx:∀W,Hid (Calls Tryz.prog 127 #[↑h.a,vx] W λe w'=>e=.returned ux/\w'=W):=λW=>hux▸HT h.a vx W;have HTy:∀W,Hid (Calls Tryz.prog 127 #[↑h.b,vy] W λe w'=>e=.returned uy/\w'=W):=λW=>huy▸HT h.b vy W;rw[hux,huy]at HF;clear hux huy HT;obtain⟨Ax,cx,rfl,-⟩:=hh.x.at_;obtain⟨Ay,cy,rfl,-⟩:=hh.y.at_;have hk:=af (λW(hW:Below w w W)=>hm.past hW);have hqH:=af hq;clear hq;have c6:=hm0.c6;have c8:=hm0.c8;have c4:=hm0.c4;have q:(((m.sl:Nat):Int)==((m.i:Nat):Int))=false:=by rw[aB];omega
 have ho:=hh.o;have hN:=af hN;have Ej:m.sl<8:=by omega
 clear hh hn hs;obtain⟨zi,hzi⟩:∃z:Int,((m.i:Nat):Int)=z:=⟨_,rfl⟩;rw[hzi]at c4 q;clear hzi;unfold hdV;obtain⟨zs,hzs⟩:∃z:Int,((m.st:Nat):Int)=z:=⟨_,rfl⟩;rw[hzs]at c6;have z0:(zs==0)=false:=by rw[aB];omega
 have z5:(zs==5)=false:=by rw[aB];omega
 have z1:(zs==1)=false:=by rw[aB];omega
 clear hzs hst
 go_enter Tryz.func76,Tryz.ntmps76
 go_wp2_with fail;clear hm hm0 c6 c8 c4;generalize w.alloc (.cells (aH h (.slice Ax h.x.length cx) (.slice Ay h.y.length cy)) 153)=w0 at *;have b0:=hb0;have HS:∀W,Below w0 w0 W->(W.cell? (w,0)=some ↑h.a/\W.cell? (w,1)=some ↑h.b/\W.cell? (w,2)=some (.slice Ax h.x.length cx)/\W.cell? (w,3)=some (.slice Ay h.y.length cy)):=λW hW=>by
  have h':=hX0.below hW hX0.lt;exact⟨h'.cell 0 rfl,h'.cell 1 rfl,h'.cell 2 rfl,h'.cell 3 rfl⟩
 have br:=(ah w0 w0).drew;have S0:=af (HS _ br);have HH:=af HS;clear HS
 go_cut [6]from 50 to 64 (λs6 wx=>s6=↑false/\Below w0 w0 wx)
 case first=>
  refine cW (S:=λW=>W.cell? (w,0)=some ↑h.a/\W.cell? (w,1)=some ↑h.b/\W.cell? (w,2)=some (.slice Ax h.x.length cx)/\W.cell? (w,3)=some (.slice Ay h.y.length cy)) (by kernel_rfl) S0.o (λhHeld=>?_);refine wT 0 51 ?_;refine wT 1 52 ?_;refine wT 2 53 ?_;refine wT 3 54 ?_;refine wT 4 55 ?_;refine wT 6 57 ?_;refine wT 7 58 ?_;refine wT 8 59 ?_;refine wT 9 60 ?_;refine aM (rs:=[5,15]) (by kernel_rfl) (by simp) ?_;refine(aA rfl (λK hK=>?_) (aA rfl (λK hK=>?_) aG))
  ·skip
   go_simp;refine(HTx _).o.mono ?_;rintro _ _ ⟨rfl,rfl⟩;refine hK.o _ _ (HH.o _ br) (λhHeld=>?_);clear hK K
   try simp only[qq]
   refine aM (rs:=[10,15]) (by kernel_rfl) (by simp) ?_;refine(aA rfl (λK hK=>?_) (aA rfl (λK hK=>?_) aG))
   ·skip
    go_simp;refine(HTy _).o.mono ?_;rintro _ _ ⟨rfl,rfl⟩;refine hK.o _ _ (HH.o _ br) (λhHeld=>?_);clear hK K
    try simp only[qq]
    refine aM (rs:=[11,15]) (by kernel_rfl) (by simp) ?_;refine(aA rfl (λK hK=>?_) (aA rfl (λK hK=>?_) aG))
    ·skip
     go_simp;refine(HF _ (b0.trans (br.mono b0.size))).o.mono ?_;rintro _ w13 ⟨rfl,d13⟩;have b13:=br.trans (d13.mono br.size);refine hK.o _ _ (HH.o _ b13) (λhHeld=>?_);clear hK K
     try simp only[qq]
     refine wT 12 50 ?_;refine wT 13 63 ?_;refine wT 14 64 ?_;refine aM (rs:=[15]) (by kernel_rfl) (by simp) ?_;refine(aA rfl (λK hK=>?_) aG);go_simp;have b14:=b13.alloc b13.size (.cells zF 182);have X14:=aJ w13 (w13).heap.size rfl zF 182;refine hK.o _ _ (HH.o _ b14) (λhHeld=>?_);clear hK K
     try simp only[qq]
     refine aM (rs:=[16]) (by kernel_rfl) (by simp) ?_;refine(aA rfl (λK hK=>?_) aG);have y0:=X14.cell 0 (x:=↑(0:Int)) rfl;have z0:=X14.frozen 0;have y1:=X14.cell 1 (x:=↑(0:Int)) rfl;have z1:=X14.frozen 1;have y2:=X14.cell 2 (x:=↑(0:Int)) rfl;have z2:=X14.frozen 2;have y3:=X14.cell 3 (x:=↑(0:Int)) rfl;have z3:=X14.frozen 3;have y4:=X14.cell 4 (x:=.slice none 0 0) rfl;have z4:=X14.frozen 4;go_simp;have XF:=aJ w13 (w13).heap.size rfl zF 182;have bF:=b13.alloc b13.size (.cells zF 182);have le:w0.heap.size<=(w13).heap.size:=b13.size;refine hK.o _ _ (HH.o _ bF) (λhHeld=>?_);clear y0 z0 y1 z1 y2 z2 y3 z3 y4 z4;clear hK K
     try simp only[qq]
     refine wT 17 6 ?_;refine bP (by kernel_rfl) ?_ _;go_wp2_with fail
     go_meet
     exact⟨rfl,bF⟩
    ·skip
     go_simp;have b16:=br.alloc br.size (.cells zF 182);have X16:=aJ w0.drew w0 rfl zF 182;refine hK.o _ _ (HH.o _ b16) (λhHeld=>?_);clear hK K
     try simp only[qq]
     refine aM (rs:=[11]) (by kernel_rfl) (by simp) ?_;refine(aA rfl (λK hK=>?_) aG);go_simp;refine(HF _ (b0.trans (b16.mono b0.size))).o.mono ?_;rintro _ w17 ⟨rfl,d17⟩;have b17:=b16.trans (d17.mono b16.size);have iV:=X16.below d17 X16.lt;refine hK.o _ _ (HH.o _ b17) (λhHeld=>?_);clear hK K
     try simp only[qq]
     refine wT 12 50 ?_;refine wT 13 63 ?_;refine wT 14 64 ?_;refine aM (rs:=[16]) (by kernel_rfl) (by simp) ?_;refine(aA rfl (λK hK=>?_) aG);have y0:=iV.cell 0 (x:=↑(0:Int)) rfl;have z0:=iV.frozen 0;have y1:=iV.cell 1 (x:=↑(0:Int)) rfl;have z1:=iV.frozen 1;have y2:=iV.cell 2 (x:=↑(0:Int)) rfl;have z2:=iV.frozen 2;have y3:=iV.cell 3 (x:=↑(0:Int)) rfl;have z3:=iV.frozen 3;have y4:=iV.cell 4 (x:=.slice none 0 0) rfl;have z4:=iV.frozen 4;go_simp;have le:w0.heap.size<=w0.heap.size:=br.size;have XF:Blk _ w0 zF 182:=(((((iV.set 0 ↑(0:Int)).set 1 ↑(0:Int)).set 2 ↑(0:Int)).set 3 ↑(0:Int)).set 4 (.slice none 0 0)).eq (by simp);have bF:=(((((b17.setCell (p:=(w0.heap.size,0)) le ↑(0:Int)).setCell (p:=(w0.heap.size,1)) le ↑(0:Int)).setCell (p:=(w0.heap.size,2)) le ↑(0:Int)).setCell (p:=(w0.heap.size,3)) le ↑(0:Int)).setCell (p:=(w0.heap.size,4)) le (.slice none 0 0));refine hK.o _ _ (HH.o _ bF) (λhHeld=>?_);clear y0 z0 y1 z1 y2 z2 y3 z3 y4 z4;clear hK K
     try simp only[qq]
     refine wT 17 6 ?_;refine bP (by kernel_rfl) ?_ _;go_wp2_with fail
     go_meet
     exact⟨rfl,bF⟩
   ·skip
    go_simp;have b19:=br.alloc br.size (.cells zF 182);have X19:=aJ w0.drew w0 rfl zF 182;refine hK.o _ _ (HH.o _ b19) (λhHeld=>?_);clear hK K
    try simp only[qq]
    refine aM (rs:=[10]) (by kernel_rfl) (by simp) ?_;refine(aA rfl (λK hK=>?_) aG);go_simp;refine(HTy _).o.mono ?_;rintro _ _ ⟨rfl,rfl⟩;refine hK.o _ _ (HH.o _ b19) (λhHeld=>?_);clear hK K
    try simp only[qq]
    refine aM (rs:=[11]) (by kernel_rfl) (by simp) ?_;refine(aA rfl (λK hK=>?_) aG);go_simp;refine(HF _ (b0.trans (b19.mono b0.size))).o.mono ?_;rintro _ w21 ⟨rfl,d21⟩;have b21:=b19.trans (d21.mono b19.size);have iW:=X19.below d21 X19.lt;refine hK.o _ _ (HH.o _ b21) (λhHeld=>?_);clear hK K
    try simp only[qq]
    refine wT 12 50 ?_;refine wT 13 63 ?_;refine wT 14 64 ?_;refine aM (rs:=[16]) (by kernel_rfl) (by simp) ?_;refine(aA rfl (λK hK=>?_) aG);have y0:=iW.cell 0 (x:=↑(0:Int)) rfl;have z0:=iW.frozen 0;have y1:=iW.cell 1 (x:=↑(0:Int)) rfl;have z1:=iW.frozen 1;have y2:=iW.cell 2 (x:=↑(0:Int)) rfl;have z2:=iW.frozen 2;have y3:=iW.cell 3 (x:=↑(0:Int)) rfl;have z3:=iW.frozen 3;have y4:=iW.cell 4 (x:=.slice none 0 0) rfl;have z4:=iW.frozen 4;go_simp;have le:w0.heap.size<=w0.heap.size:=br.size;have XF:Blk _ w0 zF 182:=(((((iW.set 0 ↑(0:Int)).set 1 ↑(0:Int)).set 2 ↑(0:Int)).set 3 ↑(0:Int)).set 4 (.slice none 0 0)).eq (by simp);have bF:=(((((b21.setCell (p:=(w0.heap.size,0)) le ↑(0:Int)).setCell (p:=(w0.heap.size,1)) le ↑(0:Int)).setCell (p:=(w0.heap.size,2)) le ↑(0:Int)).setCell (p:=(w0.heap.size,3)) le ↑(0:Int)).setCell (p:=(w0.heap.size,4)) le (.slice none 0 0));refine hK.o _ _ (HH.o _ bF) (λhHeld=>?_);clear y0 z0 y1 z1 y2 z2 y3 z3 y4 z4;clear hK K
    try simp only[qq]
    refine wT 17 6 ?_;refine bP (by kernel_rfl) ?_ _;go_wp2_with fail
    go_meet
    exact⟨rfl,bF⟩
  ·skip
   go_simp;have b23:=br.alloc br.size (.cells zF 182);have X23:=aJ w0.drew w0 rfl zF 182;refine hK.o _ _ (HH.o _ b23) (λhHeld=>?_);clear hK K
   try simp only[qq]
   refine aM (rs:=[5]) (by kernel_rfl) (by simp) ?_;refine(aA rfl (λK hK=>?_) aG);go_simp;refine(HTx _).o.mono ?_;rintro _ _ ⟨rfl,rfl⟩;refine hK.o _ _ (HH.o _ b23) (λhHeld=>?_);clear hK K
   try simp only[qq]
   refine aM (rs:=[10]) (by kernel_rfl) (by simp) ?_;refine(aA rfl (λK hK=>?_) aG);go_simp;refine(HTy _).o.mono ?_;rintro _ _ ⟨rfl,rfl⟩;refine hK.o _ _ (HH.o _ b23) (λhHeld=>?_);clear hK K
   try simp only[qq]
   refine aM (rs:=[11]) (by kernel_rfl) (by simp) ?_;refine(aA rfl (λK hK=>?_) aG);go_simp;refine(HF _ (b0.trans (b23.mono b0.size))).o.mono ?_;rintro _ w26 ⟨rfl,d26⟩;have b26:=b23.trans (d26.mono b23.size);have iX:=X23.below d26 X23.lt;refine hK.o _ _ (HH.o _ b26) (λhHeld=>?_);clear hK K
   try simp only[qq]
   refine wT 12 50 ?_;refine wT 13 63 ?_;refine wT 14 64 ?_;refine aM (rs:=[16]) (by kernel_rfl) (by simp) ?_;refine(aA rfl (λK hK=>?_) aG);have y0:=iX.cell 0 (x:=↑(0:Int)) rfl;have z0:=iX.frozen 0;have y1:=iX.cell 1 (x:=↑(0:Int)) rfl;have z1:=iX.frozen 1;have y2:=iX.cell 2 (x:=↑(0:Int)) rfl;have z2:=iX.frozen 2;have y3:=iX.cell 3 (x:=↑(0:Int)) rfl;have z3:=iX.frozen 3;have y4:=iX.cell 4 (x:=.slice none 0 0) rfl;have z4:=iX.frozen 4;go_simp;have le:w0.heap.size<=w0.heap.size:=br.size;have XF:Blk _ w0 zF 182:=(((((iX.set 0 ↑(0:Int)).set 1 ↑(0:Int)).set 2 ↑(0:Int)).set 3 ↑(0:Int)).set 4 (.slice none 0 0)).eq (by simp);have bF:=(((((b26.setCell (p:=(w0.heap.size,0)) le ↑(0:Int)).setCell (p:=(w0.heap.size,1)) le ↑(0:Int)).setCell (p:=(w0.heap.size,2)) le ↑(0:Int)).setCell (p:=(w0.heap.size,3)) le ↑(0:Int)).setCell (p:=(w0.heap.size,4)) le (.slice none 0 0));refine hK.o _ _ (HH.o _ bF) (λhHeld=>?_);clear y0 z0 y1 z1 y2 z2 y3 z3 y4 z4;clear hK K
   try simp only[qq]
   refine wT 17 6 ?_;refine bP (by kernel_rfl) ?_ _;go_wp2_with fail
   go_meet
   exact⟨rfl,bF⟩
 case rest=>
  obtain⟨rfl,bc⟩:=hcut;have hXc:=hX0.below bc hX0.lt;have bw:=b0.trans (bc.mono b0.size);have hmc:=hk.o _ bw;have kc:=af (iZ (G:=G) bw);have hGc:=Gp.gn hG bw.size;have hK:Hid (∀W,KG (Gp G w wc) wc W->Blk W w (aH h (.slice Ax h.x.length cx) (.slice Ay h.y.length cy)) 153/\GN (Gp G w wc) W):=af λW k=>⟨k.blk lr hXc,hGc.up k.size⟩;have hgm:=hmc.gs x.m (by simp[RX.own]);have c9:=hmc.c9;have a0:=hXc.cell 0 (x:=↑h.a) rfl;have a1:=hXc.cell 1 (x:=↑h.b) rfl;have hq3:h.a=0/\h.b=0/\m.ty.miss (m.sl:Nat)=ty2\/h.a=0/\h.b≠0/\m.ty.wrong (m.sl:Nat)=ty2\/h.a≠0/\m.ty.wrong (m.sl:Nat)=ty2:=by
   rcases hqH.o with⟨⟨ea,eb⟩,e⟩|⟨hn,e⟩
   ·exact .inl ⟨ea,eb,e⟩
   ·by_cases ea:h.a=0
    ·exact .inr (.inl ⟨ea,λeb=>hn ⟨ea,eb⟩,e⟩)
    ·exact .inr (.inr ⟨ea,e⟩)
  rcases hq3 with⟨ea,eb,e⟩|⟨ea,eb,e⟩|⟨ea,e⟩
  case' inl=>
   have hW:=Ek x.m m.ty (m.sl:Nat) wc hmc.ty;rw[ea]at a0;rw[eb]at a1
  case' inr.inl=>
   have hW:=El x.m m.ty (m.sl:Nat) wc hmc.ty hta.2;have qb:(h.b==0)=false:=by rw[aB];exact eb
   rw[ea]at a0
  case' inr.inr=>
   have hW:=El x.m m.ty (m.sl:Nat) wc hmc.ty hta.2;have qa':(h.a==0)=false:=by rw[aB];exact ea
  all_goals
   rw[e]at hW;have hW:=af hW;have hmc:=af hmc;clear S0 HH HTx HTy HF hXc hk hX0 bw hGc br;go_wp2_with fail;refine hW.o.mono ?_;rintro _ w5 ⟨rfl,hT5,o5⟩;have h5:=af (hmc.o.upM hT5 o5);have k5:=af (o5.kg (G:=Gp G w wc) hgm);clear hW hmc hT5 o5 c9 a0 a1;have hd9:=h5.o.drew;have HS:∀W(m':NM),RA b (Gp G w wc) W g m' x->(W.cell? (g,13)=some ↑(x.s,0)/\W.cell? (g,9)=some ↑(x.m,0)):=λW m' h=>⟨h.c13,h.c9⟩;have S0:=af (HS _ _ hd9);have hgs:=hd9.gs x.s (by simp[RX.own]);have hI:=af (uD x.m ty2 (m.sl:Nat) w5.drew hd9.ty);have hM:=af (λn=>uE (Gp G w wc) (x.own g) x.s (m.so) (m.sl:Nat) (isB ty2.m (m.sl:Nat)) (w5.drewN n) (h5.o.drewN n).so (by simp[RX.own]));have hUp:=af (λn w8 so(hT:SRt (Gp G w wc) (x.own g) w8 x.s so)(o:Only x.s (w5.drewN n) w8)=>(h5.o.drewN n).upS hT o);have S1:=af (λn=>HS _ _ (h5.o.drewN n));have HSH:=af HS;clear h5 hd9 HS;go_wp2_with fail
   go_region_held3 (λW=>W.cell? (g,13)=some ↑(x.s,0)/\W.cell? (g,9)=some ↑(x.m,0)) ((first|exact S0.o|exact S1.o _|exact S2.o))
    (first
     |(go_at_call 133;refine hI.o.mono ?_;rintro _ _ ⟨rfl,n,rfl⟩)
     |(go_at_call 132;refine(hM.o (1+n)).mono ?_;rintro _ w8 ⟨rfl,hT8,o8⟩;(have h8:=hUp.o (1+n) w8 _ hT8 o8);(have k10:=af ((k5.o.trans (iZ (aC (ah _ w5) (1+n)))).trans (o8.kg hgs)));(have S2:=af (HSH.o w8 _ h8)))
     |fail)
   have h8:RA b (Gp G w wc) w8 g (m.took ty2 m.so m.ck:NM) x:=h8;obtain⟨-,hG8⟩:=hK.o w8 k10.o;have hO:=af (oU b (Gp G w wc) g _ x w8 h8 hG8 hN.o);unfold OnC at hO;clear S0 S1 S2 HSH hI hM hUp hT8 o8 k5 h8;go_wp2_with fail;refine hO.o.mono ?_;rintro _ w9 ⟨rfl,h10,k11⟩;have hfin:=af (h10.up);have oV:=af (kc.o.trans ((k10.o.trans k11).up));clear hO h10 k11 k10;go_wp2;exact aD (ax (by rfl) _ _ _) rfl ⟨rfl,⟨_,hfin.o⟩,oV.o⟩
end
section
open Go.RowKit
structure GB(N:Nat)(s:G)(C:Int):Prop where
 sn:s.n=N
 slot:s.slot<N
 now:-C<=s.now/\s.now<=C
 small:small s.l
 lm:0<=s.lm/\s.lm<=1000
 wi:0<=s.wi/\s.wi<=1000
 si:s.si<=1000
 si2:s.kn=true->s.si<2*s.n
section
variable {N:Nat}{s:G}{C C':Int}
theorem GB.more(h:GB N s C)(hC:C<=C'):GB N s C':=⟨h.sn,h.slot,by have:=h.now;omega,h.small,h.lm,h.wi,h.si,h.si2⟩
theorem GB.ok(h:GB N s C)(hC:C<=10000000):GOk N s:=⟨h.sn,by have:=h.now;omega,h.slot,h.small,h.lm,h.wi,h.si,h.si2⟩
theorem GB.on_(h:GB N s C)(hN:4<=N/\N<=8):GB N s.on (C+1000):=by
 have ht:=sX s.lm s.l h.lm.1;have hn:=h.now;have hl:=h.lm;have hs:=h.slot;unfold G.on
 split
 ·exact⟨h.sn,by show 0<N;omega,by show -(C+1000)<=s.now+jb s.lm s.l/\s.now+jb s.lm s.l<=C+1000;omega,λx hx=>(by cases hx),h.lm,h.wi,h.si,h.si2⟩
 ·rename_i e
  exact⟨h.sn,by show s.slot+1<N;have:=h.sn;omega,by show -(C+1000)<=s.now/\s.now<=C+1000;omega,h.small,h.lm,h.wi,h.si,h.si2⟩
theorem GB.J0(h:GB N s C)(hN:4<=N/\N<=8){a:Int}(ha:-C<=a/\a<=C)(hC:C<=100000000):GB N (s.heard a) (C+1000):=by
 have hn:=h.now;have hsn:=h.sn;unfold G.heard
 split
 ·exact GB.on_ (s:={s with si:=0,l:=iT s.l (a-s.now)}) ⟨h.sn,h.slot,h.now,h.small.mW (by omega),h.lm,h.wi,by show 0<=1000;omega,λ_=>by show 0<2*s.n;omega⟩ hN
 ·exact GB.on_ (s:={s with si:=0}) ⟨h.sn,h.slot,h.now,h.small,h.lm,h.wi,by show 0<=1000;omega,λ_=>by show 0<2*s.n;omega⟩ hN
theorem GB.J1(h:GB N s C)(hk:s.kn=true)(hN:4<=N/\N<=8):GB N s.missed (C+1000):=by
 have hn:=h.now;have hsn:=h.sn;have hs:=h.si2 hk;unfold G.missed
 split
 ·exact⟨h.sn,by show 0<N;omega,by show -(C+1000)<=s.now/\s.now<=C+1000;omega,h.small,h.lm,h.wi,by show s.si+1<=1000;omega,λh=>Bool.noConfusion h⟩
 ·exact GB.on_ (s:={s with si:=s.si+1}) ⟨h.sn,h.slot,h.now,h.small,h.lm,h.wi,by show s.si+1<=1000;omega,λ_=>by show s.si+1<2*s.n;omega⟩ hN
theorem GB.J2(h:GB N s C)(hN:4<=N/\N<=8)(l:List Int){a:Int}(ha:-C<=a/\a<=C):GB N (s.mX l a) (C+1000):=by
 have hsn:=h.sn;unfold G.mX
 split
 ·rename_i e
  refine GB.on_ ⟨h.sn,?_,ha,λx hx=>(by cases hx),h.lm,h.wi,by show 0<=1000;omega,λ_=>by show 0<2*s.n;omega⟩ hN;have e2:(Fr.res l z0).st.s<s.n:=by
   unfold tells at e;simp only[bg,bC]at e;exact e.2
  show(Fr.res l z0).st.s.toNat<N;omega
 ·exact h.more (by omega)
theorem GB.BF(h:GB N s C)(hN:4<=N/\N<=8)(l:List Int){a:Int}(ha:-C<=a/\a<=C)(hC:C<=100000000):GB N (s.ended l a) (C+1000):=by
 unfold G.ended
 split
 ·split
  ·exact h.J0 hN ha hC
  ·exact h.J1 (by assumption) hN
 ·exact h.J2 hN l ha
end
structure WB(N:Nat)(u:WM)(k:Nat):Prop where
 n4:4<=N/\N<=8
 nj:∀i,i<N->NJ (u.ms i)
 ty:∀i,i<N->(u.ms i).ty.a<=k/\(u.ms i).ty.f<=k
 tm:∀i,i<N->-(10000*((k:Int)+1))<=(u.ms i).tm/\(u.ms i).tm<=10000*((k:Int)+1)
 s:GB N u.s (10000*((k:Int)+1))
 t:GB N u.t (10000*((k:Int)+1))
 sl:u.sl<=k
section
variable {N:Nat}{u:WM}{k:Nat}
theorem WB.ok(h:WB N u k)(hk:k<=500):WOk N u:=by
 refine⟨h.n4,λi hi=>?_,λi hi=>?_,h.s.ok (by omega),h.t.ok (by omega)⟩
 ·rw[(oA (u.ms i)).2.2]
  have:=h.tm i hi;omega
 ·obtain⟨a,b,-⟩:=oA (u.ms i)
  have:=h.ty i hi;omega
theorem WB.sent(h:WB N u k){i:Nat}(hi:i<N):NJ (u.ms i).iL:=(h.nj i hi).vm
theorem WB.more(h:WB N u k):WB N u (k+1):=
 ⟨h.n4,h.nj,λi hi=>by have:=h.ty i hi;omega,λi hi=>by have:=h.tm i hi;push_cast;omega,h.s.more (by push_cast;omega),h.t.more (by push_cast;omega),by have:=h.sl;omega⟩
theorem WB.node1(h:WB N u k){i:Nat}{m:NM}(hj:NJ m)(hb:m.ty.a<=k+1/\m.ty.f<=k+1)(ht:-(10000*(((k+1:Nat):Int)+1))<=m.tm/\m.tm<=10000*(((k+1:Nat):Int)+1)):WB N (u.node1 i m) (k+1):=by
 have h':=h.more;refine⟨h.n4,λj hj'=>?_,λj hj'=>?_,λj hj'=>?_,h'.s,h'.t,h'.sl⟩
 ·show NJ (je u.ms i m j)
  unfold je
  split
  ·exact hj
  ·exact h.nj j hj'
 ·show(je u.ms i m j).ty.a<=k+1/\(je u.ms i m j).ty.f<=k+1
  unfold je
  split
  ·exact hb
  ·exact h'.ty j hj'
 ·show -(10000*(((k+1:Nat):Int)+1))<=(je u.ms i m j).tm/\(je u.ms i m j).tm<=10000*(((k+1:Nat):Int)+1)
  unfold je
  split
  ·exact ht
  ·exact h'.tm j hj'
theorem WB.slot(h:WB N u k)(hk:k<=500){fl:List Ft}(hf:jc fl=true):WB N (u.slot N fl) (k+1):=by
 have ok:=h.ok hk;have hl:=(sY hf).1;have hat:∀i,-(10000*((k:Int)+1)+4000)<=((u.air N fl).s i).at_/\((u.air N fl).s i).at_<=10000*((k:Int)+1)+4000:=λi=>by
  have h1:=Air.vQ fl (Air.start (u.bs N) (u.at_ N)) i (BG hf);have e:((Air.start (u.bs N) (u.at_ N)).s i).at_=u.at_ N i:=rfl;rw[e]at h1;have h2:-(10000*((k:Int)+1))<=u.at_ N i/\u.at_ N i<=10000*((k:Int)+1):=by
   unfold WM.at_
   split
   ·rename_i hi
    rw[(oA (u.ms i)).2.2];exact h.tm i hi
   ·omega
  unfold WM.air;omega
 have hw:=λp=>(u.air N fl).nI p (10000*((k:Int)+1)+4000) (by omega) hat;have hgs:=(h.s.more (C':=10000*((k:Int)+1)+4000) (by omega)).BF h.n4 (tl (u.said N fl).n (u.said N fl).c.q) (hw (u.said N fl).c.p) (by omega);have hgt:=(h.t.more (C':=10000*((k:Int)+1)+4000) (by omega)).BF h.n4 (tl (u.said N fl).n (u.said N fl).d.q) (hw (u.said N fl).d.p) (by omega);have ho:∀i,i<N->(-1073741824<=(u.hear N fl i).o/\(u.hear N fl i).o<=1073741824)/\-(10000*((k:Int)+1)+4000)<=(u.ms i).tm+(u.hear N fl i).o/\(u.ms i).tm+(u.hear N fl i).o<=10000*((k:Int)+1)+4000:=λi hi=>by
  have ea:u.at_ N i=(u.ms i).tm:=by
   unfold WM.at_;rw[au hi,(oA (u.ms i)).2.2]
  have hti:=h.tm i hi;have hwi:=hw (u.said N fl).who;unfold WM.hear jy.hear;simp only;rw[ea]
  split<;>omega
 refine⟨h.n4,λi hi=>?_,λi hi=>?_,λi hi=>?_,hgs.more (by push_cast;omega),hgt.more (by push_cast;omega),by show u.sl+1<=k+1;have:=h.sl;omega⟩
 ·show NJ (if i<N then(u.ms i).iL.take (u.hear N fl i)else u.ms i)
  rw[au hi];exact(h.sent hi).zV _ (by have:=(ho i hi).1;omega)
 ·show(if i<N then(u.ms i).iL.take (u.hear N fl i)else u.ms i).ty.a<=k+1/\(if i<N then(u.ms i).iL.take (u.hear N fl i)else u.ms i).ty.f<=k+1
  rw[au hi];obtain⟨a,b,-,-⟩:=BH (u.hear N fl i) (h.sent hi) (ho i hi).1 (λl _ hl=>sZ (h.sent hi) hl);obtain⟨c,d,-⟩:=oA (u.ms i);have:=h.ty i hi;omega
 ·show -(10000*(((k+1:Nat):Int)+1))<=(if i<N then(u.ms i).iL.take (u.hear N fl i)else u.ms i).tm/\(if i<N then(u.ms i).iL.take (u.hear N fl i)else u.ms i).tm<=10000*(((k+1:Nat):Int)+1)
  rw[au hi];have e:=(oA (u.ms i)).2.2;have ht:=(h.sent hi).J3 (u.hear N fl i) (10000*((k:Int)+1)+4000) (by rw[e];have:=h.tm i hi;omega) (by rw[e];exact(ho i hi).2)
  push_cast
  omega
theorem WB.step(h:WB N u k)(hk:k<=500)(a:Ac)(hy:iK a.d):WB N (u.step N a) (k+1):=by
 unfold WM.step
 split
 ·split
  ·exact h.slot hk (by assumption)
  ·exact h.more
 split
 ·exact h.more
 rename_i eo;have hi:a.i.toNat<N:=by omega
 have hj:=h.nj _ hi;have hty:=h.ty _ hi;have htm:=h.tm _ hi
 split
 ·refine h.node1 (hj.on_ _) ?_ ?_
  ·unfold NM.on
   split
   ·exact⟨bH _,bH _⟩
   ·omega
  ·unfold NM.on
   split
   ·rename_i he
    have ha:-1000<=a.n/\a.n<=1000:=by
     unfold NM.onE at he
     split at he
     ·omega
     ·omega
    show -(10000*(((k+1:Nat):Int)+1))<=a.n/\a.n<=10000*(((k+1:Nat):Int)+1)
    push_cast
    omega
   ·push_cast
    omega
 split
 ·exact h.node1 hj.Ai ⟨bH _,bH _⟩ (by show -(10000*(((k+1:Nat):Int)+1))<=(u.ms a.i.toNat).tm/\(u.ms a.i.toNat).tm<=10000*(((k+1:Nat):Int)+1);push_cast;omega)
 split
 ·have e:((u.ms a.i.toNat).write a.d).ty=(u.ms a.i.toNat).ty/\((u.ms a.i.toNat).write a.d).tm=(u.ms a.i.toNat).tm:=by
   unfold NM.write
   split<;>exact⟨rfl,rfl⟩
  exact h.node1 (hj.Al _ hy) (by rw[e.1];omega) (by rw[e.2];push_cast;omega)
 split
 ·exact h.node1 (hj.ar_ _) (by show(u.ms a.i.toNat).ty.a<=k+1/\(u.ms a.i.toNat).ty.f<=k+1;omega) (by show -(10000*(((k+1:Nat):Int)+1))<=(u.ms a.i.toNat).tm/\(u.ms a.i.toNat).tm<=10000*(((k+1:Nat):Int)+1);push_cast;omega)
 ·exact h.more
theorem WB.new(n:Nat)(dr:Int)(dl:List Int)(l:List R4)(h4:4<=n)(h8:n<=8)(hd:0<=dr/\dr<=200)(hm:∀i,i<n->NJ (NM.new (jA n dr) i (dl.getD i 0) l)):WB n (WM.new (jA n dr) dl l) 0:=by
 have hg:GB n (newG (jA n dr)) (10000*(((0:Nat):Int)+1)):=⟨lB n,by show 0<n;omega,by show _<=(0:Int)/\(0:Int)<=_;omega,λx hx=>(by cases hx),by show 0<=4*dr+9/\4*dr+9<=1000;omega,by show 0<=4*dr+6/\4*dr+6<=1000;omega,by show 0<=1000;omega,λh=>Bool.noConfusion h⟩;exact⟨⟨h4,h8⟩,hm,λi _=>⟨aR _,aR _⟩,λi _=>by show _<=(0:Int)/\(0:Int)<=_;omega,hg,hg,aR _⟩
end
end
end Go.Proofs.YteadkhigkmijiaaGreat
