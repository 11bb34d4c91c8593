/- Texts FrE, FrF, FrG, ClC, ClD, ClE in one. -/
import Derived.Laws.ResultCell
import Derived.Deep.CutBlock
import Derived.Laws.IdiomCopy
import Derived.Test.YteadkhigkmijiaaGreatPD1
import Derived.Test.YteadkhigkmijiaaGreatPD4
set_option linter.all false
namespace Go.Proofs.YteadkhigkmijiaaGreat
section
open Go.RowKit
open Fr (St F)
def wi(n m:Int):Bool:=decide (0<=n)&&decide (n<=m)
theorem Jz(n m:Int)(w:World):Calls Tryz.prog 215 #[↑n,↑m] w λe w'=>e=.returned ↑(wi n m)/\w=w':=by
 unfold wi;by_cases h:0<=n
 all_goals
  go_enter Tryz.func215,Tryz.ntmps215
  go_wp2;go_ret;exact⟨by simp[*]<;>omega,rfl⟩
theorem Bg(k:Int)(w:World):Calls Tryz.prog 189 #[↑k] w λe w'=>e=.returned ↑(decide (1<=k)&&decide (k<=3))/\w=w':=by
 have hcase:k=1\/(k≠1/\k=2)\/(k≠1/\k≠2):=by omega
 rcases hcase with h|⟨h,h'⟩|⟨h,h'⟩
 all_goals
  go_enter Tryz.func189,Tryz.ntmps189
  go_wp2;go_ret;refine⟨?_,rfl⟩
 ·subst h;rfl
 ·subst h';rfl
 ·by_cases h3:k=3
  ·subst h3;rfl
  ·have:(decide (1<=k)&&decide (k<=3))=false:=by simp;omega
   rw[this];simp[*]
theorem JA(A:Option Addr)(c:Nat)(l:List Int)(B:Nat)(w:World)(hs:iY w B A l.length (bv l))(hl:iK l)(hlen:l.length<=maxLen):Calls Tryz.prog 223 #[.slice A l.length c] w λe w'=>e=.returned ↑(Fr.kd l)/\w=w':=by
 unfold maxLen at hlen;have hb:=hl.getD 0;rcases gF l.length with h0|h0
 ·have h1:Fr.kd l=0:=by rw[dx.1 h0];rfl
  rw[h1,h0]
  go_enter Tryz.func223,Tryz.ntmps223
  go_wp2;go_ret;exact⟨rfl,rfl⟩
 ·obtain⟨b,off,rfl,hbb,hc⟩:=hs h0
  have hc:=hc 0 h0;rw[gC]at hc;unfold bv at hc;unfold Fr.kd;generalize l.getD 0 0=x at *
  go_enter Tryz.func223,Tryz.ntmps223
  go_wp2;go_ret;exact⟨rfl,rfl⟩
theorem vF(s:St)(w:World):Calls Tryz.prog 190 #[stV s] w λe w'=>e=.returned ↑s.may/\Below w w w':=by
 obtain⟨r,s,m⟩:=s;have hm:St.may ⟨r,s,m⟩=(wi r 65535&&wi s 7&&wi m 255):=by
  unfold St.may wi;have:decide (s<8)=decide (s<=7):=by congr 1;exact propext (by omega)
  rw[this];simp only[Bool.and_assoc]
 rw[hm];clear hm;have h1:=λn m W=>af (Jz n m W);unfold stV
 cases b1:wi r 65535<;>cases b2:wi s 7
 all_goals
  go_enter Tryz.func190,Tryz.ntmps190
  go_wp2_with (go_at_call 215;refine(h1 _ _ _).o.mono ?_;rintro e w1 ⟨rfl,rfl⟩);go_ret;exact⟨by simp[*],(ah _ _).alloc lr _⟩
theorem Bh(s:St)(hs:s.may=true)(w:World):
  Calls Tryz.prog 146 #[stV s] w λe w'=>∃v,e=.returned v/\iJ w' w v s.bytes/\Below w w w':=by
 obtain⟨⟨h1,h2⟩,⟨h3,h4⟩,h5,h6⟩:=s.mM.1 hs;obtain⟨r,s,m⟩:=s;simp only at h1 h2 h3 h4 h5 h6;unfold stV;clear hs
 go_enter Tryz.func146,Tryz.ntmps146
 go_wp2;go_ret;exact⟨_,rfl,pJ _ _ rfl _ [r / 256,r%256,s,m] rfl _ (by simp) (by simp[maxLen]) _ _ _ (by simp) rfl rfl,((ah _ _).alloc lr _).alloc (by simp) _⟩
theorem vG(x y:Int)(hx:0<=x/\x<256)(hy:0<=y/\y<256):bits BinOp.or IntKind.i64 (x*256) y=x*256+y:=by
 obtain⟨X,rfl⟩:=bZ hx.1;obtain⟨Y,rfl⟩:=bZ hy.1;have h1:X<256:=by omega
 have h2:Y<256:=by omega
 show IntKind.i64.wrap ((BitVec.ofInt 64 ((X:Int)*256) ||| BitVec.ofInt 64 (Y:Int)).toNat:Int)=_;have e:(X:Int)*256=((X*256:Nat):Int):=by omega
 rw[e,BitVec.toNat_or,cG,cG,dJ];have e1:((((X*256:Nat):Int)%((2^64:Nat):Int))).toNat=X<<<8:=by rw[fE];omega
 have e2:(((Y:Int)%((2^64:Nat):Int))).toNat=Y:=by omega
 rw[e1,e2,<-Nat.shiftLeft_add_eq_or_of_lt (b:=Y) (i:=8) (by omega) X,fE];omega
theorem vH(b off c:Nat)(n:Nat)(x y:Int)(w:World)(hn:2<=n)(hn2:n<=maxLen)(h0:w.cell? (b,off)=some (.int .u8 x))(h1:w.cell? (b,off+1)=some (.int .u8 y))(hx:0<=x/\x<256)(hy:0<=y/\y<256):
  Calls Tryz.prog 225 #[.slice (some (b,off)) n c] w λe w'=>e=.returned ↑(x*256+y:Int)/\∃m,w.drewN m=w':=by
 unfold maxLen at hn2;have ho:=vG x y hx hy
 go_enter Tryz.func225,Tryz.ntmps225
 go_wp2
 go_quiet (fail)
 go_wp2;go_ret;exact⟨rfl,_,rfl⟩
theorem JB(f:F)(v:Value)(w:World)(B:Nat)(hv:iI w B v f.d):
  Calls Tryz.prog 145 #[frV f v] w λe w'=>e=.returned ↑f.is/\Below w w w':=by
 obtain⟨A,c,rfl,h1,h2,-,-⟩:=hv.at_;unfold maxLen at h2;obtain⟨k,⟨r,s,m⟩,d⟩:=f;simp only at h1;have hK:=λW=>af (Bg k W);have hm:=λW=>af (vF ⟨r,s,m⟩ W);have hr:∀b c:Bool,b=(⟨r,s,m⟩:St).may->c=(decide (1<=k)&&decide (k<=3))->F.is ⟨k,⟨r,s,m⟩,d⟩=(c&&b&&decide (d.length<=8)):=λb c hb hc=>by rw[hb,hc];rfl
 generalize(⟨r,s,m⟩:St).may=b at *;generalize(decide (1<=k)&&decide (k<=3))=q at *;rw[hr b q rfl rfl];clear hr;unfold frV;generalize d.length=n at *
 cases q<;>cases b
 all_goals
  go_enter Tryz.func145,Tryz.ntmps145
  go_wp2_with fail;refine(hK _).o.mono ?_;rintro e w1 ⟨rfl,rfl⟩;go_wp2_with (go_at_call 190;refine(hm _).o.mono ?_;rintro e w1 ⟨rfl,hb⟩;have hc:=jE hb;have hz:=hb.size;simp only[gy]at hz;have hb:=((ah w w).alloc lr _).trans (hb.mono (by simp)));go_ret
  first
   |exact⟨by simp<;>omega,hb⟩
   |exact⟨by simp<;>omega,(ah _ _).alloc lr _⟩
theorem JC(s:St)(w:World):Calls Tryz.prog 192 #[stV s] w λe w'=>e=.returned ↑(s.seed:Nat)/\Below w w w':=by
 have hm:=λW=>vF s W;have hst:=λh W=>Bh s h W;have hsd:s.may=true->s.seed=Fr.iM 32767 s.bytes:=λh=>by rw[St.seed,au h]
 have oG:s.may=false->s.seed=0:=λh=>by rw[St.seed,ai (by rw[h];decide)]
 have hok:s.may=true->∀k,0<=s.bytes.getD k 0/\s.bytes.getD k 0<256:=λh k=>(St.pK h).getD k;have h32:Cr.sd 32767=32767:=by decide
 have hsum:=λA c W(h:iY W W A s.bytes.length (bv s.bytes))hz=>zD A s.bytes.length c (λk=>s.bytes.getD k 0) 32767 W 41 W.heap.size rfl h hz (by simp[St.bytes,maxLen]);simp only[Fr.sK,h32]at hsum
 cases hb:s.may
 ·rw[hb]at hm
  rw[oG hb];clear hst hsd oG hok hsum h32 hb;have hm:=λW=>af (hm W);unfold stV at hm ⊢
  go_enter Tryz.func192,Tryz.ntmps192
  go_wp2_with (go_at_call 190;refine(hm _).o.mono ?_;rintro e w1 ⟨rfl,hb⟩;have hb:=((ah w w).alloc lr _).trans (hb.mono (by simp)));go_ret;exact⟨rfl,hb⟩
 ·rw[hb]at hm
  have hm:=λW=>af (hm W);have hst:=λW=>af (hst hb W);have hok:=af (hok hb);have hsum:=λA c W h hz=>af (hsum A c W h hz);rw[hsd hb];generalize s.bytes=l at *;clear hsd oG h32 hb;unfold stV at hm hst ⊢
  go_enter Tryz.func192,Tryz.ntmps192
  go_wp2_with (go_at_call 190;refine(hm _).o.mono ?_;rintro e w1 ⟨rfl,hb⟩;have hc:=jE hb;have hz:=hb.size;simp only[gy]at hz;have hb:=((ah w w).alloc lr _).trans (hb.mono (by simp)));clear hm;refine(hst _).o.mono ?_;rintro e w2 ⟨v,rfl,ho,hb2⟩;have hb:=hb.trans (hb2.mono hb.size);obtain⟨A,c,rfl,-,-,g,-⟩:=ho.sees.at_;clear ho hst hc hb2;go_wp2_with fail;refine(hsum A c w2 g (λk _=>hok.o k)).o.mono ?_;rintro e w3 ⟨rfl,rfl⟩;go_wp2;go_ret;exact⟨rfl,hb.alloc hb.size _⟩
theorem Bj(v:Value)(l:List Int)(w:World)(B:Nat)(hv:iI w B v l)(hlen:l.length<=140737488355328):
  Calls Tryz.prog 71 #[v] w λe w'=>∃v',e=.returned v'/\iJ w' w v' l/\Below w w w':=by
 obtain⟨A,c,rfl,h1,h2,h3,h4⟩:=hv.at_
 cases A with
 |none=>
  obtain⟨hl,rfl⟩:=h4 rfl;have hl':=dx.1 hl;subst hl';clear h1 h2 h3 h4 hl hv hlen;have hq:=dw (P:=Tryz.prog) w 41 5 none 0 0 0 0 Tryz.underlying41
  go_enter Tryz.func71,Tryz.ntmps71
  go_wp2;go_ret;exact⟨_,rfl,bR,ah _ _⟩
 |some a=>
  have hv:=af hv;have hq:=dw (P:=Tryz.prog) w 41 5 (some a) l.length c 0 0 Tryz.underlying41;clear h3 h4
  go_enter Tryz.func71,Tryz.ntmps71
  go_wp2_with (at_builtin;refine lA _ rfl (.tmp 5) (.tmp 6) 41 rfl w kx Tryz.underlying41 _ [] w (mL w _ rfl _ _ lr rfl) ((ah _ _).alloc lr _) rfl _ _ l rfl (iI.alloc hv.o _) (by simp) (by simp only[fw];omega) ?_);intro v' w1 ho hb;go_wp2;go_ret;exact⟨_,rfl,ho,hb⟩
theorem vI(k:Int)(s:St)(v:Value)(l:List Int)(w:World)(hv:iI w w v l)(hl:iK l):
  Calls Tryz.prog 147 #[↑k,stV s,v] w λe w'=>e=.returned ↑(Fr.iM (if k=1 then s.seed else 0) l:Nat)/\Below w w w':=by
 obtain⟨A,c,rfl,h1,h2,h3,-⟩:=hv.at_;have hsum:=λa W(g:Nat)(hg:g=W.heap.size)(hb:Below w w W)=>zD A l.length c (λk=>l.getD k 0) a W 41 g hg ((h3.below hb).more hb.size) (λk _=>hl.getD k) (by omega);simp only[Fr.sK]at hsum;have hsum:=λa W g hg hb=>af (hsum a W g hg hb);have lU:=λW=>af (JC s W);have hlt:=s.l8;have hbx:=(ah w w).alloc lr (.cells #[↑s.r,↑s.s,↑s.m] 96);clear hl hv;unfold stV at lU ⊢;by_cases hk:k=1
 ·rw[au hk]
  have hsd:=af (show Cr.sd (s.seed:Nat)=s.seed from Cr.zK hlt);generalize s.seed=q at *
  go_enter Tryz.func147,Tryz.ntmps147
  go_wp2_with fail;refine(lU _).o.mono ?_;rintro e w1 ⟨rfl,hb⟩;have hb:=hbx.trans (hb.mono hbx.size);clear hbx lU;go_wp2_with fail;refine(hsum _ _ _ rfl hb).o.mono ?_;rintro e w2 ⟨rfl,rfl⟩;go_wp2;go_ret;exact⟨by show Ending.returned ↑(Fr.iM (Cr.sd (q:Nat)) l:Nat)=_;rw[hsd.o],hb.alloc hb.size _⟩
 ·rw[ai hk]
  have hs0:=λW g hg hb=>(hsum 0 W g hg hb).o;simp only[show Cr.sd 0=0 from rfl]at hs0;have hs1:=λW g hg hb=>af (hs0 W g hg hb);clear hsum hs0
  go_enter Tryz.func147,Tryz.ntmps147
  go_wp2_with fail;refine(hs1 _ _ (by simp) hbx).o.mono ?_;rintro e w2 ⟨rfl,rfl⟩;go_wp2;go_ret;exact⟨rfl,hbx.alloc hbx.size _⟩
theorem JD(b off n c:Nat)(x0 x1 x2 x3:Int)(w:World)(hn:4<=n)(hn2:n<=maxLen)(hbb:b<w.heap.size)(h0:w.cell? (b,off)=some (.int .u8 x0))(h1:w.cell? (b,off+1)=some (.int .u8 x1))(h2:w.cell? (b,off+2)=some (.int .u8 x2))(h3:w.cell? (b,off+3)=some (.int .u8 x3))
  (hx0:0<=x0/\x0<256) (hx1:0<=x1/\x1<256) (hx2:0<=x2/\x2<256) (hx3:0<=x3/\x3<256):
  Calls Tryz.prog 224 #[.slice (some (b,off)) n c] w λe w'=>e=.returned (stV ⟨x0*256+x1,x2,x3⟩)/\Below w w w':=by
 have hp:=λW(hb:Below w w W)=>af (vH b off c n x0 x1 W (by omega) hn2 ((jE hb _ _ hbb).trans h0) ((jE hb _ _ hbb).trans h1) hx0 hx1);have CS:=λ(W:World)(hb:Below w w W)=>(⟨(jE hb _ _ hbb).trans h2,(jE hb _ _ hbb).trans h3⟩:W.cell? (b,off+2)=some (.int .u8 x2)/\W.cell? (b,off+3)=some (.int .u8 x3));unfold stV;unfold maxLen at hn2;have wr2:IntKind.i64.wrap x2=x2:=aO _ (by omega);have wr3:IntKind.i64.wrap x3=x3:=aO _ (by omega);have q2:(2:Int)<(n:Int):=by omega
 have q3:(3:Int)<(n:Int):=by omega
 clear h0 h1 h2 h3
 go_enter Tryz.func224,Tryz.ntmps224
 go_wp2_with fail
 go_region_held3 (λW=>W.cell? (b,off+2)=some (.int .u8 x2)/\W.cell? (b,off+3)=some (.int .u8 x3))
  ((refine CS _ ?_;repeat' (first|exact ah _ _|exact aR _|(with_reducible refine aU ?_ ?_ _)|(with_reducible refine bE ?_ lr _)|(with_reducible refine aC ?_ _)|(with_reducible refine bL ?_))))
  (first
   |((go_at_call 225;refine(hp _ ?_).o.mono ?_);(repeat' (first|exact ah _ _|exact aR _|(with_reducible refine aU ?_ ?_ _)|(with_reducible refine bE ?_ lr _)|(with_reducible refine aC ?_ _)|(with_reducible refine bL ?_)));rintro e w3 ⟨rfl,m,rfl⟩)
   |fail)
 all_goals
  go_wp2
  (try simp only[Exit.inBlock,Exit.then])
  refine aK (v:=.agg #[↑(x0*256+x1:Int),↑x2,↑x3]) ?_ rfl ⟨rfl,?_⟩
  ·rw[j4 rfl]
   go_simp
  ·(repeat' (first|exact ah _ _|exact aR _|(with_reducible refine aU ?_ ?_ _)|(with_reducible refine bE ?_ lr _)|(with_reducible refine aC ?_ _)|(with_reducible refine bL ?_)))
end
section
set_option maxRecDepth 100000
set_option maxHeartbeats 2000000
open Go.RowKit
open Fr (St F)
theorem Bl(f:F)(v:Value)(w:World)(hv:iI w w v f.d)(hd:iK f.d):
  Calls Tryz.prog 100 #[frV f v] w (Enc w f):=by
 have his:=λW(hb:Below w w W)=>JB f v W w (hv.below hb);obtain⟨A,c,rfl,c1,c2,-,-⟩:=hv.at_
 cases hi:f.is
 ·rw[hi]at his
  have his:=λW hb=>af (his W hb);have hE:mO f=1:=by simp[mO,hi]
  have hR:kJ f=[]:=by simp[kJ,hi]
  unfold Enc;rw[hE,hR];clear hi hE hR hv;unfold frV at his ⊢
  go_enter Tryz.func100,Tryz.ntmps100
  go_wp2_with fail;refine(his _ ((ah _ _).alloc lr _)).o.mono ?_;rintro e w1 ⟨rfl,hb⟩;have hb:=((ah w w).alloc lr _).trans (hb.mono (by simp));go_wp2;go_ret2;exact⟨_,rfl,bR,hb⟩
 ·rw[hi]at his
  have his:=λW hb=>af (his W hb);obtain⟨⟨k1,k3⟩,hmay,hlen⟩:=f.l9.1 hi;have hE:mO f=0:=by simp[mO,hi]
  have hR:kJ f=f.body++Fr.two (Fr.iM f.seed f.body):=by simp[kJ,hi,F.bytes]
  have hbody:=af (F.sM hi hd);have hbl:=f.sN;have hsl:=f.l8;have qF:=λW=>af (Bh f.st hmay W);have hhl:f.hl<=6:=by unfold F.hl;split<;>omega
  have hS:=Fr.pL hsl f.body;unfold Enc;rw[hE,hR];have hsum:=λ(V:Value)(W:World)(h:iI W W V f.body)=>vI f.k f.st V f.body W h hbody.o;have hss:(if f.k=1 then f.st.seed else 0)=f.seed:=rfl;simp only[hss]at hsum;have Tm:f.body.length<=100000:=by omega
  have hbd:f.body=(if f.k=1 then [f.k]else [f.k]++f.st.bytes)++[(f.d.length:Int)]++f.d:=by
   unfold F.body F.head
   split<;>simp
  clear hss hbl hhl hbody hi hE hR hd;generalize hSS:Fr.iM f.seed f.body=S at *;have wS:IntKind.u8.wrap ((S:Nat) / 256:Int)=((S / 256:Nat):Int):=by rw[fA];omega
  have wS2:IntKind.u8.wrap ((S:Nat):Int)=((S%256:Nat):Int):=by rw[fA];omega
  clear hSS hS hsl;generalize f.body=body at *;obtain⟨k,st,d⟩:=f;simp only at hv k1 k3 hmay hlen his qF hbd hsum;have hwr:IntKind.u8.wrap ((d.length:Nat):Int)=d.length:=by rw[fA];omega
  have hwk:IntKind.u8.wrap k=k:=by rw[fA];omega
  have hvd:=af hv;have hH:=λV W h=>af (hsum V W h);clear hsum hv;have hsb:st.bytes.length=4:=rfl;unfold frV at his ⊢;unfold stV at qF hH;generalize st.bytes=sb at *;have JE:sb.length<=4:=by omega
  clear hsb;by_cases hk:k=1
  case' pos=>
   rw[au hk]at hbd;subst hk
  case' neg=>
   rw[ai hk]at hbd;have hk':(k != 1)=true:=by simpa using hk
  case pos=>
   go_enter Tryz.func100,Tryz.ntmps100
   go_wp2_with fail;have iO:=af (sJ w ↑(1:Int) ↑st.r ↑st.s ↑st.m (.slice A d.length c) 182);generalize w.alloc (.cells #[↑(1:Int),↑st.r,↑st.s,↑st.m,.slice A d.length c] 182)=w0 at *;have hz0:w0.heap.size<=w.heap.size+1/\w.heap.size+1<=w0.heap.size:=by have:=iO.o.size;omega
   refine(his _ iO.o.below).o.mono ?_;rintro e w1 ⟨rfl,hb1⟩;obtain⟨z1,c10,c11,c12,c13,c14⟩:=iO.o.cell w1 hb1;clear his;have hba:=hb1.alloc hb1.size (.cells #[.int .u8 1] 5);have hoB:=(pJ w1 5 rfl #[.int .u8 1] [1] rfl w0 hb1.size (by simp[maxLen]) w1 1 1 rfl rfl rfl);obtain⟨za,a0,a1,a2,a3,a4⟩:=iO.o.cell _ hba;clear qF
   go_upto_region 6 with fail
   clear c10 c11 c12 c13 c14 z1;generalize w1.alloc (.cells #[.int .u8 1] 5)=wb at *;generalize w1.heap.size=g at *;have hoX:=hoB.alloc (.cells #[.int .u8 (d.length:Int)] 5);have hbX:=hba.alloc hba.size (.cells #[.int .u8 (d.length:Int)] 5);have hsX:=oH wb 5 #[.int .u8 (d.length:Int)] [(d.length:Int)] rfl _ (cJ _) (by simp[maxLen]) wb 1 1 rfl rfl rfl;go_wp2_with (at_builtin;go_loud (refine lA _ rfl (.tmp 21) (.tmp 26) 41 rfl w0 kx Tryz.underlying41 _ [1] w0 hoX hbX rfl _ _ [(d.length:Int)] rfl hsX hbX.size (by simp<;>omega) ?_));intro v3 w3 ho3 hb3;obtain⟨z3,b0,b1,b2,b3,b4⟩:=iO.o.cell w3 hb3;clear hoX hbX hsX hoB a0 a1 a2 a3 a4;go_wp2_with (at_builtin;go_loud (refine lA _ rfl (.tmp 28) (.tmp 30) 41 rfl w0 kx Tryz.underlying41 v3 ([1]++[(d.length:Int)]) w0 ho3 hb3 rfl w (.slice A d.length c) d rfl (hvd.o.below (iO.o.below.trans (hb3.mono (by omega)))) hb3.size (by simp<;>omega) ?_));intro v4 w4 ho4 hb4;have ho4:iJ w4 w0 v4 body:=by rw[hbd];simpa using ho4
   obtain⟨z4,d0,d1,d2,d3,d4⟩:=iO.o.cell w4 hb4;have qG:=ho4.sees;clear ho3 hb3 b0 b1 b2 b3 b4;go_wp2_with fail;refine(hH v4 w4 qG).o.mono ?_;rintro e w5 ⟨rfl,hb⟩;have ho5:=ho4.below hb lr;have hb5:=hb4.trans (hb.mono hb4.size);clear hH qG ho4 hb hb4 d0 d1 d2 d3 d4;go_wp2_with (at_builtin;go_loud (refine lA _ rfl (.tmp 38) (.tmp 44) 41 rfl w0 kx Tryz.underlying41 v4 body w0 (ho5.alloc _) (hb5.alloc hb5.size _) rfl _ _ (Fr.two S) rfl (oH w5 _ _ _ (by simp[Fr.two]) _ (cJ _) (by simp[Fr.two,maxLen]) _ _ _ rfl rfl rfl) (by simp;have:=hb5.size;omega) (by simp[Fr.two];omega) ?_));intro v6 w6 ho6 hb6;have hfin:iJ w6 w v6 (body++Fr.two S):=by
    rw[hbd];simpa using ho6.base (B:=w.heap.size) (by omega)
   have hbf:=iO.o.below.trans (hb6.mono (by omega));clear hwr ho6;go_wp2;go_ret2;exact⟨_,rfl,hfin,hbf⟩
  case neg=>
   go_enter Tryz.func100,Tryz.ntmps100
   go_wp2_with fail;have iO:=af (sJ w ↑k ↑st.r ↑st.s ↑st.m (.slice A d.length c) 182);generalize w.alloc (.cells #[↑k,↑st.r,↑st.s,↑st.m,.slice A d.length c] 182)=w0 at *;have hz0:w0.heap.size<=w.heap.size+1/\w.heap.size+1<=w0.heap.size:=by have:=iO.o.size;omega
   refine(his _ iO.o.below).o.mono ?_;rintro e w1 ⟨rfl,hb1⟩;obtain⟨z1,c10,c11,c12,c13,c14⟩:=iO.o.cell w1 hb1;clear his;go_wp2_with fail;refine(qF _).o.mono ?_;rintro e wa ⟨va,rfl,hoa,hba⟩;have oI:=(hb1.alloc hb1.size (.cells #[.int .u8 k] 5)).trans (hba.mono (by simp;have:=hb1.size;omega));have hob:=(pJ w1 5 rfl #[.int .u8 k] [k] rfl w0 hb1.size (by simp[maxLen]) w1 1 1 rfl rfl rfl).below hba lr;have qH:=hoa.sees;clear c10 c11 c12 c13 c14 hba qF hb1 hoa;go_wp2_with (at_builtin;go_loud (refine lA _ rfl (.tmp 16) (.tmp 19) 41 rfl w0 kx Tryz.underlying41 _ [k] w0 hob oI rfl wa va sb rfl qH oI.size (by simp<;>omega) ?_));intro vb wb hoB hbb;obtain⟨za,a0,a1,a2,a3,a4⟩:=iO.o.cell wb hbb;have hoX:=hoB.alloc (.cells #[.int .u8 (d.length:Int)] 5);have hbX:=hbb.alloc hbb.size (.cells #[.int .u8 (d.length:Int)] 5);have hsX:=oH wb 5 #[.int .u8 (d.length:Int)] [(d.length:Int)] rfl _ (cJ _) (by simp[maxLen]) wb 1 1 rfl rfl rfl;clear hob qH oI;go_wp2_with (at_builtin;go_loud (refine lA _ rfl (.tmp 21) (.tmp 26) 41 rfl w0 kx Tryz.underlying41 _ ([k]++sb) w0 hoX hbX rfl _ _ [(d.length:Int)] rfl hsX hbX.size (by simp<;>omega) ?_));intro v3 w3 ho3 hb3;obtain⟨z3,b0,b1,b2,b3,b4⟩:=iO.o.cell w3 hb3;clear hoX hbX hsX hoB a0 a1 a2 a3 a4;go_wp2_with (at_builtin;go_loud (refine lA _ rfl (.tmp 28) (.tmp 30) 41 rfl w0 kx Tryz.underlying41 v3 (([k]++sb)++[(d.length:Int)]) w0 ho3 hb3 rfl w (.slice A d.length c) d rfl (hvd.o.below (iO.o.below.trans (hb3.mono (by omega)))) hb3.size (by simp<;>omega) ?_));intro v4 w4 ho4 hb4;have ho4:iJ w4 w0 v4 body:=by rw[hbd];simpa using ho4
   obtain⟨z4,d0,d1,d2,d3,d4⟩:=iO.o.cell w4 hb4;have qG:=ho4.sees;clear ho3 hb3 b0 b1 b2 b3 b4;go_wp2_with fail;refine(hH v4 w4 qG).o.mono ?_;rintro e w5 ⟨rfl,hb⟩;have ho5:=ho4.below hb lr;have hb5:=hb4.trans (hb.mono hb4.size);clear hH qG ho4 hb hb4 d0 d1 d2 d3 d4;go_wp2_with (at_builtin;go_loud (refine lA _ rfl (.tmp 38) (.tmp 44) 41 rfl w0 kx Tryz.underlying41 v4 body w0 (ho5.alloc _) (hb5.alloc hb5.size _) rfl _ _ (Fr.two S) rfl (oH w5 _ _ _ (by simp[Fr.two]) _ (cJ _) (by simp[Fr.two,maxLen]) _ _ _ rfl rfl rfl) (by simp;have:=hb5.size;omega) (by simp[Fr.two];omega) ?_));intro v6 w6 ho6 hb6;have hfin:iJ w6 w v6 (body++Fr.two S):=by
    rw[hbd];simpa using ho6.base (B:=w.heap.size) (by omega)
   have hbf:=iO.o.below.trans (hb6.mono (by omega));clear hwr ho6;go_wp2;go_ret2;exact⟨_,rfl,hfin,hbf⟩
end
section
set_option maxRecDepth 100000
set_option maxHeartbeats 4000000
open Go.RowKit
open Clk (iM lR lS avg)
theorem yX(l:List Int)(k:Nat)(h:k<l.length):iM (l.take (k+1))=iM (l.take k)+l.getD k 0:=by
 rw[fN h,Clk.qy,ay,aP h];simp[iM]
theorem yY(f:Int->Int->Int)(a:Int)(l:List Int)(k:Nat)(h:k<l.length):(l.take (k+1)).foldl f a=f ((l.take k).foldl f a) (l.getD k 0):=by
 rw[fN h,fO,ay,aP h]
 rfl
theorem yZ{l:List Int}(h:small l)(k:Nat)(hk:k<=4):-4398046511104<=iM (l.take k)/\iM (l.take k)<=4398046511104:=by
 have:∀m:List Int,small m->m.length<=4->-4398046511104<=iM m/\iM m<=4398046511104:=by
  intro m hm h4
  match m,hm,h4 with
  |[],_,_=>simp[iM]
  |[a],hm,_=>simp[small]at hm;simp[iM];omega
  |[a,b],hm,_=>simp[small]at hm;simp[iM];omega
  |[a,b,c],hm,_=>simp[small]at hm;simp[iM];omega
  |[a,b,c,d],hm,_=>simp[small]at hm;simp[iM];omega
 exact this _ (λx hx=>h x (bM hx)) (by simp;omega)
theorem y9(l:List Int)(v:Value)(w:World)(B:Nat)(hv:ja w B v l)(hs:small l)(h12:l.length=1\/l.length=2):
  Calls Tryz.prog 234 #[v] w λe w'=>e=.returned ↑(iM l / (l.length:Int):Int)/\w'=w:=by
 obtain⟨A,c,rfl,h1,h2,h3,h4⟩:=hv.at_;obtain⟨b,off,rfl,hb,hc⟩:=h3 (by omega);have HS:=af (yX l);have HB:=af (λk=>hs.getD k);have HC:Hid (∀k,k<l.length->w.cell? (b,off+k)=some ↑(l.getD k 0)):=af hc;have HT:=af (yZ hs);have HF:Hid (∀k,k=l.length->iM (l.take k)=iM l):=af (λk hk=>by rw[hk,dz]);clear hv h3 h4 hc hs;have go:∀N:Nat,l.length=N->(N=1\/N=2)->Calls Tryz.prog 234 #[.slice (some (b,off)) N c] w λe w'=>e=.returned ↑(iM l / (N:Int):Int)/\w'=w:=by
  intro N hN hN2;have HN:=af hN;clear hN;rcases hN2 with rfl|rfl
  ·go_enter Tryz.func234,Tryz.ntmps234
   go_wp2
   go_loop [3,4,9] (λu r i=>∃(k:Nat)(a:Int),k<=1/\i=↑k/\u=↑a/\r=↑(0:Int)/\a=iM (l.take k)) (λ_ _ i=>1-(intOf i).toNat)
   case atStart=>exact⟨0,0,by omega,rfl,rfl,rfl,by simp[iM]⟩
   case round=>
    obtain⟨k,a,hk,rfl,rfl,rfl,he⟩:=hrel;have HE:=af he;clear he;have bd:-4398046511104<=a/\a<=4398046511104:=by have:=HE.o;have:=HT.o k (by omega);omega
    obtain⟨bd1,bd2⟩:=bd;by_cases hlt:k<1
    ·obtain rfl:k=0:=by omega
     have c1:=HC.o 0 (by have:=HN.o;omega);have hst:Hid (iM (l.take 1)=iM (l.take 0)+l.getD 0 0):=af (HS.o 0 (by have:=HN.o;omega));obtain⟨x1,x2⟩:=HB.o 0;generalize l.getD 0 0=x at *;simp only[gC]at c1;go_wp2
     go_round
     case rel=>exact⟨1,a+x,by omega,by go_num,by simp,by simp,by have:=hst.o;have:=HE.o;omega⟩
     case measure=>simp[intOf]
    ·obtain rfl:k=1:=by omega
     go_wp2;go_ret;exact⟨lY (by have:=HE.o;have:=HF.o 1 (by have:=HN.o;omega);omega),rfl⟩
  ·go_enter Tryz.func234,Tryz.ntmps234
   go_wp2
   go_loop [3,4,9] (λu r i=>∃(k:Nat)(a q:Int),k<=2/\i=↑k/\u=↑a/\r=↑q/\2*a+q=iM (l.take k)/\-(k:Int)<=q/\q<=k) (λ_ _ i=>2-(intOf i).toNat)
   case atStart=>exact⟨0,0,0,by omega,rfl,rfl,rfl,by simp[iM],by omega,by omega⟩
   case round=>
    obtain⟨k,a,q,hk,rfl,rfl,rfl,he,hq1,hq2⟩:=hrel;have HE:=af he;clear he;have bd:-4398046511104<=a/\a<=4398046511104/\-2<=q/\q<=2:=by have:=HE.o;have:=HT.o k (by omega);omega
    obtain⟨bd1,bd2,bd3,bd4⟩:=bd;by_cases hlt:k<2
    ·have q1:decide ((k:Int)<2)=true:=by simp;omega
     have c1:=HC.o k (by have:=HN.o;omega);have hst:=af (HS.o k (by have:=HN.o;omega));obtain⟨x1,x2⟩:=HB.o k;generalize l.getD k 0=x at *;have H2:=af (Clk.td2 x);have d1:-1099511627776<=x.tdiv 2/\x.tdiv 2<=1099511627776/\-1<=x.tmod 2/\x.tmod 2<=1:=by have:=H2.o;omega
     obtain⟨d1,d2,d3,d4⟩:=d1;go_wp2
     go_round
     case rel=>exact⟨k+1,a+x.tdiv 2,q+x.tmod 2,by omega,by go_num,rfl,rfl,by have:=hst.o;have:=HE.o;have:=H2.o;omega,by omega,by omega⟩
     case measure=>simp[intOf];omega
    ·obtain rfl:k=2:=by omega
     have H2:=af (Clk.td2 q);have d1:-2<=q.tdiv 2/\q.tdiv 2<=2/\-1<=q.tmod 2/\q.tmod 2<=1:=by have:=H2.o;omega
     obtain⟨d1,d2,d3,d4⟩:=d1;have hf:=af (HF.o 2 (by have:=HN.o;omega));by_cases hneg:q.tmod 2<0
     ·have q1:decide (q.tmod 2<0)=true:=av hneg
      go_wp2;go_ret;exact⟨lY (by have:=hf.o;have:=HE.o;have:=H2.o;omega),rfl⟩
     ·have q1:decide (q.tmod 2<0)=false:=aj hneg
      go_wp2;go_ret;exact⟨lY (by have:=hf.o;have:=HE.o;have:=H2.o;omega),rfl⟩
 exact go _ rfl h12
theorem GZ(l:List Int):lR l=l.foldl min (l.getD 0 0):=by
 cases l with
 |nil=>rfl
 |cons x l=>show l.foldl min x=l.foldl min (min x x);rw[show min x x=x by omega]
theorem G0(l:List Int):lS l=l.foldl max (l.getD 0 0):=by
 cases l with
 |nil=>rfl
 |cons x l=>show l.foldl max x=l.foldl max (max x x);rw[show max x x=x by omega]
theorem G1{l:List Int}(h:small l)(k:Nat):(-1099511627776<=(l.take k).foldl min (l.getD 0 0)/\(l.take k).foldl min (l.getD 0 0)<=1099511627776)/\(-1099511627776<=(l.take k).foldl max (l.getD 0 0)/\(l.take k).foldl max (l.getD 0 0)<=1099511627776):=by
 have h0:=h.getD 0;constructor
 ·rcases Clk.ze (l.take k) (l.getD 0 0)with e|e
  ·omega
  ·exact h _ (bM e)
 ·rcases Clk.zf (l.take k) (l.getD 0 0)with e|e
  ·omega
  ·exact h _ (bM e)
theorem G3(x m:Int):(if x<m then x else m)=min m x:=by split<;>omega
theorem G4(x m:Int):(if m<x then x else m)=max m x:=by split<;>omega
theorem zh(l:List Int)(v:Value)(w:World)(B:Nat)(hv:ja w B v l)(hs:small l)(h4:l.length<=4):
  Calls Tryz.prog 211 #[v] w λe w'=>e=.returned ↑(avg l)/\Below w w w':=by
 obtain⟨A,c,rfl,h1,h2,h3,-⟩:=hv.at_;by_cases h0:l.length=0
 ·have e:avg l=0:=by unfold avg;rw[au h0]
  rw[h0,e];clear hv h3
  go_enter Tryz.func211,Tryz.ntmps211
  go_wp2;go_ret;exact⟨rfl,ah _ _⟩
 obtain⟨b,off,rfl,hb,hc⟩:=h3 (by omega);have HS:=af (yX l);have HM:=af (yY min (l.getD 0 0) l);have HX:=af (yY max (l.getD 0 0) l);have HB:=af (λk=>hs.getD k);have hbw:b<w.heap.size:=gh w _ (hc 0 (by omega));have HC:Hid (∀W:World,Below w w W->∀k,k<l.length->W.cell? (b,off+k)=some ↑(l.getD k 0)):=af (λW hW k hk=>(hW.cell hbw).trans (hc k hk));have HT:=af (yZ hs);have HD:=af (G1 hs);have HF:Hid (∀k,k=l.length->l.take k=l):=af (λk hk=>by rw[hk,dz]);have HA:Hid (avg l=if l.length<3 then iM l / (l.length:Int)else(iM l-l.foldl min (l.getD 0 0)-l.foldl max (l.getD 0 0)) / ((l.length:Int)-2)):=af (by unfold avg;rw[ai h0,GZ,G0]);clear hv h3 hc hs;generalize hR:avg l=R at *;clear hR;have go:∀N:Nat,l.length=N->(N=1\/N=2\/N=3\/N=4)->Calls Tryz.prog 211 #[.slice (some (b,off)) N c] w λe w'=>e=.returned ↑R/\Below w w w':=by
  intro N hN hN2;have HN:=af hN;clear hN;have c0:w.cell? (b,off)=some ↑(l.getD 0 0):=HC.o w (ah _ _) 0 (by have:=HN.o;omega);generalize l.getD 0 0=z0 at *;obtain⟨nb1,nb2⟩:1<=N/\N<=4:=by omega
  have q0:((N:Int)==0)=false:=by simp;omega
  go_enter Tryz.func211,Tryz.ntmps211
  go_wp2
  go_region
  go_wp2
  go_loopw [3,4,5,6] (λu p q i wr=>∃(k:Nat),k<=N/\i=↑k/\u=↑(iM (l.take k))/\p=↑((l.take k).foldl min z0)/\q=↑((l.take k).foldl max z0)/\Below w w wr) (λ_ _ _ i _=>N-(intOf i).toNat)
  case atStart=>exact⟨0,by omega,rfl,by simp[iM],by simp,by simp,(ah _ _).drew⟩
  case round=>
   obtain⟨k,hk,rfl,rfl,rfl,rfl,hbw⟩:=hrel;obtain⟨s1,s2⟩:=HT.o k (by omega);obtain⟨⟨m1,m2⟩,⟨x1,x2⟩⟩:=HD.o k;by_cases hlt:k<N
   ·have q1:decide ((k:Int)<(N:Nat))=true:=by simp;omega
    have HS1:=af (HS.o k (by have:=HN.o;omega));have HM1:=af (HM.o k (by have:=HN.o;omega));have HX1:=af (HX.o k (by have:=HN.o;omega));have c1:=λW hW=>HC.o W hW k (by have:=HN.o;omega);obtain⟨y1,y2⟩:=HB.o k;generalize l.getD k 0=x at *;generalize iM (l.take k)=sm at *;generalize(l.take k).foldl min z0=mn at *;generalize(l.take k).foldl max z0=mx at *;have c2:=c1 wr hbw;go_wp2
    go_region
    go_wp2;go_roundw
    case rel=>exact⟨k+1,by omega,by go_num,by rw[HS1.o],by rw[HM1.o,G3],by rw[HX1.o,G4],hbw.drew⟩
    case measure=>simp[intOf];omega
   ·have q1:decide ((k:Int)<(N:Nat))=false:=by simp;omega
    have HK:=af (HF.o k (by have:=HN.o;omega));rw[HK.o]at s1 s2 m1 m2 x1 x2 ⊢;rcases hN2 with rfl|rfl|rfl|rfl
    case inl=>
     go_wp2_with fail;refine(yR _ _ (by omega)).mono ?_;rintro e w' ⟨rfl,rfl⟩;go_wp2;go_ret;exact⟨lY (by have:=HA.o;have:=HN.o;rw[HA.o,HN.o];simp),hbw⟩
    case inr.inl=>
     go_wp2_with fail;refine(yS _ _ (by omega)).mono ?_;rintro e w' ⟨rfl,rfl⟩;go_wp2;go_ret;exact⟨lY (by have:=HA.o;have:=HN.o;rw[HA.o,HN.o];simp),hbw⟩
    case inr.inr.inl=>
     go_wp2_with fail;refine(yR _ _ (by omega)).mono ?_;rintro e w' ⟨rfl,rfl⟩;go_wp2;go_ret;exact⟨lY (by have:=HA.o;have:=HN.o;rw[HA.o,HN.o];simp),hbw⟩
    case inr.inr.inr=>
     go_wp2_with fail;refine(yS _ _ (by omega)).mono ?_;rintro e w' ⟨rfl,rfl⟩;go_wp2;go_ret;exact⟨lY (by have:=HA.o;have:=HN.o;rw[HA.o,HN.o];simp),hbw⟩
 exact go _ rfl (by omega)
end
section
set_option maxRecDepth 100000
set_option maxHeartbeats 1000000
open Go.RowKit
open Clk (iM lR lS avg)
theorem ja.sub{w:World}{B b off n c:Nat}{l:List Int}(h:ja w B (.slice (some (b,off)) n c) l)(hn:n=l.length)(i j:Nat)(hij:i<=j)(hj:j<=n)(h0:0<n){o m c':Nat}(ho:o=off+i)(hm:m=j-i)(hc:c'=c-i):
  ja w B (.slice (some (b,o)) m c') ((l.drop i).take (j-i)):=by
 subst ho hm hc hn;obtain⟨A,c',e,h1,h2,h3,-⟩:=h.at_;simp only[fq]at e;obtain⟨rfl,-,rfl⟩:=e;obtain⟨b',off',e,hb,hcell⟩:=h3 h0;simp only[bB,Addr.mk.injEq]at e;obtain⟨rfl,rfl,-⟩:=e;have hl:((l.drop i).take (j-i)).length=j-i:=by simp;omega
 refine⟨_,_,by rw[hl],by rw[hl];omega,by omega,λ_=>⟨b,off+i,rfl,hb,λk hk=>?_⟩,λh=>by cases h⟩;rw[hl]at hk;have:=hcell (i+k) (by omega);rw[fe,this];simp[iv,ay,hk]
theorem OwnsI.uW{w:World}{B:Nat}{v:Value}{l:List Int}(h:OwnsI w B v l)(h0:0<l.length):∃g c,v=.slice (some ⟨g,0,none⟩) l.length c/\l.length<=c/\c<=maxLen/\B<=g/\g<w.heap.size:=by
 rcases h.2 with⟨-,hn⟩|⟨g,cap,cur,rfl,hb,hg,hn,hc,-⟩
 ·omega
 ·exact⟨g,cap,rfl,hn,hc,hb,(bT.1 hg).1⟩
theorem small.perm{l m:List Int}(h:small l)(hp:m.Perm l):small m:=λx hx=>h x (hp.mem_iff.1 hx)
theorem small.sub{l:List Int}(h:small l)(i j:Nat):small ((l.drop i).take j):=λx hx=>h x (fP (bM hx))
theorem uX(l:List Int)(v:Value)(w:World)(B:Nat)(hB:B<=w.heap.size)(hv:ja w B v l)(hs:small l)(h4:l.length<=4):
  Calls Tryz.prog 226 #[v] w λe w'=>e=.returned ↑(avg l)/\Below w w w':=by
 have hv0:=af hv;obtain⟨A,c,rfl,h1,h2,h3,-⟩:=hv.at_;by_cases h0:l.length=0
 ·have e:avg l=0:=by unfold avg;rw[au h0]
  rw[h0,e];clear hv hv0 h3
  go_enter Tryz.func226,Tryz.ntmps226
  go_wp2;go_ret;exact⟨rfl,ah _ _⟩
 by_cases h3':l.length<3
 ·have e:avg l=iM l / (l.length:Int):=Clk.G5 (by omega) h3'
  rw[e];have H:=af (y9 l _ w B hv hs (by omega));have q0:((l.length:Int)==0)=false:=by rw[aB];omega
  have q1:decide ((2:Int)<(l.length:Int))=false:=aj (by omega);clear hv hv0 h3 e
  go_enter Tryz.func226,Tryz.ntmps226
  go_wp2_with fail;refine H.o.mono ?_;rintro e w' ⟨rfl,rfl⟩;go_wp2;go_ret;exact⟨rfl,ah _ _⟩
 ·have H:=af (GY l _ w B hv (by omega) (by omega))
  have q0:((l.length:Int)==0)=false:=by rw[aB];omega
  have q1:decide ((2:Int)<(l.length:Int))=true:=av (by omega);clear hv hv0 h3
  go_enter Tryz.func226,Tryz.ntmps226
  go_wp2_with fail;refine H.o.mono ?_;rintro e w1 ⟨v1,rfl,ho,hb⟩;obtain⟨g,c1,rfl,k1,k2,k3,k4⟩:=ho.uW (by omega);have H2:=af (GX l g l.length c1 w1 w ho rfl (by omega) (by omega));clear ho;have q2:¬c1=1:=by omega
  go_wp2_with fail;refine H2.o.mono ?_;rintro e w2 ⟨rfl,m,hp,hso,ho2,hb2⟩;have hle:=hp.length_eq;have hsub:=ho2.sees.sub (by omega) 1 (l.length-1) (by omega) (by omega) (by omega) (o:=1) (by omega) (m:=l.length-1-1) rfl rfl;have hlen:((m.drop 1).take (l.length-1-1)).length=l.length-2:=by simp;omega
  have H3:=af (y9 ((m.drop 1).take (l.length-1-1)) _ w2 w2 hsub ((hs.perm hp).sub _ _) (by omega));have e3:=Clk.G6 hso (by omega) (by omega);rw[hle,show l.length-2=l.length-1-1 by omega,Clk.G7 hp]at e3;have HE:=af e3;clear e3 hlen hsub ho2 hso hle;go_wp2_with fail;refine H3.o.mono ?_;rintro e w3 ⟨rfl,rfl⟩;go_wp2;go_ret;exact⟨lY (by rw[HE.o];simp),hb.trans hb2⟩
end
section
set_option maxRecDepth 100000
set_option maxHeartbeats 1000000
open Go.RowKit
open Clk (avg)
def clk(m:Int)(l:List Int):Array Value:=#[↑m,↑(l.getD 0 0),↑(l.getD 1 0),↑(l.getD 2 0),↑(l.getD 3 0),↑(l.length:Nat)]
def oq(W:World)(g:Nat)(m:Int)(l:List Int):Prop:=Blk W g (clk m l) 113/\l.length<=4
theorem oq.cells{W:World}{g:Nat}{m:Int}{l:List Int}(h:oq W g m l):W.cell? (g,0)=some ↑m/\W.cell? (g,1)=some ↑(l.getD 0 0)/\W.cell? (g,2)=some ↑(l.getD 1 0)/\W.cell? (g,3)=some ↑(l.getD 2 0)/\W.cell? (g,4)=some ↑(l.getD 3 0)/\W.cell? (g,5)=some ↑(l.length:Nat):=
 ⟨h.1.cell 0 rfl,h.1.cell 1 rfl,h.1.cell 2 rfl,h.1.cell 3 rfl,h.1.cell 4 rfl,h.1.cell 5 rfl⟩
theorem oq.below{W W':World}{g:Nat}{m:Int}{l:List Int}(h:oq W g m l){B:Nat}(hb:Below B W W')(hg:g<B):oq W' g m l:=⟨h.1.below hb hg,h.2⟩
theorem G8(m n:Int)(l:List Int)(h4:l.length=4):((((((clk m l).setIfInBounds 1 ↑(l.getD 1 0)).setIfInBounds 2 ↑(l.getD 2 0)).setIfInBounds 3 ↑(l.getD 3 0)).setIfInBounds 5 ↑(3:Int)).setIfInBounds 4 ↑n).setIfInBounds 5 ↑(4:Int)=clk m (l.drop 1++[n]):=by
 match l,h4 with
 |[p,q,r,s],_=>simp[clk]
def iT(l:List Int)(n:Int):List Int:=if l.length=4 then l.drop 1++[n]else l++[n]
theorem zk(m:Int)(w:World):
  Calls Tryz.prog 59 #[↑m] w λe w'=>e=.returned ↑(w,0)/\oq w' w m []/\Below w w w'/\w'.heap.size=w.heap.size+1:=by
 go_enter Tryz.func59,Tryz.ntmps59
 go_wp2;go_ret;exact⟨rfl,⟨aJ _ _ rfl _ _,by simp⟩,(ah _ _).alloc lr _,by simp⟩
theorem G9(m n:Int)(l:List Int)(k:Nat)(hk:l.length=k)(h4:k<4):((clk m l).setIfInBounds (1+k) ↑n).setIfInBounds 5 ↑((k:Int)+1:Int)=clk m (l++[n]):=by
 match l,hk,h4 with
 |[],rfl,_=>simp[clk]
 |[p],rfl,_=>simp[clk]
 |[p,q],rfl,_=>simp[clk]
 |[p,q,r],rfl,_=>simp[clk]
def jb(m:Int)(l:List Int):Int:=if wiB m (avg l)then avg l else 0
end
end Go.Proofs.YteadkhigkmijiaaGreat
