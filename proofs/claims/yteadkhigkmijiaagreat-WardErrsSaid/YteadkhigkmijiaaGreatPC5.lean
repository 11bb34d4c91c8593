/- Texts FrD, FrE, FrF, FrG, TbE, ClA in one. -/
import Derived.Laws.ResultCell
import Derived.Deep.CutBlock
import Derived.IntWalk
import Derived.Test.YteadkhigkmijiaaGreatPC1
import Derived.Test.YteadkhigkmijiaaGreatPC3
import Derived.Test.YteadkhigkmijiaaGreatPC4
set_option linter.all false
namespace Go.Proofs.YteadkhigkmijiaaGreat
section
open Go.RowKit
open Fr (St F)
def Dec(w:World)(l:List Int)(own:St)(e:Ending)(w':World):Prop:=∃v,e=.returned (.tuple #[frV (Fr.res l own) v,↑(Fr.err l own)])/\iJ w' w v (Fr.res l own).d/\Below w w w'
theorem Ba{l:List Int}{own:St}(h:Fr.ji l own=false){w w':World}{e:Ending}(he:e=.returned (.tuple #[.agg #[↑(0:Int),↑(0:Int),↑(0:Int),↑(0:Int),.slice none 0 0],↑(2:Int)]))(hb:Below w w w'):Dec w l own e w':=by
 have h1:Fr.res l own=Fr.zero:=by simp[Fr.res,h]
 have h2:Fr.err l own=2:=by simp[Fr.err,h]
 unfold Dec;rw[h1,h2];exact⟨.slice none 0 0,he,bR,hb⟩
theorem Bb{l:List Int}{own:St}(h:Fr.ji l own=true)(hs:Fr.jT l own=false){w w':World}{e:Ending}(he:e=.returned (.tuple #[.agg #[↑(0:Int),↑(0:Int),↑(0:Int),↑(0:Int),.slice none 0 0],↑(3:Int)]))(hb:Below w w w'):Dec w l own e w':=by
 have h1:Fr.res l own=Fr.zero:=by simp[Fr.res,h,hs]
 have h2:Fr.err l own=3:=by simp[Fr.err,h,hs]
 unfold Dec;rw[h1,h2];exact⟨.slice none 0 0,he,bR,hb⟩
theorem Bc{l:List Int}{own:St}(h:Fr.ji l own=true)(hs:Fr.jT l own=true){w w':World}{e:Ending}{v:Value}(he:e=.returned (.tuple #[frV (Fr.rd l own) v,↑(0:Int)]))(ho:iJ w' w v (Fr.rd l own).d)(hb:Below w w w'):Dec w l own e w':=by
 have h1:Fr.res l own=Fr.rd l own:=by simp[Fr.res,h,hs]
 have h2:Fr.err l own=0:=by simp[Fr.err,h,hs]
 unfold Dec;rw[h1,h2];exact⟨v,he,ho,hb⟩
theorem Bf(l:List Int)(own:St):(Fr.jT l own=true)↔l.take (l.length-2)++Fr.two (Fr.iM (Fr.jI l own) (l.take (l.length-2)))=l:=by
 unfold Fr.jT;rw[fW];constructor
 ·intro h
  rw[h,iB]
 ·intro h
  have h2:l.take (l.length-2)++Fr.two (Fr.iM (Fr.jI l own) (l.take (l.length-2)))=l.take (l.length-2)++l.drop (l.length-2):=by rw[h,iB]
  exact List.append_cancel_left h2
def wi(n m:Int):Bool:=decide (0<=n)&&decide (n<=m)
theorem Jz(n m:Int)(w:World):Calls Tryz.prog 215 #[↑n,↑m] w λe w'=>e=.returned ↑(wi n m)/\w=w':=by
 unfold wi;by_cases h:0<=n
 all_goals
  go_enter Tryz.func215,Tryz.ntmps215
  go_wp2;go_ret;exact⟨by simp[*]<;>omega,rfl⟩
theorem Bg(k:Int)(w:World):Calls Tryz.prog 189 #[↑k] w λe w'=>e=.returned ↑(decide (1<=k)&&decide (k<=3))/\w=w':=by
 have hcase:k=1\/(k≠1/\k=2)\/(k≠1/\k≠2):=by omega
 rcases hcase with h|⟨h,h'⟩|⟨h,h'⟩
 all_goals
  go_enter Tryz.func189,Tryz.ntmps189
  go_wp2;go_ret;refine⟨?_,rfl⟩
 ·subst h;rfl
 ·subst h';rfl
 ·by_cases h3:k=3
  ·subst h3;rfl
  ·have:(decide (1<=k)&&decide (k<=3))=false:=by simp;omega
   rw[this];simp[*]
theorem JA(A:Option Addr)(c:Nat)(l:List Int)(B:Nat)(w:World)(hs:iY w B A l.length (bv l))(hl:iK l)(hlen:l.length<=maxLen):Calls Tryz.prog 223 #[.slice A l.length c] w λe w'=>e=.returned ↑(Fr.kd l)/\w=w':=by
 unfold maxLen at hlen;have hb:=hl.getD 0;rcases gF l.length with h0|h0
 ·have h1:Fr.kd l=0:=by rw[dx.1 h0];rfl
  rw[h1,h0]
  go_enter Tryz.func223,Tryz.ntmps223
  go_wp2;go_ret;exact⟨rfl,rfl⟩
 ·obtain⟨b,off,rfl,hbb,hc⟩:=hs h0
  have hc:=hc 0 h0;rw[gC]at hc;unfold bv at hc;unfold Fr.kd;generalize l.getD 0 0=x at *
  go_enter Tryz.func223,Tryz.ntmps223
  go_wp2;go_ret;exact⟨rfl,rfl⟩
theorem vF(s:St)(w:World):Calls Tryz.prog 190 #[stV s] w λe w'=>e=.returned ↑s.may/\Below w w w':=by
 obtain⟨r,s,m⟩:=s;have hm:St.may ⟨r,s,m⟩=(wi r 65535&&wi s 7&&wi m 255):=by
  unfold St.may wi;have:decide (s<8)=decide (s<=7):=by congr 1;exact propext (by omega)
  rw[this];simp only[Bool.and_assoc]
 rw[hm];clear hm;have h1:=λn m W=>af (Jz n m W);unfold stV
 cases b1:wi r 65535<;>cases b2:wi s 7
 all_goals
  go_enter Tryz.func190,Tryz.ntmps190
  go_wp2_with (go_at_call 215;refine(h1 _ _ _).o.mono ?_;rintro e w1 ⟨rfl,rfl⟩);go_ret;exact⟨by simp[*],(ah _ _).alloc lr _⟩
theorem Bh(s:St)(hs:s.may=true)(w:World):
  Calls Tryz.prog 146 #[stV s] w λe w'=>∃v,e=.returned v/\iJ w' w v s.bytes/\Below w w w':=by
 obtain⟨⟨h1,h2⟩,⟨h3,h4⟩,h5,h6⟩:=s.mM.1 hs;obtain⟨r,s,m⟩:=s;simp only at h1 h2 h3 h4 h5 h6;unfold stV;clear hs
 go_enter Tryz.func146,Tryz.ntmps146
 go_wp2;go_ret;exact⟨_,rfl,pJ _ _ rfl _ [r / 256,r%256,s,m] rfl _ (by simp) (by simp[maxLen]) _ _ _ (by simp) rfl rfl,((ah _ _).alloc lr _).alloc (by simp) _⟩
theorem vG(x y:Int)(hx:0<=x/\x<256)(hy:0<=y/\y<256):bits BinOp.or IntKind.i64 (x*256) y=x*256+y:=by
 obtain⟨X,rfl⟩:=bZ hx.1;obtain⟨Y,rfl⟩:=bZ hy.1;have h1:X<256:=by omega
 have h2:Y<256:=by omega
 show IntKind.i64.wrap ((BitVec.ofInt 64 ((X:Int)*256) ||| BitVec.ofInt 64 (Y:Int)).toNat:Int)=_;have e:(X:Int)*256=((X*256:Nat):Int):=by omega
 rw[e,BitVec.toNat_or,cG,cG,dJ];have e1:((((X*256:Nat):Int)%((2^64:Nat):Int))).toNat=X<<<8:=by rw[fE];omega
 have e2:(((Y:Int)%((2^64:Nat):Int))).toNat=Y:=by omega
 rw[e1,e2,<-Nat.shiftLeft_add_eq_or_of_lt (b:=Y) (i:=8) (by omega) X,fE];omega
theorem vH(b off c:Nat)(n:Nat)(x y:Int)(w:World)(hn:2<=n)(hn2:n<=maxLen)(h0:w.cell? (b,off)=some (.int .u8 x))(h1:w.cell? (b,off+1)=some (.int .u8 y))(hx:0<=x/\x<256)(hy:0<=y/\y<256):
  Calls Tryz.prog 225 #[.slice (some (b,off)) n c] w λe w'=>e=.returned ↑(x*256+y:Int)/\∃m,w.drewN m=w':=by
 unfold maxLen at hn2;have ho:=vG x y hx hy
 go_enter Tryz.func225,Tryz.ntmps225
 go_wp2
 go_quiet (fail)
 go_wp2;go_ret;exact⟨rfl,_,rfl⟩
theorem JB(f:F)(v:Value)(w:World)(B:Nat)(hv:iI w B v f.d):
  Calls Tryz.prog 145 #[frV f v] w λe w'=>e=.returned ↑f.is/\Below w w w':=by
 obtain⟨A,c,rfl,h1,h2,-,-⟩:=hv.at_;unfold maxLen at h2;obtain⟨k,⟨r,s,m⟩,d⟩:=f;simp only at h1;have hK:=λW=>af (Bg k W);have hm:=λW=>af (vF ⟨r,s,m⟩ W);have hr:∀b c:Bool,b=(⟨r,s,m⟩:St).may->c=(decide (1<=k)&&decide (k<=3))->F.is ⟨k,⟨r,s,m⟩,d⟩=(c&&b&&decide (d.length<=8)):=λb c hb hc=>by rw[hb,hc];rfl
 generalize(⟨r,s,m⟩:St).may=b at *;generalize(decide (1<=k)&&decide (k<=3))=q at *;rw[hr b q rfl rfl];clear hr;unfold frV;generalize d.length=n at *
 cases q<;>cases b
 all_goals
  go_enter Tryz.func145,Tryz.ntmps145
  go_wp2_with fail;refine(hK _).o.mono ?_;rintro e w1 ⟨rfl,rfl⟩;go_wp2_with (go_at_call 190;refine(hm _).o.mono ?_;rintro e w1 ⟨rfl,hb⟩;have hc:=jE hb;have hz:=hb.size;simp only[gy]at hz;have hb:=((ah w w).alloc lr _).trans (hb.mono (by simp)));go_ret
  first
   |exact⟨by simp<;>omega,hb⟩
   |exact⟨by simp<;>omega,(ah _ _).alloc lr _⟩
theorem JC(s:St)(w:World):Calls Tryz.prog 192 #[stV s] w λe w'=>e=.returned ↑(s.seed:Nat)/\Below w w w':=by
 have hm:=λW=>vF s W;have hst:=λh W=>Bh s h W;have hsd:s.may=true->s.seed=Fr.iM 32767 s.bytes:=λh=>by rw[St.seed,au h]
 have oG:s.may=false->s.seed=0:=λh=>by rw[St.seed,ai (by rw[h];decide)]
 have hok:s.may=true->∀k,0<=s.bytes.getD k 0/\s.bytes.getD k 0<256:=λh k=>(St.pK h).getD k;have h32:Cr.sd 32767=32767:=by decide
 have hsum:=λA c W(h:iY W W A s.bytes.length (bv s.bytes))hz=>zD A s.bytes.length c (λk=>s.bytes.getD k 0) 32767 W 41 W.heap.size rfl h hz (by simp[St.bytes,maxLen]);simp only[Fr.sK,h32]at hsum
 cases hb:s.may
 ·rw[hb]at hm
  rw[oG hb];clear hst hsd oG hok hsum h32 hb;have hm:=λW=>af (hm W);unfold stV at hm ⊢
  go_enter Tryz.func192,Tryz.ntmps192
  go_wp2_with (go_at_call 190;refine(hm _).o.mono ?_;rintro e w1 ⟨rfl,hb⟩;have hb:=((ah w w).alloc lr _).trans (hb.mono (by simp)));go_ret;exact⟨rfl,hb⟩
 ·rw[hb]at hm
  have hm:=λW=>af (hm W);have hst:=λW=>af (hst hb W);have hok:=af (hok hb);have hsum:=λA c W h hz=>af (hsum A c W h hz);rw[hsd hb];generalize s.bytes=l at *;clear hsd oG h32 hb;unfold stV at hm hst ⊢
  go_enter Tryz.func192,Tryz.ntmps192
  go_wp2_with (go_at_call 190;refine(hm _).o.mono ?_;rintro e w1 ⟨rfl,hb⟩;have hc:=jE hb;have hz:=hb.size;simp only[gy]at hz;have hb:=((ah w w).alloc lr _).trans (hb.mono (by simp)));clear hm;refine(hst _).o.mono ?_;rintro e w2 ⟨v,rfl,ho,hb2⟩;have hb:=hb.trans (hb2.mono hb.size);obtain⟨A,c,rfl,-,-,g,-⟩:=ho.sees.at_;clear ho hst hc hb2;go_wp2_with fail;refine(hsum A c w2 g (λk _=>hok.o k)).o.mono ?_;rintro e w3 ⟨rfl,rfl⟩;go_wp2;go_ret;exact⟨rfl,hb.alloc hb.size _⟩
theorem Bj(v:Value)(l:List Int)(w:World)(B:Nat)(hv:iI w B v l)(hlen:l.length<=140737488355328):
  Calls Tryz.prog 71 #[v] w λe w'=>∃v',e=.returned v'/\iJ w' w v' l/\Below w w w':=by
 obtain⟨A,c,rfl,h1,h2,h3,h4⟩:=hv.at_
 cases A with
 |none=>
  obtain⟨hl,rfl⟩:=h4 rfl;have hl':=dx.1 hl;subst hl';clear h1 h2 h3 h4 hl hv hlen;have hq:=dw (P:=Tryz.prog) w 41 5 none 0 0 0 0 Tryz.underlying41
  go_enter Tryz.func71,Tryz.ntmps71
  go_wp2;go_ret;exact⟨_,rfl,bR,ah _ _⟩
 |some a=>
  have hv:=af hv;have hq:=dw (P:=Tryz.prog) w 41 5 (some a) l.length c 0 0 Tryz.underlying41;clear h3 h4
  go_enter Tryz.func71,Tryz.ntmps71
  go_wp2_with (at_builtin;refine lA _ rfl (.tmp 5) (.tmp 6) 41 rfl w kx Tryz.underlying41 _ [] w (mL w _ rfl _ _ lr rfl) ((ah _ _).alloc lr _) rfl _ _ l rfl (iI.alloc hv.o _) (by simp) (by simp only[fw];omega) ?_);intro v' w1 ho hb;go_wp2;go_ret;exact⟨_,rfl,ho,hb⟩
theorem vI(k:Int)(s:St)(v:Value)(l:List Int)(w:World)(hv:iI w w v l)(hl:iK l):
  Calls Tryz.prog 147 #[↑k,stV s,v] w λe w'=>e=.returned ↑(Fr.iM (if k=1 then s.seed else 0) l:Nat)/\Below w w w':=by
 obtain⟨A,c,rfl,h1,h2,h3,-⟩:=hv.at_;have hsum:=λa W(g:Nat)(hg:g=W.heap.size)(hb:Below w w W)=>zD A l.length c (λk=>l.getD k 0) a W 41 g hg ((h3.below hb).more hb.size) (λk _=>hl.getD k) (by omega);simp only[Fr.sK]at hsum;have hsum:=λa W g hg hb=>af (hsum a W g hg hb);have lU:=λW=>af (JC s W);have hlt:=s.l8;have hbx:=(ah w w).alloc lr (.cells #[↑s.r,↑s.s,↑s.m] 96);clear hl hv;unfold stV at lU ⊢;by_cases hk:k=1
 ·rw[au hk]
  have hsd:=af (show Cr.sd (s.seed:Nat)=s.seed from Cr.zK hlt);generalize s.seed=q at *
  go_enter Tryz.func147,Tryz.ntmps147
  go_wp2_with fail;refine(lU _).o.mono ?_;rintro e w1 ⟨rfl,hb⟩;have hb:=hbx.trans (hb.mono hbx.size);clear hbx lU;go_wp2_with fail;refine(hsum _ _ _ rfl hb).o.mono ?_;rintro e w2 ⟨rfl,rfl⟩;go_wp2;go_ret;exact⟨by show Ending.returned ↑(Fr.iM (Cr.sd (q:Nat)) l:Nat)=_;rw[hsd.o],hb.alloc hb.size _⟩
 ·rw[ai hk]
  have hs0:=λW g hg hb=>(hsum 0 W g hg hb).o;simp only[show Cr.sd 0=0 from rfl]at hs0;have hs1:=λW g hg hb=>af (hs0 W g hg hb);clear hsum hs0
  go_enter Tryz.func147,Tryz.ntmps147
  go_wp2_with fail;refine(hs1 _ _ (by simp) hbx).o.mono ?_;rintro e w2 ⟨rfl,rfl⟩;go_wp2;go_ret;exact⟨rfl,hbx.alloc hbx.size _⟩
theorem JD(b off n c:Nat)(x0 x1 x2 x3:Int)(w:World)(hn:4<=n)(hn2:n<=maxLen)(hbb:b<w.heap.size)(h0:w.cell? (b,off)=some (.int .u8 x0))(h1:w.cell? (b,off+1)=some (.int .u8 x1))(h2:w.cell? (b,off+2)=some (.int .u8 x2))(h3:w.cell? (b,off+3)=some (.int .u8 x3))
  (hx0:0<=x0/\x0<256) (hx1:0<=x1/\x1<256) (hx2:0<=x2/\x2<256) (hx3:0<=x3/\x3<256):
  Calls Tryz.prog 224 #[.slice (some (b,off)) n c] w λe w'=>e=.returned (stV ⟨x0*256+x1,x2,x3⟩)/\Below w w w':=by
 have hp:=λW(hb:Below w w W)=>af (vH b off c n x0 x1 W (by omega) hn2 ((jE hb _ _ hbb).trans h0) ((jE hb _ _ hbb).trans h1) hx0 hx1);have CS:=λ(W:World)(hb:Below w w W)=>(⟨(jE hb _ _ hbb).trans h2,(jE hb _ _ hbb).trans h3⟩:W.cell? (b,off+2)=some (.int .u8 x2)/\W.cell? (b,off+3)=some (.int .u8 x3));unfold stV;unfold maxLen at hn2;have wr2:IntKind.i64.wrap x2=x2:=aO _ (by omega);have wr3:IntKind.i64.wrap x3=x3:=aO _ (by omega);have q2:(2:Int)<(n:Int):=by omega
 have q3:(3:Int)<(n:Int):=by omega
 clear h0 h1 h2 h3
 go_enter Tryz.func224,Tryz.ntmps224
 go_wp2_with fail
 go_region_held3 (λW=>W.cell? (b,off+2)=some (.int .u8 x2)/\W.cell? (b,off+3)=some (.int .u8 x3))
  ((refine CS _ ?_;repeat' (first|exact ah _ _|exact aR _|(with_reducible refine aU ?_ ?_ _)|(with_reducible refine bE ?_ lr _)|(with_reducible refine aC ?_ _)|(with_reducible refine bL ?_))))
  (first
   |((go_at_call 225;refine(hp _ ?_).o.mono ?_);(repeat' (first|exact ah _ _|exact aR _|(with_reducible refine aU ?_ ?_ _)|(with_reducible refine bE ?_ lr _)|(with_reducible refine aC ?_ _)|(with_reducible refine bL ?_)));rintro e w3 ⟨rfl,m,rfl⟩)
   |fail)
 all_goals
  go_wp2
  (try simp only[Exit.inBlock,Exit.then])
  refine aK (v:=.agg #[↑(x0*256+x1:Int),↑x2,↑x3]) ?_ rfl ⟨rfl,?_⟩
  ·rw[j4 rfl]
   go_simp
  ·(repeat' (first|exact ah _ _|exact aR _|(with_reducible refine aU ?_ ?_ _)|(with_reducible refine bE ?_ lr _)|(with_reducible refine aC ?_ _)|(with_reducible refine bL ?_)))
end
section
set_option maxRecDepth 100000
set_option maxHeartbeats 2000000
open Go.RowKit
open Fr (St F)
theorem Bl(f:F)(v:Value)(w:World)(hv:iI w w v f.d)(hd:iK f.d):
  Calls Tryz.prog 100 #[frV f v] w (Enc w f):=by
 have his:=λW(hb:Below w w W)=>JB f v W w (hv.below hb);obtain⟨A,c,rfl,c1,c2,-,-⟩:=hv.at_
 cases hi:f.is
 ·rw[hi]at his
  have his:=λW hb=>af (his W hb);have hE:mO f=1:=by simp[mO,hi]
  have hR:kJ f=[]:=by simp[kJ,hi]
  unfold Enc;rw[hE,hR];clear hi hE hR hv;unfold frV at his ⊢
  go_enter Tryz.func100,Tryz.ntmps100
  go_wp2_with fail;refine(his _ ((ah _ _).alloc lr _)).o.mono ?_;rintro e w1 ⟨rfl,hb⟩;have hb:=((ah w w).alloc lr _).trans (hb.mono (by simp));go_wp2;go_ret2;exact⟨_,rfl,bR,hb⟩
 ·rw[hi]at his
  have his:=λW hb=>af (his W hb);obtain⟨⟨k1,k3⟩,hmay,hlen⟩:=f.l9.1 hi;have hE:mO f=0:=by simp[mO,hi]
  have hR:kJ f=f.body++Fr.two (Fr.iM f.seed f.body):=by simp[kJ,hi,F.bytes]
  have hbody:=af (F.sM hi hd);have hbl:=f.sN;have hsl:=f.l8;have qF:=λW=>af (Bh f.st hmay W);have hhl:f.hl<=6:=by unfold F.hl;split<;>omega
  have hS:=Fr.pL hsl f.body;unfold Enc;rw[hE,hR];have hsum:=λ(V:Value)(W:World)(h:iI W W V f.body)=>vI f.k f.st V f.body W h hbody.o;have hss:(if f.k=1 then f.st.seed else 0)=f.seed:=rfl;simp only[hss]at hsum;have Tm:f.body.length<=100000:=by omega
  have hbd:f.body=(if f.k=1 then [f.k]else [f.k]++f.st.bytes)++[(f.d.length:Int)]++f.d:=by
   unfold F.body F.head
   split<;>simp
  clear hss hbl hhl hbody hi hE hR hd;generalize hSS:Fr.iM f.seed f.body=S at *;have wS:IntKind.u8.wrap ((S:Nat) / 256:Int)=((S / 256:Nat):Int):=by rw[fA];omega
  have wS2:IntKind.u8.wrap ((S:Nat):Int)=((S%256:Nat):Int):=by rw[fA];omega
  clear hSS hS hsl;generalize f.body=body at *;obtain⟨k,st,d⟩:=f;simp only at hv k1 k3 hmay hlen his qF hbd hsum;have hwr:IntKind.u8.wrap ((d.length:Nat):Int)=d.length:=by rw[fA];omega
  have hwk:IntKind.u8.wrap k=k:=by rw[fA];omega
  have hvd:=af hv;have hH:=λV W h=>af (hsum V W h);clear hsum hv;have hsb:st.bytes.length=4:=rfl;unfold frV at his ⊢;unfold stV at qF hH;generalize st.bytes=sb at *;have JE:sb.length<=4:=by omega
  clear hsb;by_cases hk:k=1
  case' pos=>
   rw[au hk]at hbd;subst hk
  case' neg=>
   rw[ai hk]at hbd;have hk':(k != 1)=true:=by simpa using hk
  case pos=>
   go_enter Tryz.func100,Tryz.ntmps100
   go_wp2_with fail;have iO:=af (sJ w ↑(1:Int) ↑st.r ↑st.s ↑st.m (.slice A d.length c) 182);generalize w.alloc (.cells #[↑(1:Int),↑st.r,↑st.s,↑st.m,.slice A d.length c] 182)=w0 at *;have hz0:w0.heap.size<=w.heap.size+1/\w.heap.size+1<=w0.heap.size:=by have:=iO.o.size;omega
   refine(his _ iO.o.below).o.mono ?_;rintro e w1 ⟨rfl,hb1⟩;obtain⟨z1,c10,c11,c12,c13,c14⟩:=iO.o.cell w1 hb1;clear his;have hba:=hb1.alloc hb1.size (.cells #[.int .u8 1] 5);have hoB:=(pJ w1 5 rfl #[.int .u8 1] [1] rfl w0 hb1.size (by simp[maxLen]) w1 1 1 rfl rfl rfl);obtain⟨za,a0,a1,a2,a3,a4⟩:=iO.o.cell _ hba;clear qF
   go_upto_region 6 with fail
   clear c10 c11 c12 c13 c14 z1;generalize w1.alloc (.cells #[.int .u8 1] 5)=wb at *;generalize w1.heap.size=g at *;have hoX:=hoB.alloc (.cells #[.int .u8 (d.length:Int)] 5);have hbX:=hba.alloc hba.size (.cells #[.int .u8 (d.length:Int)] 5);have hsX:=oH wb 5 #[.int .u8 (d.length:Int)] [(d.length:Int)] rfl _ (cJ _) (by simp[maxLen]) wb 1 1 rfl rfl rfl;go_wp2_with (at_builtin;go_loud (refine lA _ rfl (.tmp 21) (.tmp 26) 41 rfl w0 kx Tryz.underlying41 _ [1] w0 hoX hbX rfl _ _ [(d.length:Int)] rfl hsX hbX.size (by simp<;>omega) ?_));intro v3 w3 ho3 hb3;obtain⟨z3,b0,b1,b2,b3,b4⟩:=iO.o.cell w3 hb3;clear hoX hbX hsX hoB a0 a1 a2 a3 a4;go_wp2_with (at_builtin;go_loud (refine lA _ rfl (.tmp 28) (.tmp 30) 41 rfl w0 kx Tryz.underlying41 v3 ([1]++[(d.length:Int)]) w0 ho3 hb3 rfl w (.slice A d.length c) d rfl (hvd.o.below (iO.o.below.trans (hb3.mono (by omega)))) hb3.size (by simp<;>omega) ?_));intro v4 w4 ho4 hb4;have ho4:iJ w4 w0 v4 body:=by rw[hbd];simpa using ho4
   obtain⟨z4,d0,d1,d2,d3,d4⟩:=iO.o.cell w4 hb4;have qG:=ho4.sees;clear ho3 hb3 b0 b1 b2 b3 b4;go_wp2_with fail;refine(hH v4 w4 qG).o.mono ?_;rintro e w5 ⟨rfl,hb⟩;have ho5:=ho4.below hb lr;have hb5:=hb4.trans (hb.mono hb4.size);clear hH qG ho4 hb hb4 d0 d1 d2 d3 d4;go_wp2_with (at_builtin;go_loud (refine lA _ rfl (.tmp 38) (.tmp 44) 41 rfl w0 kx Tryz.underlying41 v4 body w0 (ho5.alloc _) (hb5.alloc hb5.size _) rfl _ _ (Fr.two S) rfl (oH w5 _ _ _ (by simp[Fr.two]) _ (cJ _) (by simp[Fr.two,maxLen]) _ _ _ rfl rfl rfl) (by simp;have:=hb5.size;omega) (by simp[Fr.two];omega) ?_));intro v6 w6 ho6 hb6;have hfin:iJ w6 w v6 (body++Fr.two S):=by
    rw[hbd];simpa using ho6.base (B:=w.heap.size) (by omega)
   have hbf:=iO.o.below.trans (hb6.mono (by omega));clear hwr ho6;go_wp2;go_ret2;exact⟨_,rfl,hfin,hbf⟩
  case neg=>
   go_enter Tryz.func100,Tryz.ntmps100
   go_wp2_with fail;have iO:=af (sJ w ↑k ↑st.r ↑st.s ↑st.m (.slice A d.length c) 182);generalize w.alloc (.cells #[↑k,↑st.r,↑st.s,↑st.m,.slice A d.length c] 182)=w0 at *;have hz0:w0.heap.size<=w.heap.size+1/\w.heap.size+1<=w0.heap.size:=by have:=iO.o.size;omega
   refine(his _ iO.o.below).o.mono ?_;rintro e w1 ⟨rfl,hb1⟩;obtain⟨z1,c10,c11,c12,c13,c14⟩:=iO.o.cell w1 hb1;clear his;go_wp2_with fail;refine(qF _).o.mono ?_;rintro e wa ⟨va,rfl,hoa,hba⟩;have oI:=(hb1.alloc hb1.size (.cells #[.int .u8 k] 5)).trans (hba.mono (by simp;have:=hb1.size;omega));have hob:=(pJ w1 5 rfl #[.int .u8 k] [k] rfl w0 hb1.size (by simp[maxLen]) w1 1 1 rfl rfl rfl).below hba lr;have qH:=hoa.sees;clear c10 c11 c12 c13 c14 hba qF hb1 hoa;go_wp2_with (at_builtin;go_loud (refine lA _ rfl (.tmp 16) (.tmp 19) 41 rfl w0 kx Tryz.underlying41 _ [k] w0 hob oI rfl wa va sb rfl qH oI.size (by simp<;>omega) ?_));intro vb wb hoB hbb;obtain⟨za,a0,a1,a2,a3,a4⟩:=iO.o.cell wb hbb;have hoX:=hoB.alloc (.cells #[.int .u8 (d.length:Int)] 5);have hbX:=hbb.alloc hbb.size (.cells #[.int .u8 (d.length:Int)] 5);have hsX:=oH wb 5 #[.int .u8 (d.length:Int)] [(d.length:Int)] rfl _ (cJ _) (by simp[maxLen]) wb 1 1 rfl rfl rfl;clear hob qH oI;go_wp2_with (at_builtin;go_loud (refine lA _ rfl (.tmp 21) (.tmp 26) 41 rfl w0 kx Tryz.underlying41 _ ([k]++sb) w0 hoX hbX rfl _ _ [(d.length:Int)] rfl hsX hbX.size (by simp<;>omega) ?_));intro v3 w3 ho3 hb3;obtain⟨z3,b0,b1,b2,b3,b4⟩:=iO.o.cell w3 hb3;clear hoX hbX hsX hoB a0 a1 a2 a3 a4;go_wp2_with (at_builtin;go_loud (refine lA _ rfl (.tmp 28) (.tmp 30) 41 rfl w0 kx Tryz.underlying41 v3 (([k]++sb)++[(d.length:Int)]) w0 ho3 hb3 rfl w (.slice A d.length c) d rfl (hvd.o.below (iO.o.below.trans (hb3.mono (by omega)))) hb3.size (by simp<;>omega) ?_));intro v4 w4 ho4 hb4;have ho4:iJ w4 w0 v4 body:=by rw[hbd];simpa using ho4
   obtain⟨z4,d0,d1,d2,d3,d4⟩:=iO.o.cell w4 hb4;have qG:=ho4.sees;clear ho3 hb3 b0 b1 b2 b3 b4;go_wp2_with fail;refine(hH v4 w4 qG).o.mono ?_;rintro e w5 ⟨rfl,hb⟩;have ho5:=ho4.below hb lr;have hb5:=hb4.trans (hb.mono hb4.size);clear hH qG ho4 hb hb4 d0 d1 d2 d3 d4;go_wp2_with (at_builtin;go_loud (refine lA _ rfl (.tmp 38) (.tmp 44) 41 rfl w0 kx Tryz.underlying41 v4 body w0 (ho5.alloc _) (hb5.alloc hb5.size _) rfl _ _ (Fr.two S) rfl (oH w5 _ _ _ (by simp[Fr.two]) _ (cJ _) (by simp[Fr.two,maxLen]) _ _ _ rfl rfl rfl) (by simp;have:=hb5.size;omega) (by simp[Fr.two];omega) ?_));intro v6 w6 ho6 hb6;have hfin:iJ w6 w v6 (body++Fr.two S):=by
    rw[hbd];simpa using ho6.base (B:=w.heap.size) (by omega)
   have hbf:=iO.o.below.trans (hb6.mono (by omega));clear hwr ho6;go_wp2;go_ret2;exact⟨_,rfl,hfin,hbf⟩
end
section
set_option maxHeartbeats 2000000
open Go.RowKit
open Tb (D T)
def i64(x:Int):Prop:=-9223372036854775808<=x/\x<=9223372036854775807
theorem vT(t:T)(v:Value)(w:World)(B:Nat)(hB:B<=w.heap.size)(hv:jh w B v t.ns):
  Calls Tryz.prog 55 #[jW t v] w λe w'=>e=.returned ↑t.is/\Below w w w':=by
 obtain⟨A,c,rfl,h1,h2,h3,-⟩:=hv.at_;obtain⟨ns,dr,wi,lm⟩:=t;simp only at h1 h3;have hn:=λW(hb:Below w w W)=>Ri A c ns W (((h3.more hB).below hb).more hb.size) h1 h2;have hin:=λn a b W=>af (FC n a b W);have hres:T.is ⟨ns,dr,wi,lm⟩=(Tb.are ns&&(Tb.wi dr 0 1000&&(Tb.wi wi (4*dr+2) 1000&&Tb.wi lm wi 1000))):=rfl;rw[hres];clear hres hv h3;unfold maxLen at h2;unfold jW;simp only;generalize Tb.are ns=q at *;have hn:=λW hb=>af (hn W hb);generalize ns.length=n at *;have hq:∀n a b t,Tb.wi n a b=t->∀W,Hid (Calls Tryz.prog 85 #[.int .i64 n,.int .i64 a,.int .i64 b] W λe w'=>e=.returned (.bool t)/\W=w'):=by
  rintro n a b t rfl W;exact hin n a b W
 have iO:=af (rL w (.slice A n c) ↑dr ↑wi ↑lm 31)
 cases q
 ·go_enter Tryz.func55,Tryz.ntmps55
  go_wp2_with fail;refine(hn _ iO.o.below).o.mono ?_;rintro e w1 ⟨rfl,hb⟩;go_wp2;go_ret;exact⟨rfl,iO.o.below.trans (hb.mono iO.o.below.size)⟩
 cases q1:Tb.wi dr 0 1000
 ·have f1:=hq _ _ _ _ q1
  clear q1 hq hin
  go_enter Tryz.func55,Tryz.ntmps55
  go_wp2_with fail;refine(hn _ iO.o.below).o.mono ?_;rintro e w1 ⟨rfl,hb⟩;obtain⟨-,c0,c1,c2,c3⟩:=iO.o.cell w1 hb;go_wp2_with fail;refine(f1 _).o.mono ?_;rintro e w2 ⟨rfl,rfl⟩;go_wp2;go_ret;exact⟨rfl,iO.o.below.trans (hb.mono iO.o.below.size)⟩
 have wr0:IntKind.i64.wrap (4*dr)=4*dr:=aO _ (by have:=(Tb.lC _ _ _).1 q1;omega);have wr1:IntKind.i64.wrap (4*dr+2)=4*dr+2:=aO _ (by have:=(Tb.lC _ _ _).1 q1;omega)
 cases q2:Tb.wi wi (4*dr+2) 1000
 ·have f1:=hq _ _ _ _ q1
  have f2:=hq _ _ _ _ q2;clear q1 q2 hq hin
  go_enter Tryz.func55,Tryz.ntmps55
  go_wp2_with fail;refine(hn _ iO.o.below).o.mono ?_;rintro e w1 ⟨rfl,hb⟩;obtain⟨-,c0,c1,c2,c3⟩:=iO.o.cell w1 hb;go_wp2_with fail;refine(f1 _).o.mono ?_;rintro e w2 ⟨rfl,rfl⟩;go_wp2_with fail;refine(f2 _).o.mono ?_;rintro e w2 ⟨rfl,rfl⟩;go_wp2;go_ret;exact⟨rfl,iO.o.below.trans (hb.mono iO.o.below.size)⟩
 ·have f1:=hq _ _ _ _ q1
  have f2:=hq _ _ _ _ q2;clear q1 q2 hq;generalize hr:Tb.wi lm wi 1000=r at *;have f3:=λW=>hin lm wi 1000 W;rw[hr]at f3;clear hr hin
  go_enter Tryz.func55,Tryz.ntmps55
  go_wp2_with fail;refine(hn _ iO.o.below).o.mono ?_;rintro e w1 ⟨rfl,hb⟩;obtain⟨-,c0,c1,c2,c3⟩:=iO.o.cell w1 hb;go_wp2_with fail;refine(f1 _).o.mono ?_;rintro e w2 ⟨rfl,rfl⟩;go_wp2_with fail;refine(f2 _).o.mono ?_;rintro e w2 ⟨rfl,rfl⟩;go_wp2_with fail;refine(f3 _).o.mono ?_;rintro e w2 ⟨rfl,rfl⟩;go_wp2;go_ret;exact⟨rfl,iO.o.below.trans (hb.mono iO.o.below.size)⟩
end
section
set_option maxRecDepth 100000
set_option maxHeartbeats 1000000
open Go.RowKit
theorem lY{k:IntKind}{a b:Int}(h:a=b):Ending.returned (.int k a)=.returned (.int k b):=by rw[h]
theorem uT{a b:Bool}(h:a=b):Ending.returned ↑a=.returned ↑b:=by rw[h]
def small(l:List Int):Prop:=∀x∈l,-1099511627776<=x/\x<=1099511627776
theorem small.getD{l:List Int}(h:small l)(k:Nat):-1099511627776<=l.getD k 0/\l.getD k 0<=1099511627776:=by
 by_cases hk:k<l.length
 ·rw[ay,aP hk,fZ]
  exact h _ (dS _)
 ·rw[ay,aY (by omega)]
  exact⟨by decide,by decide⟩
theorem ja.cell{w:World}{B:Nat}{A:Option Addr}{n c:Nat}{l:List Int}(h:ja w B (.slice A n c) l)(k:Nat)(hk:k<l.length):∃b off,A=some ⟨b,off,none⟩/\b<B/\w.cell? ⟨b,off+k,none⟩=some ↑(l.getD k 0):=by
 obtain⟨A',c',e,-,-,h3,-⟩:=h.at_;simp only[fq]at e;obtain⟨rfl,rfl,rfl⟩:=e;obtain⟨b,off,hA,hb,hc⟩:=h3 (by omega);exact⟨b,off,hA,hb,hc k hk⟩
theorem yR(a:Int)(w:World)(h:-17592186044416<=a/\a<=17592186044416):
  Calls Tryz.prog 231 #[↑a,↑(1:Int)] w λe w'=>e=.returned ↑a/\w'=w:=by
 obtain⟨h1,h2⟩:=h;obtain⟨e1,e2⟩:=Clk.td1 a
 go_enter Tryz.func231,Tryz.ntmps231
 go_wp2;go_ret;exact⟨rfl,rfl⟩
theorem yS(a:Int)(w:World)(h:-17592186044416<=a/\a<=17592186044416):
  Calls Tryz.prog 231 #[↑a,↑(2:Int)] w λe w'=>e=.returned ↑(a / 2:Int)/\w'=w:=by
 obtain⟨h1,h2⟩:=h;have H:=af (Clk.td2 a);have b1:-17592186044416<=a.tdiv 2/\a.tdiv 2<=17592186044416:=by have:=H.o;omega
 obtain⟨b1,b2⟩:=b1
 go_enter Tryz.func231,Tryz.ntmps231
 go_wp2
 ·go_ret
  exact⟨lY (by have:=H.o;omega),rfl⟩
 ·go_ret
  exact⟨lY (by have:=H.o;omega),rfl⟩
 ·rename_i h h3
  go_ret;refine⟨lY ?_,rfl⟩;have:=H.o;rcases h3 with h3|h3
  ·simp at h3;omega
  ·omega
def wiB(m n:Int):Bool:=decide (-m<=n/\n<=m)
theorem uU(m n:Int)(w:World)(h:0<=m/\m<=9223372036854775807):
  Calls Tryz.prog 227 #[↑m,↑n] w λe w'=>e=.returned ↑(wiB m n)/\w'=w:=by
 obtain⟨h1,h2⟩:=h
 go_enter Tryz.func227,Tryz.ntmps227
 go_wp2
 ·rename_i h
  go_ret;exact⟨uT (by unfold wiB;simp[h]),rfl⟩
 ·rename_i h
  go_ret;exact⟨uT (by unfold wiB;simp;omega),rfl⟩
theorem yT(a b:Int)(w:World):
  Calls Tryz.prog 243 #[↑a,↑b] w λe w'=>e=.returned ↑(decide (a<b))/\w'=w:=by
 go_enter Tryz.func243,Tryz.ntmps243
 go_wp2;go_ret;exact⟨rfl,rfl⟩
theorem GJ(x:Int)(w:World)(h:0<=x/\x<256):
  Calls Tryz.prog 247 #[.int .u64 x] w λe w'=>∃n:Int,e=.returned ↑n/\w'=w:=by
 obtain⟨h1,h2⟩:=h;have d1:decide (4294967296<=x)=false:=by simp;omega
 go_enter Tryz.func247,Tryz.ntmps247
 go_wp2;go_ret;exact⟨_,rfl,rfl⟩
theorem GK(x:Int)(w:World)(h:0<=x/\x<256):
  Calls Tryz.prog 236 #[.int .u64 x] w λe w'=>∃n:Int,e=.returned ↑n/\w'=w:=by
 go_enter Tryz.func236,Tryz.ntmps236
 go_wp2_with (go_at_call 247;refine(GJ x _ h).mono ?_;rintro e w' ⟨n,rfl,rfl⟩);go_ret;exact⟨_,rfl,rfl⟩
end
end Go.Proofs.YteadkhigkmijiaaGreat
