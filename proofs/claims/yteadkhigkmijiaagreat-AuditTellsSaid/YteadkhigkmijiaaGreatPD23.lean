/- Texts NdQ, FrK, FrP, GdC, SgA1 in one. -/
import Derived.BigRegion
import Derived.Test.YteadkhigkmijiaaGreatPD1
import Derived.Test.YteadkhigkmijiaaGreatPD10
import Derived.Test.YteadkhigkmijiaaGreatPD12
import Derived.Test.YteadkhigkmijiaaGreatPD15
import Derived.Test.YteadkhigkmijiaaGreatPD16
import Derived.Test.YteadkhigkmijiaaGreatPD17
import Derived.Test.YteadkhigkmijiaaGreatPD22
set_option linter.all false
namespace Go.Proofs.YteadkhigkmijiaaGreat
section
set_option maxRecDepth 100000
set_option maxHeartbeats 2000000
open Go.RowKit
open Fr (St F)
theorem CR(h:Hn)(vx vy:Value)(w:World):
  Calls Tryz.prog 161 #[hdV h vx vy] w λe w'=>e=.returned ↑(decide (h.a=0/\h.b=0))/\Below w w w':=by
 obtain⟨a,b,x,y,o⟩:=h;unfold hdV;simp only;have hb:=(ah w w).alloc lr (.cells #[↑a,↑b,vx,vy,↑o] 153);by_cases h1:a=0
 ·by_cases h2:b=0
  ·subst h1;subst h2
   rw[av ⟨rfl,rfl⟩]
   go_enter Tryz.func161,Tryz.ntmps161
   go_wp2;go_ret;exact⟨rfl,hb⟩
  ·subst h1
   rw[aj (λh=>h2 h.2)]
   go_enter Tryz.func161,Tryz.ntmps161
   go_wp2;go_ret;exact⟨by simp[h2],hb⟩
 ·rw[aj (λh=>h1 h.1)]
  go_enter Tryz.func161,Tryz.ntmps161
  go_wp2;go_ret;exact⟨by simp,hb⟩
def NM.lP(m:NM)(f:F):Prop:=f.k≠1/\f.st.s<m.t.ns.length/\f.st.s≠m.i
instance (m:NM)(f:F):Decidable (m.lP f):=inferInstanceAs (Decidable (_/\_))
theorem LW(b:Bool)(G:Nat->Prop)(g:Nat)(m:NM)(f:F)(v:Value)(w:World)(h:NA b G w g m):
  Calls Tryz.prog 159 #[↑(g,0),frV f v] w λe w'=>e=.returned ↑(decide (m.lP f))/\Below w w w':=by
 obtain⟨k,⟨r,s,mm⟩,d⟩:=f;unfold frV;simp only;have h1:=h.alloc (.cells #[↑k,↑r,↑s,↑mm,v] 182);have hb:=(ah w w).alloc lr (.cells #[↑k,↑r,↑s,↑mm,v] 182);obtain⟨A,c,c0,-⟩:=h1.cV;have c8:=h1.c8;have e:m.lP ⟨k,⟨r,s,mm⟩,d⟩=(k≠1/\s<m.t.ns.length/\s≠m.i):=rfl;have hX:=aJ w w rfl #[↑k,↑r,↑s,↑mm,v] 182;have x0:=hX.cell 0 (x:=↑k) rfl;have x2:=hX.cell 2 (x:=↑s) rfl;rw[show decide (m.lP ⟨k,⟨r,s,mm⟩,d⟩)=decide (k≠1/\s<m.t.ns.length/\s≠m.i)from rfl];clear h h1 e hX;generalize m.t.ns.length=n at *;generalize((m.i:Nat):Int)=i at *;by_cases h1:k=1
 ·rw[aj (λh=>h.1 h1)]
  subst h1
  go_enter Tryz.func159,Tryz.ntmps159
  go_wp2_with fail
  go_quiet (fail)
  go_wp2;go_ret;exact⟨rfl,aC hb _⟩
 ·have q1:(k != 1)=true:=by simpa using h1
  by_cases h2:s<n
  ·by_cases h3:s=i
   ·rw[aj (λh=>h.2.2 h3)]
    have q3:(s != i)=false:=by simpa using h3
    clear h3
    go_enter Tryz.func159,Tryz.ntmps159
    go_wp2_with fail
    go_quiet (fail)
    go_wp2;go_ret;exact⟨rfl,aC hb _⟩
   ·rw[av ⟨h1,h2,h3⟩]
    have q3:(s != i)=true:=by simpa using h3
    go_enter Tryz.func159,Tryz.ntmps159
    go_wp2_with fail
    go_quiet (fail)
    go_wp2;go_ret;exact⟨rfl,aC hb _⟩
  ·rw[aj (λh=>h2 h.2.1)]
   have q4:decide (s<(n:Int))=false:=aj h2
   go_enter Tryz.func159,Tryz.ntmps159
   go_wp2_with fail
   go_quiet (fail)
   go_wp2;go_ret;exact⟨rfl,aC hb _⟩
theorem LX(f:F)(v:Value)(p:Nat)(own:St)(w:World)(h:Blk w p #[↑own.r,↑own.s,↑own.m] 96):
  Calls Tryz.prog 164 #[frV f v,↑(p,0)] w λe w'=>e=.returned ↑(decide (f.k≠3/\f.st=own))/\Below w w w':=by
 obtain⟨k,⟨r,s,m⟩,d⟩:=f;obtain⟨r',s',m'⟩:=own;unfold frV;simp only at h ⊢;have h1:=h.alloc (.cells #[↑k,↑r,↑s,↑m,v] 182);have hb:=(ah w w).alloc lr (.cells #[↑k,↑r,↑s,↑m,v] 182);have x0:=h1.cell 0 (x:=↑r') rfl;have x1:=h1.cell 1 (x:=↑s') rfl;have x2:=h1.cell 2 (x:=↑m') rfl;rw[show decide (k≠3/\(⟨r,s,m⟩:St)=⟨r',s',m'⟩)=decide (k≠3/\r=r'/\s=s'/\m=m')from decide_eq_decide.2 (by simp)];clear h h1;by_cases h1:k=3
 ·rw[aj (λh=>h.1 h1)]
  subst h1
  go_enter Tryz.func164,Tryz.ntmps164
  go_wp2;go_ret;exact⟨rfl,hb⟩
 ·have q1:(k != 3)=true:=by simpa using h1
  have hcase:r≠r'\/(r=r'/\s≠s')\/(r=r'/\s=s'/\m≠m')\/(r=r'/\s=s'/\m=m'):=by omega
  rcases hcase with e1|⟨rfl,e1⟩|⟨rfl,rfl,e1⟩|⟨rfl,rfl,rfl⟩
  all_goals
   go_enter Tryz.func164,Tryz.ntmps164
   go_wp2;go_ret;exact⟨by simp[*],hb⟩
end
section
open Go.RowKit
open Fr (St F)
theorem iJ.block{w:World}{B:Nat}{v:Value}{l:List Int}(h:iJ w B v l)(h0:0<l.length):∃g c,v=.slice (some ⟨g,0,none⟩) l.length c/\B<=g:=by
 rcases h.2 with⟨_,h2⟩|⟨g,cap,cur,h1,h2,_⟩
 ·omega
 ·exact⟨g,cap,h1,h2⟩
theorem iJ.cell{w:World}{B g n c:Nat}{l:List Int}(h:iJ w B (.slice (some (g,0)) n c) l)(hn:n=l.length){i:Nat}(hi:i<l.length):w.cell? (g,i)=some (.int .u8 (l.getD i 0)):=by
 subst hn;exact iP.cell h hi
theorem iJ.frozen{w:World}{B g n c:Nat}{l:List Int}(h:iJ w B (.slice (some (g,0)) n c) l)(hn:n=l.length)(i:Nat):w.frozen? (g,i)=false:=by
 subst hn;exact iP.frozen h i
theorem iJ.set{w:World}{B g n c:Nat}{l:List Int}(h:iJ w B (.slice (some (g,0)) n c) l)(hn:n=l.length)(i:Nat)(x:Int)(hi:i<l.length):iJ (w.setCell (g,i) (.int .u8 x)) B (.slice (some (g,0)) n c) (l.set i x):=by
 subst hn;have:=iP.j5 h i (.int .u8 x) (V':=bv (l.set i x)) (by simp[bv,ay,hi]) (λj _ hj=>by simp[bv,ay,dU (dH hj)]);unfold iJ;rw[List.length_set];exact this
theorem iK.set{l:List Int}(h:iK l)(i:Nat){x:Int}(hx:0<=x/\x<256):iK (l.set i x):=λy hy=>by
 rcases gW hy with hy|rfl
 ·exact h y hy
 ·exact hx
end
section
open Go.RowKit
open Clk (avg)
open Fr (St F)
def z0:St:=⟨0,0,0⟩
def tells(l:List Int)(n:Nat):Bool:=decide (Fr.err l z0=0)&&(!decide ((Fr.res l z0).k=1))&&decide ((Fr.res l z0).st.s<n)
def G.mX(s:G)(l:List Int)(at_:Int):G:=
 if tells l s.n then({s with kn:=true,slot:=(Fr.res l z0).st.s.toNat,now:=at_,si:=0,l:=[]}:G).on else s
theorem vS{l:List Int}(hl:iK l)(h:Fr.err l z0=0):0<=(Fr.res l z0).st.s/\(Fr.res l z0).st.s<8:=by
 have hf:Fr.ji l z0=true:=by
  unfold Fr.err at h
  cases hf:Fr.ji l z0
  ·rw[hf]at h;simp at h
  ·rfl
 have hs:Fr.jT l z0=true:=by
  unfold Fr.err at h
  cases hs:Fr.jT l z0
  ·rw[hf,hs]at h;simp at h
  ·rfl
 have h1:=(Fr.once hl hf hs).1;have hr:Fr.res l z0=Fr.rd l z0:=by simp[Fr.res,hf,hs]
 rw[hr];exact((Fr.St.mM _).1 ((Fr.F.l9 _).1 h1).2.1).2.1
def G.ended(s:G)(l:List Int)(at_:Int):G:=if s.kn then(if 0<l.length then s.heard at_ else s.missed)else s.mX l at_
structure G.Ok(s:G)(at_:Int):Prop where
 n:s.n<=8
 slot:s.slot<s.n
 small:small s.l
 lm:0<=s.lm/\s.lm<=1099511627776
 now:-1125899906842624<=s.now/\s.now<=1125899906842624
 near:-1099511627776<=at_-s.now/\at_-s.now<=1099511627776
 si:s.si<=1000
theorem sX(m:Int)(l:List Int)(hm:0<=m):-m<=jb m l/\jb m l<=m:=by
 unfold jb
 split
 ·rename_i h
  exact dh h
 ·omega
end
section
set_option maxRecDepth 100000
set_option maxHeartbeats 1000000
open Go.RowKit
open Clk (avg)
def jj(c:Cx 1)(W:World)(g:Nat)(s:G):Prop:=PB c W g (grd s)/\s.l.length<=4
section
variable {c:Cx 1}{W W':World}{g:Nat}{s:G}
theorem jj.below(h:jj c W g s){B:Nat}(hb:Below B W W')(hg:g<B):jj c W' g s:=⟨h.1.below hb hg,h.2⟩
theorem jj.lt(h:jj c W g s):g<W.heap.size:=h.1.lt
theorem jj.clk(h:jj c W g s):W.cell? (g,11)=some ↑s.lm/\W.cell? (g,12)=some ↑(s.l.getD 0 0)/\W.cell? (g,13)=some ↑(s.l.getD 1 0)/\W.cell? (g,14)=some ↑(s.l.getD 2 0)/\W.cell? (g,15)=some ↑(s.l.getD 3 0)/\W.cell? (g,16)=some ↑(s.l.length:Nat):=
 ⟨h.1.cell 10 rfl,h.1.cell 11 rfl,h.1.cell 12 rfl,h.1.cell 13 rfl,h.1.cell 14 rfl,h.1.cell 15 rfl⟩
theorem jj.frz(h:jj c W g s):W.frozen? (g,11)=false/\W.frozen? (g,12)=false/\W.frozen? (g,13)=false/\W.frozen? (g,14)=false/\W.frozen? (g,15)=false/\W.frozen? (g,16)=false:=
 ⟨h.1.frozen 11,h.1.frozen 12,h.1.frozen 13,h.1.frozen 14,h.1.frozen 15,h.1.frozen 16⟩
end
theorem EM(c:Cx 1)(g:Nat)(s:G)(w:World)(h:jj c w g s):
  Calls Tryz.prog 89 #[↑(g,11)] w λe w'=>e=.returned (.tuple #[])/\jj c w' g {s with l:=[]}/\Only g w w':=by
 obtain⟨c0,c1,c2,c3,c4,c5⟩:=h.clk;obtain⟨f0,f1,f2,f3,f4,f5⟩:=h.frz;have hB:Hid (PB c ((((((w.setCell (g,11) ↑s.lm).setCell (g,12) ↑(0:Int)).setCell (g,13) ↑(0:Int)).setCell (g,14) ↑(0:Int)).setCell (g,15) ↑(0:Int)).setCell (g,16) ↑(0:Int)) g (grd {s with l:=[]})):=af ((((((h.1.set 10 (by simp[grd]) _).set 11 (by simp[grd]) _).set 12 (by simp[grd]) _).set 13 (by simp[grd]) _).set 14 (by simp[grd]) _).set 15 (by simp[grd]) _);clear h
 go_enter Tryz.func89,Tryz.ntmps89
 go_wp2;exact aD (ax (by rfl) _ _ _) rfl ⟨rfl,⟨hB.o,by simp⟩,((((((aE g w).set 11 _).set 12 _).set 13 _).set 14 _).set 15 _).set 16 _⟩
theorem Pt(c:Cx 1)(g:Nat)(s:G)(n:Int)(w:World)(h:jj c w g s)(h4:s.l.length=4):
  Calls Tryz.prog 108 #[↑(g,11),↑n] w λe w'=>e=.returned (.tuple #[])/\jj c w' g {s with l:=s.l.drop 1++[n]}/\Only g w w':=by
 obtain⟨c0,c1,c2,c3,c4,c5⟩:=h.clk;obtain⟨f0,f1,f2,f3,f4,f5⟩:=h.frz;have c5':w.cell? (g,16)=some ↑(4:Int):=by rw[c5,h4];rfl
 clear c5;have hB:Hid (PB c ((((((w.setCell (g,12) ↑(s.l.getD 1 0)).setCell (g,13) ↑(s.l.getD 2 0)).setCell (g,14) ↑(s.l.getD 3 0)).setCell (g,16) ↑(3:Int)).setCell (g,15) ↑n).setCell (g,16) ↑(4:Int)).drew.drew g (grd {s with l:=s.l.drop 1++[n]})):=af (((((((h.1.set 11 (by simp[grd]) ↑(s.l.getD 1 0)).set 12 (by simp[grd]) ↑(s.l.getD 2 0)).set 13 (by simp[grd]) ↑(s.l.getD 3 0)).set 15 (by simp[grd]) ↑(3:Int)).set 14 (by simp[grd]) ↑n).set 15 (by simp[grd]) ↑(4:Int)).drew.drew.eq (BI s n h4));have H4:=af h4;clear h h4;generalize s.l.getD 0 0=a0 at *;generalize s.l.getD 1 0=a1 at *;generalize s.l.getD 2 0=a2 at *;generalize s.l.getD 3 0=a3 at *;have hrun:=run_copy_cells (P:=Tryz.prog) w.drew 33 33 3 3 g 12 4 4 (g,13) 3 3 [↑a1,↑a2,↑a3] Tryz.underlying33 (by kernel_rfl) (by simp) (λj v hj=>by
  match j,hj with
  |0,hj=>simp at hj;subst hj;exact c2
  |1,hj=>simp at hj;subst hj;exact c3
  |2,hj=>simp at hj;subst hj;exact c4
  |j+3,hj=>simp at hj) (λj hj=>by
  match j,hj with
  |0,_=>show(w.cell? _).isSome=true;rw[c1];rfl
  |1,_=>show(w.cell? _).isSome=true;rw[c2];rfl
  |2,_=>show(w.cell? _).isSome=true;rw[c3];rfl
  |j+3,hj=>simp at hj;omega) (λj hj=>by
  match j,hj with
  |0,_=>exact f1
  |1,_=>exact f2
  |2,_=>exact f3
  |j+3,hj=>simp at hj;omega) (by simp[Value.oneCell'])
 simp[World.setCells]at hrun
 go_enter Tryz.func108,Tryz.ntmps108
 go_wp2
 go_region
 go_wp2
 go_region
 go_wp2;exact aD (ax (by rfl) _ _ _) rfl ⟨rfl,⟨hB.o,by have:=H4.o;simp;omega⟩,(((((((aE g w).set 12 _).set 13 _).set 14 _).set 16 _).set 15 _).set 16 _).drew.drew⟩
theorem Pu(c:Cx 1)(g:Nat)(s:G)(n:Int)(w:World)(h:jj c w g s)(h4:s.l.length<4):
  Calls Tryz.prog 108 #[↑(g,11),↑n] w λe w'=>e=.returned (.tuple #[])/\jj c w' g {s with l:=s.l++[n]}/\Only g w w':=by
 obtain⟨c0,c1,c2,c3,c4,c5⟩:=h.clk;obtain⟨f0,f1,f2,f3,f4,f5⟩:=h.frz;have q4:((s.l.length:Int)==4)=false:=by rw[aB];omega
 have hB:Hid (PB c ((w.setCell (g,12+s.l.length) ↑n).setCell (g,16) ↑((s.l.length:Int)+1:Int)).drew g (grd {s with l:=s.l++[n]})):=af (((PBs (p':=12+s.l.length) (h.1.set (11+s.l.length) (by have:(grd s).size=20:=rfl;omega) ↑n) (by omega) rfl).set 15 (by simp[grd]) ↑((s.l.length:Int)+1:Int)).drew.eq (BJ s n _ rfl h4));have ck:∃x,w.cell? (g,12+s.l.length)=some x:=by
  rcases(by omega:s.l.length=0\/s.l.length=1\/s.l.length=2\/s.l.length=3)with e|e|e|e<;>rw[e]
  ·exact⟨_,c1⟩
  ·exact⟨_,c2⟩
  ·exact⟨_,c3⟩
  ·exact⟨_,c4⟩
 have fk:w.frozen? (g,12+s.l.length)=false:=h.1.frozen _;obtain⟨x,ck⟩:=ck;clear h c0 c1 c2 c3 c4 f0 f1 f2 f3 f4
 go_enter Tryz.func108,Tryz.ntmps108
 go_wp2
 go_region
 go_wp2;exact aD (ax (by rfl) _ _ _) rfl ⟨rfl,⟨hB.o,by simp;omega⟩,(((aE g w).set (12+s.l.length) _).set 16 _).drew⟩
theorem Pv(c:Cx 1)(g:Nat)(s:G)(n:Int)(w:World)(h:jj c w g s):
  Calls Tryz.prog 108 #[↑(g,11),↑n] w λe w'=>e=.returned (.tuple #[])/\jj c w' g {s with l:=iT s.l n}/\Only g w w':=by
 unfold iT;by_cases h4:s.l.length=4
 ·rw[au h4];exact Pt c g s n w h h4
 ·rw[ai h4];exact Pu c g s n w h (by have:=h.2;omega)
theorem jj.sees{c:Cx 1}{W:World}{g:Nat}{s:G}(h:jj c W g s):ja W W (.slice (some (g,12)) s.l.length 4) s.l:=by
 refine⟨some (g,12),4,rfl,h.2,by simp[maxLen],λ_=>⟨g,12,rfl,h.1.lt,λk hk=>?_⟩,λh=>by cases h⟩;obtain⟨-,c1,c2,c3,c4,-⟩:=h.clk;have:=h.2;rcases(by omega:k=0\/k=1\/k=2\/k=3)with rfl|rfl|rfl|rfl
 ·exact c1
 ·exact c2
 ·exact c3
 ·exact c4
theorem Pw(c:Cx 1)(g:Nat)(s:G)(w:World)(h:jj c w g s)(hs:small s.l)(hm:0<=s.lm/\s.lm<=9223372036854775807):
  Calls Tryz.prog 202 #[↑(g,11)] w λe w'=>e=.returned (.tuple #[↑(jb s.lm s.l),↑(wiB s.lm (avg s.l))])/\Below w w w':=by
 have hT:Hid (∀W,Below w w W->jj c W g s):=af (λW hW=>h.below hW h.1.lt);have A1:=λW(hW:Below w w W)=>af (uX s.l _ W W lr (hT.o W hW).sees hs h.2);have R:=λn W=>af (uU s.lm n W hm);have hl4:=h.2;unfold jb;generalize avg s.l=r at *;have R:=R r;generalize hq:wiB s.lm r=q at *;clear hq;obtain⟨c0,-,-,-,-,c5⟩:=h.clk;have HC:Hid (∀W,Below w w W->W.cell? (g,11)=some ↑s.lm/\W.cell? (g,16)=some ↑(s.l.length:Nat)):=af (λW hW=>by
  obtain⟨c0,-,-,-,-,c5⟩:=(hT.o W hW).clk;exact⟨c0,c5⟩)
 have hb0:=ah w w;have n1:(0:Int)<=(s.l.length:Nat):=by omega
 have n2:((s.l.length:Nat):Int)<=4:=by omega
 clear h hs hm
 go_enter Tryz.func202,Tryz.ntmps202
 go_wp2
 go_region_held3 (λW=>W.cell? (g,11)=some ↑s.lm/\W.cell? (g,16)=some ↑(s.l.length:Nat))
  ((refine HC.o _ ?_;first|exact hb0|exact hb0.drew|exact hb1))
  (first
   |((go_at_call 226;with_reducible refine(A1 _ ?_).o.mono ?_);(first|exact hb0|exact hb0.drew);rintro e w1 ⟨rfl,hb⟩;have hb1:=hb0.drew.trans (hb.mono hb0.size))
   |fail)
 clear c0 c5;obtain⟨c0,c5⟩:=HC.o w1 hb1
 cases q
 ·go_wp2_with fail
  refine(R w1).o.mono ?_;rintro e w2 ⟨rfl,rfl⟩;go_wp2;go_ret2;exact⟨rfl,hb1⟩
 ·go_wp2_with fail
  refine(R w1).o.mono ?_;rintro e w2 ⟨rfl,rfl⟩;go_wp2;go_ret2;exact⟨rfl,hb1⟩
theorem uG(c:Cx 1)(g:Nat)(s:G)(w:World)(h:jj c w g s)(hs:s.slot<s.n)(hn:s.n<=8)(hsm:small s.l)(hm:0<=s.lm/\s.lm<=9223372036854775807)(jz:s.slot+1=s.n->time (s.now+jb s.lm s.l)):
  Calls Tryz.prog 221 #[↑(g,1)] w λe w'=>e=.returned (.tuple #[])/\jj c w' g s.on/\Only g w w':=by
 have c8:=PBa (h.1.cell 8 (x:=↑(s.n:Nat)) rfl) (show 1+8=9 from rfl);have c18:=PBa (h.1.cell 18 (x:=↑(s.slot:Nat)) rfl) (show 1+18=19 from rfl);have f18:=h.1.frozen 19;have z1:IntKind.i64.wrap ((s.slot:Int)+1)=(s.slot:Int)+1:=aO _ (by omega);by_cases hc:s.slot+1=s.n
 ·have z2:Int.tmod ((s.slot:Int)+1) (s.n:Int)=0:=by rw[show((s.slot:Int)+1)=(s.n:Int) by omega];simp
  have z3:¬(s.n:Int)=0:=by omega
  have H1:Hid (jj c (w.setCell (g,19) ↑(0:Int)).drew g {s with slot:=0}):=af ⟨((h.1.set 18 (by simp[grd]) ↑(0:Nat)).drew).eq (nL s 0),h.2⟩
  go_enter Tryz.func221,Tryz.ntmps221
  go_wp2
  go_region
  have hO:=af (((aE g w).set 19 ↑(0:Int)).drew);have xQ:=H1.o.1.cell 18 (x:=↑(0:Nat)) rfl;generalize hw1:(w.setCell (g,19) ↑(0:Int)).drew=w1 at *;have hT:=af (Pw c g {s with slot:=0} w1 H1.o hsm hm);have T0:=af (jz hc);simp only at hT;generalize hv:jb s.lm s.l=v at *;generalize wiB s.lm (avg s.l)=q at *;go_wp2_with fail;refine hT.o.mono ?_;rintro e w2 ⟨rfl,hb2⟩;have H2:=af (H1.o.below hb2 H1.o.lt);have hO2:=af (hO.o.trans (iQ g hb2));have c16:=PBa (H2.o.1.cell 16 (x:=↑s.now) rfl) (show 1+16=17 from rfl);have f16:=H2.o.1.frozen 17;have z4:IntKind.i64.wrap (s.now+v)=s.now+v:=aO _ (by have:=T0.o;unfold time at this;omega);have H3:=af (show jj c (w2.setCell (g,17) ↑(s.now+v:Int)) g {s with slot:=0,now:=s.now+v}from⟨(H2.o.1.set 16 (by simp[grd]) ↑(s.now+v:Int)).eq (tj _ _),H2.o.2⟩);have hO3:=af (hO2.o.set 17 ↑(s.now+v:Int));generalize hw3:w2.setCell (g,17) ↑(s.now+v:Int)=w3 at *;go_wp2_with fail;refine(EM c g _ _ H3.o).mono ?_;rintro e w4 ⟨rfl,H4,hO4⟩;go_wp2;refine aD (ax (by rfl) _ _ _) rfl ⟨rfl,?_,hO3.o.trans hO4⟩;unfold G.on;rw[au hc,hv];exact H4
 ·have e1:((s.slot+1:Nat):Int)=(s.slot:Int)+1:=by omega
  have z2:Int.tmod ((s.slot:Int)+1) (s.n:Int)=(s.slot:Int)+1:=Int.tmod_eq_of_lt (by omega) (by omega);have z3:¬(s.n:Int)=0:=by omega
  have H1:Hid (jj c (w.setCell (g,19) ↑((s.slot:Int)+1:Int)).drew g {s with slot:=s.slot+1}):=af ⟨((h.1.set 18 (by simp[grd]) ↑((s.slot:Int)+1:Int)).drew).eq (by rw[<-e1];exact nL s (s.slot+1)),h.2⟩;have hO:=af (((aE g w).set 19 ↑((s.slot:Int)+1:Int)).drew);have z4:(((s.slot:Int)+1)==0)=false:=by rw[aB];omega
  go_enter Tryz.func221,Tryz.ntmps221
  go_wp2
  go_region
  go_wp2;refine aK (ax (by rfl) _ _ _) rfl ⟨rfl,?_,hO.o⟩;unfold G.on;rw[ai hc];exact H1.o
theorem Px(c:Cx 1)(g:Nat)(s:G)(at_:Int)(w:World)(h:jj c w g s)(hs:s.slot<s.n)(hn:s.n<=8)(hsm:small s.l)(hm:0<=s.lm/\s.lm<=9223372036854775807)
  (hat:time at_) (hnw:time s.now) (hd:s.sy s.slot=true->-1099511627776<=at_-s.now/\at_-s.now<=1099511627776) (jz:s.slot+1=s.n->time (s.now+jb s.lm (if s.sy s.slot then iT s.l (at_-s.now)else s.l))):
  Calls Tryz.prog 199 #[↑(g,1),↑at_] w λe w'=>e=.returned (.tuple #[])/\jj c w' g (s.heard at_)/\Only g w w':=by
 have f19:=h.1.frozen 20;have c19:=PBa (h.1.cell 19 (x:=↑(s.si:Nat)) rfl) (show 1+19=20 from rfl);have H1:Hid (jj c (w.setCell (g,20) ↑(0:Int)) g {s with si:=0}):=af ⟨(h.1.set 19 (by simp[grd]) ↑((0:Nat):Int)).eq (pR s 0),h.2⟩;have hO1:=af ((aE g w).set 20 ↑(0:Int));generalize hw1:w.setCell (g,20) ↑(0:Int)=w1 at *;have c18:=PBa (H1.o.1.cell 18 (x:=↑(s.slot:Nat)) rfl) (show 1+18=19 from rfl);have cs:=H1.o.1.cell s.slot (vR _ s.slot (by omega));simp only at cs;have hN:=af jz;have i1:(0:Int)<=(s.slot:Int):=by omega
 have i2:(s.slot:Int)<8:=by omega
 clear h jz;unfold G.heard
 cases hq:s.sy s.slot
 ·rw[hq]at hN cs
  go_enter Tryz.func199,Tryz.ntmps199
  go_wp2
  go_region
  have H2:jj c w1.drew g {s with si:=0}:=H1.o;go_wp2_with fail;refine(uG c g _ _ H2 hs hn hsm hm (λh=>by simpa using hN.o h)).mono ?_;rintro e w4 ⟨rfl,H4,hO4⟩;go_wp2;exact aD (ax (by rfl) _ _ _) rfl ⟨rfl,H4,hO1.o.drew.trans hO4⟩
 ·rw[hq]at hN cs
  have hLs:=λW=>af (BK at_ s.now W hat hnw);have hM:=λW(h:jj c W g {s with si:=0})=>af (Pv c g _ (at_-s.now) W h);have hK:=af (hsm.iT (hd hq));have c16:=PBa (H1.o.1.cell 16 (x:=↑s.now) rfl) (show 1+16=17 from rfl);simp only at hM;generalize hl2:iT s.l (at_-s.now)=l2 at *;clear hd
  go_enter Tryz.func199,Tryz.ntmps199
  go_wp2
  go_region
  go_wp2
  go_region_with (first
   |(go_at_call 222;refine(hLs _).o.mono ?_;rintro e w2 ⟨rfl,rfl⟩)
   |(go_at_call 108;refine(hM w1.drew.drew H1.o).o.mono ?_;rintro e w2 ⟨rfl,H2,hO2⟩))
  go_wp2_with fail;refine(uG c g _ _ H2 hs hn hK.o hm (λh=>by simpa using hN.o h)).mono ?_;rintro e w4 ⟨rfl,H4,hO4⟩;go_wp2;exact aD (ax (by rfl) _ _ _) rfl ⟨rfl,H4,(hO1.o.drew.drew.trans hO2).trans hO4⟩
theorem Py(c:Cx 1)(g:Nat)(s:G)(w:World)(h:jj c w g s)(hs:s.slot<s.n)(hn:s.n<=8)(hsm:small s.l)(hm:0<=s.lm/\s.lm<=9223372036854775807)(hsi:s.si<=1000)
  (jz:s.slot+1=s.n->time (s.now+jb s.lm s.l)):
  Calls Tryz.prog 200 #[↑(g,1)] w λe w'=>e=.returned (.tuple #[])/\jj c w' g s.missed/\Only g w w':=by
 have f19:=h.1.frozen 20;have c19:=PBa (h.1.cell 19 (x:=↑(s.si:Nat)) rfl) (show 1+19=20 from rfl);have e1:((s.si+1:Nat):Int)=(s.si:Int)+1:=by omega
 have z1:IntKind.i64.wrap ((s.si:Int)+1)=(s.si:Int)+1:=aO _ (by omega);have z2:IntKind.i64.wrap (2*(s.n:Int))=2*(s.n:Int):=aO _ (by omega);have H1:Hid (jj c (w.setCell (g,20) ↑((s.si:Int)+1:Int)) g {s with si:=s.si+1}):=af ⟨(h.1.set 19 (by simp[grd]) ↑((s.si:Int)+1:Int)).eq (by rw[<-e1];exact pR s (s.si+1)),h.2⟩;have hO1:=af ((aE g w).set 20 ↑((s.si:Int)+1:Int));generalize hw1:w.setCell (g,20) ↑((s.si:Int)+1:Int)=w1 at *;have c8:=PBa (H1.o.1.cell 8 (x:=↑(s.n:Nat)) rfl) (show 1+8=9 from rfl);have d19:w1.cell? (g,20)=some ↑((s.si:Int)+1:Int):=by rw[<-e1];exact H1.o.1.cell 19 rfl
 have hN:=af jz;clear h jz;unfold G.missed;by_cases hq:s.si+1=2*s.n
 ·rw[au hq]
  have q1:((s.si:Int)+1==2*(s.n:Int))=true:=by rw[fW];omega
  have f17:=H1.o.1.frozen 18;have f18:=H1.o.1.frozen 19;have c17:=PBa (H1.o.1.cell 17 (x:=↑s.kn) rfl) (show 1+17=18 from rfl);have c18:=PBa (H1.o.1.cell 18 (x:=↑(s.slot:Nat)) rfl) (show 1+18=19 from rfl);have H2:Hid (jj c ((w1.drew.setCell (g,18) ↑false).setCell (g,19) ↑(0:Int)) g {s with si:=s.si+1,kn:=false,slot:=0}):=af ⟨((H1.o.1.drew.set 17 (by simp[grd]) ↑false).set 18 (by simp[grd]) ↑((0:Nat):Int)).eq (by rw[tq,nL]),H1.o.2⟩
  go_enter Tryz.func200,Tryz.ntmps200
  go_wp2
  go_region
  go_wp2;exact aK (ax (by rfl) _ _ _) rfl ⟨rfl,H2.o,(hO1.o.drew.set 18 _).set 19 _⟩
 ·rw[ai hq]
  have q1:((s.si:Int)+1==2*(s.n:Int))=false:=by rw[aB];omega
  go_enter Tryz.func200,Tryz.ntmps200
  go_wp2
  go_region
  have H2:jj c w1.drew g {s with si:=s.si+1}:=H1.o;go_wp2_with fail;refine(uG c g _ _ H2 hs hn hsm hm hN.o).mono ?_;rintro e w4 ⟨rfl,H4,hO4⟩;go_wp2;exact aD (ax (by rfl) _ _ _) rfl ⟨rfl,H4,hO1.o.drew.trans hO4⟩
end
end Go.Proofs.YteadkhigkmijiaaGreat
