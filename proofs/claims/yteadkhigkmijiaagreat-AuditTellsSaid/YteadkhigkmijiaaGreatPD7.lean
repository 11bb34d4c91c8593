/- Texts AlW in one. -/
import Derived.BigQuiet
import Derived.Test.YteadkhigkmijiaaGreatPD1
import Derived.Test.YteadkhigkmijiaaGreatPD2
set_option linter.all false
namespace Go.Proofs.YteadkhigkmijiaaGreat
section
set_option maxRecDepth 100000
set_option maxHeartbeats 4000000
open Go.RowKit
theorem Gx(r:R4)(v:Value)(l:List Int)(a:Int)(b:Bool)(B:Nat)(w:World)(hv:iI w B v l)(hl:iK l):
  Calls Tryz.prog 229 #[r.v,.agg #[v,↑a,↑b]] w λe w'=>e=.returned ↑(lE r l a b:Nat)/\Below w w w':=by
 obtain⟨n,lo,hi,st⟩:=r;have hb:=λW(h:Below w w W)=>(h:Below w w W);obtain⟨A,c,rfl,v1,v2,v3,-⟩:=hv.at_;unfold maxLen at v2;unfold R4.v;have o1:bits BinOp.or IntKind.i64 0 1=1:=by decide
 have o2:bits BinOp.or IntKind.i64 0 2=2:=by decide
 have o3:bits BinOp.or IntKind.i64 1 2=3:=by decide
 have o4:bits BinOp.or IntKind.i64 0 4=4:=by decide
 have o5:bits BinOp.or IntKind.i64 1 4=5:=by decide
 have o6:bits BinOp.or IntKind.i64 2 4=6:=by decide
 have o7:bits BinOp.or IntKind.i64 3 4=7:=by decide
 have p0:bits BinOp.or IntKind.i64 0 8=8:=by decide
 have p1:bits BinOp.or IntKind.i64 1 8=9:=by decide
 have p2:bits BinOp.or IntKind.i64 2 8=10:=by decide
 have p3:bits BinOp.or IntKind.i64 3 8=11:=by decide
 have p4:bits BinOp.or IntKind.i64 4 8=12:=by decide
 have p5:bits BinOp.or IntKind.i64 5 8=13:=by decide
 have p6:bits BinOp.or IntKind.i64 6 8=14:=by decide
 have p7:bits BinOp.or IntKind.i64 7 8=15:=by decide
 have hbel:∀M1 M2,Below w w ((w.alloc M1).alloc M2):=λM1 M2=>((ah w w).alloc lr M1).alloc (by simp) M2;by_cases h0:l=[]
 ·subst h0
  have q0:decide ((0:Int)<(([]:List Int).length:Nat))=false:=by decide
  simp only[fw]at *
  go_enter Tryz.func229,Tryz.ntmps229
  go_wp2_with fail
  all_goals
   go_ret;refine⟨?_,(by first|exact hbel _ _|exact aC (hbel _ _) _|exact aC (aC (hbel _ _) _) _)⟩
   simp_all[lE]
  all_goals ((repeat' split)<;>omega)
 ·have h1:0<l.length:=aX.2 h0
  have q0:decide ((0:Int)<((l.length:Nat):Int))=true:=av (by omega);obtain⟨b0,off,rfl,hb0,hc⟩:=v3 h1;have c0:=hc 0 h1;obtain⟨x1,x2⟩:=hl.getD 0;unfold bv at c0;have hx:lE ⟨n,lo,hi,st⟩ l a b=(if l.getD 0 0<lo then 1 else 0)+(if hi<l.getD 0 0 then 2 else 0)+(if st<a\/a=-1 then 4 else 0)+(if b then 0 else 8):=by
   unfold lE;simp[h0]
  rw[hx];clear hx hc v3 hv hl;generalize l.getD 0 0=x0 at *;have wx:IntKind.i64.wrap x0=x0:=aO _ (by omega);have r0:(0:Int)<((l.length:Nat):Int):=by omega
  rw[gC]at c0;have c1:=bn (.cells #[.slice (some (b0,off)) l.length c,↑a,↑b] 101) (bn (.cells #[↑n,↑lo,↑hi,↑st] 69) c0);generalize l.length=N at *
  go_enter Tryz.func229,Tryz.ntmps229
  go_wp2_with fail
  all_goals
   go_ret;refine⟨?_,(by first|exact hbel _ _|exact aC (hbel _ _) _|exact aC (aC (hbel _ _) _) _)⟩
   simp_all
  all_goals ((repeat' split)<;>omega)
theorem GF(r:R4)(v:Value)(l:List Int)(a:Int)(b:Bool)(B:Nat)(w:World)(hv:iI w B v l)(hl:iK l):
  Calls Tryz.prog 212 #[r.v,.agg #[v,↑a,↑b]] w λe w'=>e=.returned ↑(lE r l a b:Nat)/\Below w w w':=by
 obtain⟨n,lo,hi,st⟩:=r;have hb:=λW(h:Below w w W)=>(h:Below w w W);obtain⟨A,c,rfl,v1,v2,v3,-⟩:=hv.at_;unfold maxLen at v2;unfold R4.v;have o1:bits BinOp.or IntKind.i64 0 1=1:=by decide
 have o2:bits BinOp.or IntKind.i64 0 2=2:=by decide
 have o3:bits BinOp.or IntKind.i64 1 2=3:=by decide
 have o4:bits BinOp.or IntKind.i64 0 4=4:=by decide
 have o5:bits BinOp.or IntKind.i64 1 4=5:=by decide
 have o6:bits BinOp.or IntKind.i64 2 4=6:=by decide
 have o7:bits BinOp.or IntKind.i64 3 4=7:=by decide
 have p0:bits BinOp.or IntKind.i64 0 8=8:=by decide
 have p1:bits BinOp.or IntKind.i64 1 8=9:=by decide
 have p2:bits BinOp.or IntKind.i64 2 8=10:=by decide
 have p3:bits BinOp.or IntKind.i64 3 8=11:=by decide
 have p4:bits BinOp.or IntKind.i64 4 8=12:=by decide
 have p5:bits BinOp.or IntKind.i64 5 8=13:=by decide
 have p6:bits BinOp.or IntKind.i64 6 8=14:=by decide
 have p7:bits BinOp.or IntKind.i64 7 8=15:=by decide
 have hbel:∀M1 M2,Below w w ((w.alloc M1).alloc M2):=λM1 M2=>((ah w w).alloc lr M1).alloc (by simp) M2;by_cases h0:l=[]
 ·subst h0
  have q0:decide ((0:Int)<(([]:List Int).length:Nat))=false:=by decide
  simp only[fw]at *
  go_enter Tryz.func212,Tryz.ntmps212
  go_wp2_with fail
  go_quiet (fail)
  go_wp2_with fail
  all_goals
   go_quiet (fail)
   go_wp2_with fail
  all_goals
   go_ret;refine⟨?_,(by first|exact hbel _ _|exact aC (hbel _ _) _|exact aC (aC (hbel _ _) _) _)⟩
   simp_all[lE]
  all_goals ((repeat' split)<;>omega)
 ·have h1:0<l.length:=aX.2 h0
  have q0:decide ((0:Int)<((l.length:Nat):Int))=true:=av (by omega);obtain⟨b0,off,rfl,hb0,hc⟩:=v3 h1;have c0:=hc 0 h1;obtain⟨x1,x2⟩:=hl.getD 0;unfold bv at c0;have hx:lE ⟨n,lo,hi,st⟩ l a b=(if l.getD 0 0<lo then 1 else 0)+(if hi<l.getD 0 0 then 2 else 0)+(if st<a\/a=-1 then 4 else 0)+(if b then 0 else 8):=by
   unfold lE;simp[h0]
  rw[hx];clear hx hc v3 hv hl;generalize l.getD 0 0=x0 at *;have wx:IntKind.i64.wrap x0=x0:=aO _ (by omega);have r0:(0:Int)<((l.length:Nat):Int):=by omega
  rw[gC]at c0;have c1:=bn (.cells #[.slice (some (b0,off)) l.length c,↑a,↑b] 101) (bn (.cells #[↑n,↑lo,↑hi,↑st] 69) c0);generalize l.length=N at *
  go_enter Tryz.func212,Tryz.ntmps212
  go_wp2_with fail
  go_quiet (fail)
  go_wp2_with fail
  all_goals
   go_quiet (fail)
   go_wp2_with fail
  all_goals
   go_ret;refine⟨?_,(by first|exact hbel _ _|exact aC (hbel _ _) _|exact aC (aC (hbel _ _) _) _)⟩
   simp_all
  all_goals ((repeat' split)<;>omega)
end
end Go.Proofs.YteadkhigkmijiaaGreat
