/- Texts Co, Kit, CrcMath, CrcA, CrcB in one. -/
import Derived.Below
import Derived.Deep.RegionHeld
import Derived.Lib.Hide
import Derived.Test.YteadkhigkmijiaaGreatRows
import Derived.WalkKit
import Derived.WalkSpells
import Derived.WalkLawsBesides
import Derived.Laws.OwnMore
import Derived.Deep.Draws
import Derived.OwnWalk
import Derived.Outline
import Derived.BigQuiet
import Derived.Deep.QuietTactic
import Derived.Deep.DeepFit
import Derived.Laws.BitsLemmas
import Derived.Laws.BitsAllLaws
set_option linter.all false
namespace Go.RowKit
theorem Hid.o{p:Prop}(h:Hid p):p:=h
end Go.RowKit
namespace Go
theorem Shut.o{p:Prop}(h:Shut p):p:=h
end Go
namespace Go.Proofs.YteadkhigkmijiaaGreat
section
open Go.RowKit
instance:Coe Int Value:=⟨Value.int .i64⟩
instance:Coe Nat Value:=⟨λn=>.int .i64 n⟩
instance:Coe Bool Value:=⟨.bool⟩
instance:Coe World Nat:=⟨λw=>w.heap.size⟩
instance(g i:Nat):CoeDep (Nat×Nat) (g,i) Addr:=⟨⟨g,i,none⟩⟩
instance(g i:Nat):CoeDep (Nat×Nat) (g,i) Value:=⟨.pointer (some ⟨g,i,none⟩)⟩
instance(w:World)(i:Nat):CoeDep (World×Nat) (w,i) Addr:=⟨⟨w.heap.size,i,none⟩⟩
instance(w:World)(i:Nat):CoeDep (World×Nat) (w,i) Value:=⟨.pointer (some ⟨w.heap.size,i,none⟩)⟩
theorem lr{n:Nat}:n<=n:=Nat.le_refl n
abbrev af:=@Lib.hid
abbrev ah:=@Below.refl
abbrev ai:=@if_neg
abbrev aj:=@decide_eq_false
abbrev au:=@if_pos
abbrev av:=@decide_eq_true
abbrev ax:=@results_none
abbrev ay:=@List.getD_eq_getElem?_getD
abbrev aA:=@AllReadyH.cons
abbrev aB:=@beq_eq_false_iff_ne
abbrev aC:=@below_drewN
abbrev aD:=@bodyPost_end
abbrev aG:=@AllReadyH.nil
abbrev aK:=@bodyPost_ret
abbrev aL:=@And.intro
abbrev aM:=@wpAnyH_ready
abbrev aN:=@Nat.lt_of_lt_of_le
abbrev aO:=@IntWalk.i64_in
abbrev aP:=@List.getElem?_eq_getElem
abbrev aQ:=@Int.toNat_natCast
abbrev aR:=@Nat.le_refl
abbrev aT:=@List.mem_cons_of_mem
abbrev aU:=@Below.setCell
abbrev aV:=@results_cell_tmp
abbrev aW:=@Nat.le_trans
abbrev aX:=@List.length_pos_iff
abbrev aY:=@List.getElem?_eq_none
abbrev aZ:=@World.cell?_alloc_at
abbrev bg:=@Bool.and_eq_true
abbrev bn:=@Lib.cell?_alloc_some
abbrev bq:=@List.mem_cons
abbrev bA:=@Bool.false_eq_true
abbrev bB:=@Option.some.injEq
abbrev bC:=@decide_eq_true_eq
abbrev bD:=@List.mem_singleton
abbrev bE:=@Below.alloc
abbrev bG:=@List.mem_append
abbrev bH:=@Nat.zero_le
abbrev bI:=@Calls.quiet_of_same
abbrev bJ:=@List.length_append
abbrev bL:=@Below.drew
abbrev bM:=@List.mem_of_mem_take
abbrev bN:=@List.setIfInBounds_toArray
abbrev bO:=@List.mem_of_getElem?
abbrev bP:=@wpAnyH_done
abbrev bS:=@Nat.le_succ
abbrev bT:=@Array.getElem?_eq_some_iff
abbrev bU:=@Nat.zero_add
abbrev bV:=@bne_iff_ne
abbrev bW:=@List.getElem?_range
abbrev bY:=@Bool.eq_iff_iff
abbrev bZ:=@Int.eq_ofNat_of_zero_le
abbrev cm:=@Array.getElem?_eq_getElem
abbrev cw:=@World.cell?_setCell_other
abbrev cA:=@List.mem_range
abbrev cB:=@World.ownsRow.kept
abbrev cF:=@Nat.and_two_pow_sub_one_eq_mod
abbrev cG:=@BitVec.toNat_ofInt
abbrev cJ:=@Nat.lt_succ_self
abbrev cK:=@Bool.true_and
abbrev cM:=@List.not_mem_nil
abbrev cO:=@World.rangeAt_setCells_same
abbrev cQ:=@List.length_take
abbrev cS:=@World.frozen?_setCell
abbrev cW:=@wp_region_held_drew
abbrev cZ:=@List.range_succ
abbrev dh:=@of_decide_eq_true
abbrev dm:=@wpAnyH_take
abbrev dn:=@congrArg
abbrev dw:=@Lib.run_eql_slice_nil
abbrev dx:=@List.length_eq_zero_iff
abbrev dz:=@List.take_length
abbrev dA:=@Int.tmod_eq_emod_of_nonneg
abbrev dB:=@if_false
abbrev dD:=@Bool.false_and
abbrev dF:=@List.getElem?_map
abbrev dG:=@if_true
abbrev dH:=@Ne.symm
abbrev dI:=@List.foldl_cons
abbrev dJ:=@IntKind.wrap_i64
abbrev dK:=@List.map_congr_left
abbrev dL:=@World.ownsRow.lt
abbrev dM:=@List.length_cons
abbrev dN:=@World.cell?_alloc_past
abbrev dO:=@Option.mem_toList
abbrev dP:=@World.cell?_setCell_same
abbrev dQ:=@List.length_map
abbrev dR:=@Below.heap_setCell
abbrev dS:=@List.getElem_mem
abbrev dU:=@List.getElem?_set_ne
abbrev dW:=@List.length_range
abbrev dX:=@World.ownsRow_nil
abbrev dY:=@Nat.testBit_eq_decide_div_mod_eq
abbrev dZ:=@List.getElem?_set_self
abbrev eu:=@Calls.quiet_of
abbrev eG:=@Bool.and_false
abbrev eH:=@World.ownsRow.alloc
abbrev eJ:=@List.getD_cons_zero
abbrev eP:=@List.getD_cons_succ
abbrev eX:=@BitVec.toNat_and
abbrev fe:=@Nat.add_assoc
abbrev fo:=@List.ext_getElem?
abbrev fq:=@Value.slice.injEq
abbrev fu:=@Bool.eq_false_iff
abbrev fw:=@List.length_nil
abbrev fA:=@IntKind.wrap_u8
abbrev fB:=@ByteArray.toList_eq
abbrev fC:=@List.mem_map
abbrev fD:=@Nat.lt_irrefl
abbrev fE:=@Nat.shiftLeft_eq
abbrev fF:=@List.length_drop
abbrev fH:=@List.set_cons_succ
abbrev fI:=@List.mem_of_find?_eq_some
abbrev fJ:=@List.getElem?_eq_some_iff
abbrev fK:=@Option.map_some
abbrev fL:=@or_false
abbrev fM:=@List.getElem?_append
abbrev fN:=@List.take_succ_eq_append_getElem
abbrev fO:=@List.foldl_append
abbrev fP:=@List.mem_of_mem_drop
abbrev fQ:=@not_false_eq_true
abbrev fR:=@Result.andThen_ok
abbrev fS:=@Iff.rfl
abbrev fT:=@Array.toArray_toList
abbrev fV:=@info_parts
abbrev fW:=@beq_iff_eq
abbrev fX:=@Int.toNat_of_nonneg
abbrev fY:=@List.mem_flatMap
abbrev fZ:=@Option.getD_some
abbrev gh:=@World.block_lt_of_cell?
abbrev gu:=@and_true
abbrev gy:=@World.size_alloc
abbrev gA:=@List.cons_append
abbrev gB:=@decide_eq_true_iff
abbrev gC:=@Nat.add_zero
abbrev gD:=@World.ownsRow_made
abbrev gE:=@List.take_of_length_le
abbrev gF:=@Nat.eq_zero_or_pos
abbrev gG:=@Nat.lt_of_le_of_lt
abbrev gH:=@Array.append_assoc
abbrev gI:=@Nat.two_pow_pos
abbrev gJ:=@List.nil_append
abbrev gK:=@List.flatMap_cons
abbrev gL:=@Array.size_append
abbrev gM:=@List.take_add_one
abbrev gN:=@List.getElem?_append_right
abbrev gO:=@World.ownsRow.cellAt
abbrev gP:=@Or.inl
abbrev gQ:=@Eq.trans
abbrev gS:=@World.cell?_drew
abbrev gT:=@Nat.lt_trans
abbrev gU:=@wpList_store_mid
abbrev gV:=@List.getElem?_append_left
abbrev gW:=@List.mem_or_eq_of_mem_set
abbrev gX:=@Bool.or_false
abbrev gY:=@Int.natCast_pow
abbrev gZ:=@Nat.div_le_self
abbrev ia:=@List.nodup_cons
abbrev ic:=@Int.natCast_mul
abbrev ig:=@run_loadVar_mid
abbrev iz:=@List.nodup_nil
abbrev iA:=@Sem.run_pure
abbrev iB:=@List.take_append_drop
abbrev iD:=@Nat.pow_add
abbrev iE:=@Bool.or_eq_true
abbrev iF:=@wpList_load_mid
abbrev iG:=@Sem.run_bind
end
section
open Go.RowKit
def iY(w:World)(B:Nat)(A:Option Addr)(n:Nat)(V:Nat->Value):Prop:=
 0<n->∃b off,A=some ⟨b,off,none⟩/\b<B/\∀k,k<n->w.cell? ⟨b,off+k,none⟩=some (V k)
section
variable {w w':World}{B B' n m:Nat}{A:Option Addr}{V:Nat->Value}
theorem iY.none_:iY w B A 0 V:=λh=>absurd h (by omega)
abbrev iH:=@iY.none_
theorem iY.keep(h:iY w B A n V)(hk:∀p:Addr,p.block<B->w'.cell? p=w.cell? p):iY w' B A n V:=λh0=>by
 obtain⟨b,off,e,hb,hc⟩:=h h0;exact⟨b,off,e,hb,λk h=>(hk (b,off+k) hb).trans (hc k h)⟩
theorem iY.more(h:iY w B A n V)(hB:B<=B'):iY w B' A n V:=λh0=>by
 obtain⟨b,off,e,hb,hc⟩:=h h0;exact⟨b,off,e,by omega,hc⟩
theorem iY.below(h:iY w B A n V)(hb:Below B w w'):iY w' B A n V:=h.keep λ_ hp=>hb.cell hp
theorem iY.alike(h:iY w B A n V){V':Nat->Value}(hV:∀k,k<n->V k=V' k):iY w B A n V':=λh0=>by
 obtain⟨b,off,e,hb,hc⟩:=h h0;exact⟨b,off,e,hb,λk h=>by rw[<-hV k h];exact hc k h⟩
def iP(w:World)(base:Nat)(e:TypeId)(v:Value)(n:Nat)(V:Nat->Value):Prop:=
 w.ownsRow base e 1 v n ((List.range n).map V)
theorem iP.form{e:TypeId}{base:Nat}{v:Value}(h:iP w base e v n V):∃A c,v=.slice A n c/\n<=c/\c<=maxLen/\iY w w A n V:=by
 obtain⟨hl,hh⟩:=h;rcases hh with⟨rfl,rfl⟩|⟨g,cap,cur,rfl,hb,hg,hn,hc,hs,ht⟩
 ·exact⟨_,_,rfl,aR _,bH _,iH⟩
 ·refine⟨_,_,rfl,hn,hc,λ_=>⟨g,0,rfl,(bT.1 hg).1,λk hk=>?_⟩⟩
  rw[bU,cell_of_row w g k cur e (0,0) hg];have:=dn (λl=>l[k]?) ht;simp only[List.getElem?_take,dF,bW hk]at this;rw[au (by omega)]at this;simpa using this
theorem iP.snoc{e:TypeId}{base:Nat}{v:Value}{xs:List Value}{u:Value}(h:w.ownsRow base e 1 v (n+1) xs)(hx:xs=(List.range n).map V++[u])(hu:u=V n):iP w base e v (n+1) V:=by
 unfold iP;rw[cZ,List.map_append,List.map_cons,List.map_nil,<-hu,<-hx];exact h
theorem iP.alike{e:TypeId}{base:Nat}{v:Value}(h:iP w base e v n V){V':Nat->Value}(hV:∀k,k<n->V k=V' k):iP w base e v n V':=by
 unfold iP at h ⊢;have:(List.range n).map V'=(List.range n).map V:=dK λk hk=>(hV k (cA.1 hk)).symm;rw[this];exact h
theorem Kc{B:Nat}{W wx w1:World}{e:TypeId}{v:Value}{k:Nat}{xs:List Value}{o:Obj}(hb:Below B W wx)(hW:B<=wx.heap.size)(hown:wx.ownsRow B e 1 v k xs)(hg:(wx.alloc o).grownBy w1 v.ownBlock):Below B W w1:=
 (hb.alloc hW o).grown hg (by simp;omega) (λg h=>(hown.lt g h).1)
theorem iP.cell{e:TypeId}{base g c:Nat}(h:iP w base e (.slice (some (g,0)) n c) n V){k:Nat}(hk:k<n):w.cell? (g,k)=some (V k):=by
 rw[gO h k (by omega)];simp[hk]
theorem iP.frozen{e:TypeId}{base g c:Nat}(h:iP w base e (.slice (some (g,0)) n c) n V)(k:Nat):w.frozen? (g,k)=false:=World.ownsRow.frozenAt h k
theorem iP.j5{e:TypeId}{base g c:Nat}(h:iP w base e (.slice (some (g,0)) n c) n V)(j:Nat)(u:Value){V':Nat->Value}(hj:V' j=u)(ho:∀i,i<n->i≠j->V' i=V i):
  iP (w.setCell (g,j) u) base e (.slice (some (g,0)) n c) n V':=by
 have h1:=(World.ownsRow.stored h j u).1;unfold iP;have:(List.range n).map V'=((List.range n).map V).set j u:=by
  apply fo
  intro i;rw[List.getElem?_set];by_cases hi:i<n
  ·by_cases hij:j=i
   ·subst hij
    simp[hi,hj]
   ·simp[hi,hij,ho i hi (dH hij)]
  ·by_cases hij:j=i
   ·subst hij
    simp[hi]
   ·simp[hi,hij]
 rw[this];exact h1
end
section
variable {P:Program}
theorem Ke(w:World){ops:Array Oper}{rest:List Oper}{o:Oper}{a:Act}{Q:Exit->Act->World->Prop}(hgd:o.guard=none)(s x:Operand)(t:TypeId)
  (ho:o.op=.call {callee:=.builtin .append,args:=#[s,x],argTypes:=#[t,t]})
  (B:Nat) (e:TypeId) (z:Value) (bytes:Nat) (jM:(P.info? e).map (λi=>(i.zero,i.size,i.bytes))=some (some z,1,bytes)) (hzs:z.cells.size=1) (ht:P.underlying t=some (.slice e))
  (v:Value) (n:Nat) (V:Nat->Value) (W:World) (hown:iP w B e v n V) (hbel:Below B W w) (hs:a.eval s=v) (u:Value) (hx:a.eval x=.slice (some (w,0)) 1 1)
  (hu:u.oneCell'=true) (hB:B<=w.heap.size) (h63:n+1<=maxLen) (hroom:(n+1)*bytes<=140737488355328) (hV:u=V n)
  (h:∀v' w',iP w' B e v' (n+1) V->Below B W w'->(w.alloc (.cells #[u] e)).grownBy w' v.ownBlock->wpList P ops Q rest (a.put o.dst v') w'):wpList P ops Q (o::rest) a (w.alloc (.cells #[u] e)):=by
 obtain⟨i0,hi,hz0,hz1,hz2⟩:=fV jM;refine wpList_append_own _ hgd s x t ho B e i0 z 1 bytes ht hi hz0 hz1 hz2 hzs (by omega) v n _ hs (eH hown _) (w,0) 1 1 [u] hx rfl (cell_one_new _ _ _) (by simpa using hu) h63 hroom (by simp;omega) ?_;intro v' w' h1 h2 _;exact h v' w' (iP.snoc h1 rfl hV) (Kc hbel hB hown h2) h2
theorem oM(w:World){ops:Array Oper}{rest:List Oper}{o:Oper}{a:Act}{Q:Exit->Act->World->Prop}(hgd:o.guard=none)(l c:Operand)(t:TypeId)(hop:o.op=Op.makeSlice t l c)
  (B:Nat) (W:World) (hbel:Below B W w) (hB:B<=w.heap.size) (e:TypeId) (z:Value) (bytes:Nat) (jM:(P.info? e).map (λi=>(i.zero,i.size,i.bytes))=some (some z,1,bytes)) (hzs:z.cells=#[z]) (ht:P.underlying t=some (.slice e))
  (kl kc:IntKind) (L C:Int) (n:Nat) (hl:a.eval l=.int kl L) (hc:a.eval c=.int kc C) (hL:L=n) (hC:C=n) (hroom:bytes*n<=281474976710656) (h63:n<=maxLen)
  (h:∀w',iP w' B e (.slice (some (w,0)) n n) n (λ_=>z)->Below B W w'->w.heap.size<w'.heap.size->w.grownBy w' none->wpList P ops Q rest (a.put o.dst (.slice (some (w,0)) n n)) w'):
  wpList P ops Q (o::rest) a w:=by
 obtain⟨i0,hi,hz0,hz1,hz2⟩:=fV jM;refine wpList_make_full w hgd l c t hop B e i0 z 1 ht hi hz0 hz1 kl kc L C n hl hc hL hC (by rw[hz2];exact hroom) h63 hB ?_;intro w' h1 h2;refine h w' ?_ (hbel.grown h2 hB (λk h=>by cases h)) (h1.lt _ rfl).2 h2;unfold iP;rw[hzs,Nat.mul_one,toList_madeCells_one]at h1;rw[List.map_const',dW];exact h1
end
end
section
namespace Cr
def kT(n:Nat)(b:Bool):Nat:=if(n.testBit 14 != b)then(2*n%32768)^^^17817 else 2*n%32768
theorem zE(n:Nat)(b:Bool):kT n b<32768:=by
 unfold kT
 split
 ·exact Nat.xor_lt_two_pow (n:=15) (by omega) (by omega)
 ·omega
theorem Ie(m n:Nat):2*(m^^^n)%32768=(2*m%32768)^^^(2*n%32768):=by
 apply Nat.eq_of_testBit_eq
 intro i;rw[show 32768=2^15 from rfl];simp only[Nat.testBit_xor,Nat.testBit_mod_two_pow,show ∀x,2*x=2^1*x from λ_=>rfl,Nat.testBit_two_pow_mul];by_cases h1:i<15<;>by_cases h2:i>=1<;>simp[h1,h2]
theorem xlc(a b c:Nat):a^^^(b^^^c)=b^^^(a^^^c):=by rw[<-Nat.xor_assoc,Nat.xor_comm a b,Nat.xor_assoc]
theorem x0{a b:Nat}(h:a^^^b=0):a=b:=by
 have:=dn (· ^^^ b) h;simpa[Nat.xor_assoc]using this
theorem Ig(a b:Nat):a^^^(a^^^b)=b:=by rw[<-Nat.xor_assoc,Nat.xor_self,Nat.zero_xor]
theorem zG(m n:Nat)(a b:Bool):kT (m^^^n) (a ^^ b)=kT m a^^^kT n b:=by
 unfold kT;rw[Ie,Nat.testBit_xor]
 cases m.testBit 14<;>cases n.testBit 14<;>cases a<;>cases b<;>simp[Nat.xor_comm,xlc,Ig]
theorem Ih{x:Nat}(hx:x<32768)(h:kT x false=0):x=0:=by
 unfold kT at h;by_cases ht:x.testBit 14=true
 ·rw[ht]at h
  simp only[bV,ne_eq,Bool.true_eq_false,fQ,dG]at h;have:2*x%32768=17817:=x0 h;omega
 ·simp only[Bool.not_eq_true]at ht
  rw[ht]at h;simp at h;have h2:x / 2^14%2≠1:=by
   intro e;rw[dY]at ht;simp[e]at ht
  omega
theorem zJ{m n:Nat}(hm:m<32768)(hn:n<32768):m^^^n<32768:=Nat.xor_lt_two_pow (n:=15) hm hn
theorem Ii{m n:Nat}(b:Bool)(hm:m<32768)(hn:n<32768)(h:kT m b=kT n b):m=n:=by
 have:=zG m n b b;rw[h,Nat.xor_self,Bool.xor_self]at this;exact x0 (Ih (zJ hm hn) this)
def jD(n c:Nat):Nat->Nat
 |0=>n
 |j+1=>kT (jD n c j) (c.testBit (7-j))
def kW(n c:Nat):Nat:=jD n c 8
theorem rW{n:Nat}(h:n<32768)(c j:Nat):jD n c j<32768:=by
 cases j with
 |zero=>exact h
 |succ j=>exact zE _ _
theorem pF(n c:Nat):kW n c<32768:=zE _ _
theorem Ij(m n a b j:Nat):jD (m^^^n) (a^^^b) j=jD m a j^^^jD n b j:=by
 induction j with
 |zero=>rfl
 |succ j ih=>simp only[jD];rw[ih,Nat.testBit_xor,zG]
theorem Ik{m n:Nat}(c j:Nat)(hm:m<32768)(hn:n<32768)(h:jD m c j=jD n c j):m=n:=by
 induction j with
 |zero=>exact h
 |succ j ih=>exact ih (Ii _ (rW hm c j) (rW hn c j) h)
theorem Il(m n a b:Nat):kW (m^^^n) (a^^^b)=kW m a^^^kW n b:=Ij m n a b 8
theorem Im{m n:Nat}(c:Nat)(hm:m<32768)(hn:n<32768)(h:kW m c=kW n c):m=n:=Ik c 8 hm hn h
theorem Io:∀c:Fin 256,kW 0 c.val=0->c.val=0:=by decide+kernel
theorem Ip{n a b:Nat}(ha:a<256)(hb:b<256)(h:kW n a=kW n b):a=b:=by
 have:=Il n n a b;rw[h,Nat.xor_self,Nat.xor_self]at this;exact x0 (Io ⟨a^^^b,Nat.xor_lt_two_pow (n:=8) ha hb⟩ this)
def sumTo(n:Nat)(z:Nat->Int):Nat->Nat
 |0=>n
 |k+1=>kW (sumTo n z k) (z k).toNat
theorem u6{n:Nat}(h:n<32768)(z:Nat->Int)(k:Nat):sumTo n z k<32768:=by
 cases k with
 |zero=>exact h
 |succ k=>exact pF _ _
def ou(n:Nat)(z:Nat->Nat->Int)(N:Nat->Nat):Nat->Nat
 |0=>n
 |k+1=>sumTo (ou n z N k) (z k) (N k)
theorem Hz{n:Nat}(h:n<32768)(z:Nat->Nat->Int)(N:Nat->Nat)(k:Nat):ou n z N k<32768:=by
 induction k with
 |zero=>exact h
 |succ k ih=>exact u6 ih _ _
def sd(a:Int):Nat:=(a%32768).toNat
theorem zB(a:Int):sd a<32768:=by unfold sd;omega
theorem zK{n:Nat}(h:n<32768):sd (n:Int)=n:=by unfold sd;omega
theorem uZ(a:Int):bits BinOp.and IntKind.i64 a 32767=(sd a:Int):=by
 show IntKind.i64.wrap ((BitVec.ofInt 64 a &&& BitVec.ofInt 64 32767).toNat:Int)=_;rw[eX,show(BitVec.ofInt 64 32767).toNat=2^15-1 by decide,cF,cG,dJ];unfold sd;omega
theorem zu{m n:Nat}(hm:m<32768)(hn:n<32768):bits BinOp.xor IntKind.i64 (m:Int) (n:Int)=((m^^^n:Nat):Int):=by
 have hx:=zJ hm hn;show IntKind.i64.wrap ((BitVec.ofInt 64 (m:Int)^^^BitVec.ofInt 64 (n:Int)).toNat:Int)=_;rw[BitVec.toNat_xor,cG,cG,show((m:Int)%((2^64:Nat):Int)).toNat=m by omega,show((n:Int)%((2^64:Nat):Int)).toNat=n by omega,dJ];omega
end Cr
end
section
open Go.RowKit
theorem zq(n c r:Nat)(hn:n<32768):
  bits BinOp.xor IntKind.i64 ((n:Int) / 16384) (bits BinOp.and IntKind.i64 ((c:Int) / 2^r) 1)=if(n.testBit 14 != c.testBit r)then 1 else 0:=by
 have e1:((n:Int) / 16384)=((n / 16384:Nat):Int):=by omega
 have e2:bits BinOp.and IntKind.i64 ((c:Int) / 2^r) 1=((c / 2^r%2:Nat):Int):=by
  have e:((c:Int) / 2^r)=((c / 2^r:Nat):Int):=by
   rw[Int.natCast_ediv,gY];rfl
  rw[e];have hle:c / 2^r<=c:=gZ _ _;show IntKind.i64.wrap ((BitVec.ofInt 64 ((c / 2^r:Nat):Int) &&& BitVec.ofInt 64 1).toNat:Int)=_;rw[eX,show(BitVec.ofInt 64 1).toNat=2^1-1 by decide,cF,cG,dJ];omega
 have h2:c / 2^r%2<2:=Nat.mod_lt _ (by omega);rw[e1,e2,Cr.zu (by omega) (by omega),dY,dY];have h1:n / 16384<2:=by omega
 have h3:n / 2^14%2=n / 16384:=by omega
 rw[h3];generalize n / 16384=x at *;generalize c / 2^r%2=y at *;have:x=0\/x=1:=by omega
 have:y=0\/y=1:=by omega
 rcases ‹x=0\/x=1› with rfl|rfl<;>rcases ‹y=0\/y=1› with rfl|rfl<;>decide
theorem zw(n:Nat):bits BinOp.and IntKind.i64 ((n:Int)*2) 32767=((2*n%32768:Nat):Int):=by
 rw[Cr.uZ];unfold Cr.sd;omega
theorem zx{n:Nat}{b:Bool}(h:(n.testBit 14 != b)=true):bits BinOp.xor IntKind.i64 (bits BinOp.and IntKind.i64 ((n:Int)*2) 32767) 17817=((Cr.kT n b:Nat):Int):=by
 rw[zw n,Cr.kT,au h];exact Cr.zu (n:=17817) (by omega) (by omega)
theorem zy{n:Nat}{b:Bool}(h:(n.testBit 14 != b)=false):bits BinOp.and IntKind.i64 ((n:Int)*2) 32767=((Cr.kT n b:Nat):Int):=by
 rw[zw n,Cr.kT,ai (by rw[h];decide)]
theorem Hw(n c:Nat)(w:World)(hn:n<32768):
  Calls Tryz.prog 216 #[.int .i64 n,.int .i64 c] w λe w'=>e=.returned (.int .i64 (Cr.kW n c:Nat))/\w=w':=by
 go_enter Tryz.func216,Tryz.ntmps216
 go_wp2
 go_loop [0,5,6] (λs i _=>∃j r:Nat,s=.int .i64 (Cr.jD n c j:Nat)/\((r<8/\i=.int .i64 r/\j+r=7)\/(r=8/\i=.int .i64 (-1)/\j=8))) (λ_ i _=>((intOf i)+1).toNat)
 case atStart=>exact⟨0,7,rfl,.inl ⟨by omega,rfl,rfl⟩⟩
 case round=>
  obtain⟨j,r,rfl,hr⟩:=hrel;rcases hr with⟨hr8,rfl,hjr⟩|⟨rfl,rfl,rfl⟩
  ·have hm:=Cr.rW hn c j
   have hj1:j+r<=7:=by omega
   have hj2:7<=j+r:=by omega
   have ht:=zq (Cr.jD n c j) c r hm;have HS:=af (show Cr.jD n c (j+1)=Cr.kT (Cr.jD n c j) (c.testBit r) by rw[Cr.jD,show 7-j=r by omega]);clear hjr;have H1:=λh=>af (zx (n:=Cr.jD n c j) (b:=c.testBit r) h);have H2:=λh=>af (zy (n:=Cr.jD n c j) (b:=c.testBit r) h);have hbb:((Cr.jD n c j).testBit 14 != c.testBit r)=true\/((Cr.jD n c j).testBit 14 != c.testBit r)=false:=by cases ((Cr.jD n c j).testBit 14 != c.testBit r)<;>simp
   rcases hbb with hb|hb
   case' inl=>
    have HV:=af (HS.o▸(H1 hb).o:_=((Cr.jD n c (j+1):Nat):Int));rw[hb,au rfl]at ht
   case' inr=>
    have HV:=af (HS.o▸(H2 hb).o:_=((Cr.jD n c (j+1):Nat):Int));rw[hb,ai (by decide)]at ht
   all_goals
    clear H1 H2 HS hb;generalize Cr.jD n c j=m at *;rcases gF r with h0|h0
    case' inl=>
     subst h0;rw[Int.pow_zero,Int.ediv_one]at ht
    case' inr=>obtain⟨r,rfl⟩:∃r',r=r'+1:=⟨r-1,by omega⟩
    all_goals
     go_wp2
     go_round
     case rel=>first|exact⟨j+1,r,by rw[HV.o],.inl ⟨by omega,by go_num,by omega⟩⟩|exact⟨j+1,8,by rw[HV.o],.inr ⟨rfl,rfl,by omega⟩⟩
     case measure=>simp[intOf];try omega
  ·go_wp2
   go_ret;exact⟨rfl,rfl⟩
end
section
set_option maxHeartbeats 400000
open Go.RowKit
theorem Hy(L:Option Addr)(m C B:Nat)(A:Nat->Option Addr)(N c:Nat->Nat)(z:Nat->Nat->Int)(a:Int)(w:World)
  (h:iY w B L m λi=>.slice (A i) (N i) (c i)) (hrow:∀i,i<m->iY w B (A i) (N i) λk=>.int .u8 (z i k)) (hz:∀i k,i<m->k<N i->0<=z i k/\z i k<256) (hm:m<=maxLen) (hN:∀i,i<m->N i<=maxLen):
  Calls Tryz.prog 191 #[↑a,.slice L m C] w λe w'=>e=.returned ↑(Cr.ou (Cr.sd a) z N m:Nat)/\w=w':=by
 unfold maxLen at hm hN;have hsd:=Cr.zB a;have hand:=Cr.uZ a
 go_enter Tryz.func191,Tryz.ntmps191
 go_wp2;clear hand
 go_loop [5,14] (λs i=>∃k:Nat,k<=m/\i=↑k/\s=↑(Cr.ou (Cr.sd a) z N k:Nat)) (λ_ i=>m-(intOf i).toNat)
 case atStart=>exact⟨0,by omega,rfl,rfl⟩
 case round=>
  obtain⟨i,hi,rfl,rfl⟩:=hrel;by_cases hlt:i<m
  ·obtain⟨b0,off,rfl,hbb,hcell⟩:=h (by omega)
   have hx:w.cell? (b0,off+i)=some (.slice (A i) (N i) (c i)):=hcell i hlt;have hni:=hN i hlt;have hs:=hrow i hlt;have hzi:=λk=>hz i k hlt;have hn:=Cr.Hz hsd z N i;have HS:=af (show Cr.ou (Cr.sd a) z N (i+1)=Cr.sumTo (Cr.ou (Cr.sd a) z N i) (z i) (N i)from rfl);generalize Cr.ou (Cr.sd a) z N i=n at *;clear hcell;go_wp2
   go_loop [5,20] (λs j=>∃k:Nat,k<=N i/\j=↑k/\s=↑(Cr.sumTo n (z i) k:Nat)) (λ_ j=>N i-(intOf j).toNat)
   case atStart=>exact⟨0,by omega,rfl,rfl⟩
   case round=>
    obtain⟨k,hk,rfl,rfl⟩:=hrel;by_cases hlk:k<N i
    ·obtain⟨b1,off1,hA,mK,hcell1⟩:=hs (by omega)
     rw[hA];have hy:w.cell? (b1,off1+k)=some (.int .u8 (z i k)):=hcell1 k hlk;have hzk:=hzi k hlk;obtain⟨x,hxz⟩:=bZ hzk.1;have HK:=af (show Cr.sumTo n (z i) (k+1)=Cr.kW (Cr.sumTo n (z i) k) x by rw[Cr.sumTo,hxz];rfl);rw[hxz]at hy;have hx2:x<256:=by omega
     have hl:=Cr.u6 hn (z i) k;clear hcell1 hA hxz hzk hx;go_wp2_with (go_at_call 216;refine(Hw _ x _ hl).mono ?_;rintro e w' ⟨rfl,rfl⟩)
     go_round
     case rel=>exact⟨k+1,by omega,by go_num,by rw[HK.o]⟩
     case measure=>simp[intOf];omega
    ·obtain rfl:k=N i:=by omega
     go_wp2
     go_round
     case rel=>exact⟨i+1,by omega,by go_num,by rw[HS.o]⟩
     case measure=>simp[intOf];omega
  ·obtain rfl:i=m:=by omega
   go_wp2;go_ret;exact⟨rfl,rfl⟩
theorem Ia(x r:Nat)(hx:x<256):bits BinOp.and IntKind.u8 ((x:Int) / 2^r) 1=bits BinOp.and IntKind.i64 ((x:Int) / 2^r) 1:=by
 have e:((x:Int) / 2^r)=((x / 2^r:Nat):Int):=by
  rw[Int.natCast_ediv,gY];rfl
 have hle:x / 2^r<=x:=gZ _ _;rw[e];generalize x / 2^r=y at *;have h1:bits BinOp.and IntKind.i64 (y:Int) 1=((y%2:Nat):Int):=by
  show IntKind.i64.wrap ((BitVec.ofInt 64 (y:Int) &&& BitVec.ofInt 64 1).toNat:Int)=_;rw[eX,show(BitVec.ofInt 64 1).toNat=2^1-1 by decide,cF,cG,dJ];omega
 have h2:bits BinOp.and IntKind.u8 (y:Int) 1=((y%2:Nat):Int):=by
  have:=u8_and_nat y 1 (by omega) (by omega);rw[show((1:Nat):Int)=1 from rfl]at this;rw[this,Nat.and_one_is_mod]
 rw[h1,h2]
theorem Ib(x r:Nat)(hx:x<256):0<=bits BinOp.and IntKind.u8 ((x:Int) / 2^r) 1/\bits BinOp.and IntKind.u8 ((x:Int) / 2^r) 1<=1:=by
 have e:((x:Int) / 2^r)=((x / 2^r:Nat):Int):=by
  rw[Int.natCast_ediv,gY];rfl
 have hle:x / 2^r<=x:=gZ _ _;rw[e];generalize x / 2^r=y at *;have:=u8_and_nat y 1 (by omega) (by omega);rw[show((1:Nat):Int)=1 from rfl]at this;rw[this,Nat.and_one_is_mod];omega
theorem zC(A:Option Addr)(n c B:Nat)(z:Nat->Int)(a:Int)(w:World)(h:iY w B A n λk=>.int .u8 (z k))(hz:∀k,k<n->0<=z k/\z k<256)(hn:n<=maxLen):
  Calls Tryz.prog 230 #[↑a,.slice A n c] w λe w'=>e=.returned ↑(Cr.sumTo (Cr.sd a) z n:Nat)/\w=w':=by
 unfold maxLen at hn;have hsd:=Cr.zB a;have hand:=Cr.uZ a
 go_enter Tryz.func230,Tryz.ntmps230
 go_wp2;clear hand
 go_loop [5,6] (λs i=>∃k:Nat,k<=n/\i=↑k/\s=↑(Cr.sumTo (Cr.sd a) z k:Nat)) (λ_ i=>n-(intOf i).toNat)
 case atStart=>exact⟨0,by omega,rfl,rfl⟩
 case round=>
  obtain⟨k,hk,rfl,rfl⟩:=hrel;by_cases hlt:k<n
  ·obtain⟨b1,off1,rfl,mK,hcell1⟩:=h (by omega)
   have hy:w.cell? (b1,off1+k)=some (.int .u8 (z k)):=hcell1 k hlt;have hzk:=hz k hlt;obtain⟨x,hxz⟩:=bZ hzk.1;have HK:=af (show Cr.sumTo (Cr.sd a) z (k+1)=Cr.kW (Cr.sumTo (Cr.sd a) z k) x by rw[Cr.sumTo,hxz];rfl);rw[hxz]at hy;have hx2:x<256:=by omega
   have hl:=Cr.u6 hsd z k;have q2:decide (k<n)=true:=by simp;omega
   have q3:(k:Int)<n:=by omega
   generalize Cr.sumTo (Cr.sd a) z k=s at *;clear hcell1 hxz hzk;go_wp2
   go_loop [5,7,8] (λv i _=>∃j r:Nat,v=↑(Cr.jD s x j:Nat)/\((r<8/\i=↑r/\j+r=7)\/(r=8/\i=↑(-1:Int)/\j=8))) (λ_ i _=>((intOf i)+1).toNat)
   case atStart=>exact⟨0,7,rfl,.inl ⟨by omega,rfl,rfl⟩⟩
   case round=>
    obtain⟨j,r,rfl,hr⟩:=hrel;rcases hr with⟨hr8,rfl,hjr⟩|⟨rfl,rfl,rfl⟩
    ·have hm:=Cr.rW hl x j
     have hj1:j+r<=7:=by omega
     have hj2:7<=j+r:=by omega
     have ht:=zq (Cr.jD s x j) x r hm;rw[<-Ia x r hx2]at ht;obtain⟨h80,h81⟩:=Ib x r hx2;have HS:=af (show Cr.jD s x (j+1)=Cr.kT (Cr.jD s x j) (x.testBit r) by rw[Cr.jD,show 7-j=r by omega]);clear hjr;have H1:=λh=>af (zx (n:=Cr.jD s x j) (b:=x.testBit r) h);have H2:=λh=>af (zy (n:=Cr.jD s x j) (b:=x.testBit r) h);have hbb:((Cr.jD s x j).testBit 14 != x.testBit r)=true\/((Cr.jD s x j).testBit 14 != x.testBit r)=false:=by cases ((Cr.jD s x j).testBit 14 != x.testBit r)<;>simp
     rcases hbb with hb|hb
     case' inl=>
      have HV:=af (HS.o▸(H1 hb).o:_=((Cr.jD s x (j+1):Nat):Int));rw[hb,au rfl]at ht
     case' inr=>
      have HV:=af (HS.o▸(H2 hb).o:_=((Cr.jD s x (j+1):Nat):Int));rw[hb,ai (by decide)]at ht
     all_goals
      clear H1 H2 HS hb;generalize Cr.jD s x j=m at *;rcases gF r with h0|h0
      case' inl=>
       subst h0;rw[Int.pow_zero,Int.ediv_one]at ht h80 h81
      case' inr=>obtain⟨r,rfl⟩:∃r',r=r'+1:=⟨r-1,by omega⟩
      all_goals
       go_wp2
       go_round
       case rel=>first|exact⟨j+1,r,by rw[HV.o],.inl ⟨by omega,by go_num,by omega⟩⟩|exact⟨j+1,8,by rw[HV.o],.inr ⟨rfl,rfl,by omega⟩⟩
       case measure=>simp[intOf];try omega
    ·go_wp2
     go_round
     case rel=>exact⟨k+1,by omega,by go_num,by rw[HK.o];rfl⟩
     case measure=>simp[intOf];omega
  ·obtain rfl:k=n:=by omega
   go_wp2;go_ret;exact⟨rfl,rfl⟩
theorem Ic(w:World)(B:Nat)(e:TypeId)(u:Value)(hB:w.heap.size<B)(V:Nat->Value)(hV:V 0=u):iY (w.alloc (.cells #[u] e)) B (some (w,0)) 1 V:=λ_=>
 ⟨_,_,rfl,hB,λk hk=>by
  obtain rfl:k=0:=by omega
  rw[aZ _ _ _ _ rfl,hV]
  rfl⟩
theorem zD(A:Option Addr)(n c:Nat)(z:Nat->Int)(a:Int)(w:World)(e:TypeId)(g:Nat)(hg:g=w.heap.size)(h:iY w w A n λk=>.int .u8 (z k))(hz:∀k,k<n->0<=z k/\z k<256)(hn:n<=maxLen):
  Calls Tryz.prog 191 #[↑a,.slice (some (g,0)) 1 1] (w.alloc (.cells #[.slice A n c] e)) λe' w'=>e'=.returned ↑(Cr.sumTo (Cr.sd a) z n:Nat)/\w.alloc (.cells #[.slice A n c] e)=w':=by
 subst hg;exact Hy _ 1 1 (w.heap.size+1) (λ_=>A) (λ_=>n) (λ_=>c) (λ_=>z) a _ (Ic w _ e _ (by omega) _ rfl) (λi _=>(h.below ((ah _ _).alloc lr _)).more (by omega)) (λi k _ hk=>hz k hk) (by unfold maxLen;omega) (λ_ _=>hn)
end
end Go.Proofs.YteadkhigkmijiaaGreat
