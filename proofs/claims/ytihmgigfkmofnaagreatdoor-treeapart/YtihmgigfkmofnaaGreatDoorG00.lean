import Derived.Test.YtihmgigfkmofnaaGreatDoorProg
import Derived.WalkKit
import Derived.WalkSpells
import Derived.WalkLawsBesides
import Derived.Deep.AppendLies
import Derived.BigQuiet
import Derived.KernelRfl
import Derived.Laws.IdiomStrings
import Derived.Lib.AppendZeros
import Derived.Test.YtihmgigfkmofnaaGreatDoorA0
set_option maxHeartbeats 1000000
set_option maxRecDepth 20000
open Go.Proofs.Tryz
namespace Go.Proofs.YtihmgigfkmofnaaGreatDoor
open Go.RowKit
def dS(l:List UInt8):List Value:=l.map (fun c=>Value.int .u8 (c.toNat:Int))
theorem aY(l:List UInt8):(dS l).length=l.length:=by simp [dS]
theorem jA(a b:List UInt8):dS (a++b)=dS a++dS b:=by simp [dS]
theorem iu(l:List UInt8)(j:Nat)(h:j<l.length):(dS l)[j]?=some (.int .u8 (l[j].toNat:Int)):=by simp [dS,h]
theorem qR(l:List UInt8):∀ u ∈ dS l,u.oneCell'=true:=by
 intro u hu;simp only [dS,List.mem_map] at hu;obtain ⟨c,_,rfl⟩:=hu;rfl
theorem bsize(s:ByteArray):s.data.toList.length=s.size:=by simp
theorem Tryz.info5:(prog.info? 5).map (fun i=>(i.zero,i.size,i.bytes))=some (some (.int .u8 0),1,1):=by kernel_rfl
def dV(l:List ByteArray)(i:Nat):List UInt8:=(l.take i).flatMap (fun c=>c.data.toList)
def fs(l:List ByteArray)(i:Nat):Nat:=2*l.length+(dV l i).length
def dO(l:List ByteArray):Nat:=fs l l.length
def GQ(e:Nat):UInt8:=UInt8.ofNat (e / 256)
def Fa(e:Nat):UInt8:=UInt8.ofNat (e % 256)
def fS(l:List ByteArray):Nat→List UInt8
 | 0=>[]
 | i+1=>fS l i++[GQ (fs l (i+1)),Fa (fs l (i+1))]
def js(l:List ByteArray):List UInt8:=fS l l.length++dV l l.length++List.replicate (4072 - dO l) 0
def gN(l:List ByteArray)(i:Nat):List UInt8:=fS l i++List.replicate (2*(l.length - i)) 0++dV l i++List.replicate (4072 - fs l i) 0
theorem uf(l:List ByteArray):dV l 0=[]:=by simp [dV]
theorem uh(l:List ByteArray)(i:Nat)(h:i<l.length):dV l (i+1)=dV l i++l[i].data.toList:=by
 unfold dV;rw [ay h,aR];simp
theorem pe(l:List ByteArray):fs l 0=2*l.length:=by simp [fs,uf]
theorem mm(l:List ByteArray)(i:Nat)(h:i<l.length):fs l (i+1)=fs l i+l[i].size:=by
 unfold fs;rw [uh l i h,ae,bsize];omega
theorem tj(l:List ByteArray)(i:Nat):∀ j,i≤j→j≤l.length→fs l i≤fs l j:=by
 intro j Ro;induction j with
 | zero =>
  intro _;have:i=0:=by omega
  subst this;exact aj _
 | succ j ih =>
  intro hj;by_cases h:i=j+1
  ·subst h;exact aj _
  ·have h1:=ih (by omega) (by omega)
   have h2:=mm l j (by omega)
   omega
theorem dM(l:List ByteArray)(i:Nat):(fS l i).length=2*i:=by
 induction i with
 | zero=>rfl
 | succ i ih=>simp [fS,ih];omega
theorem rz(l:List ByteArray)(h:dO l≤4072):(js l).length=4072:=by
 have e:dO l=2*l.length+(dV l l.length).length:=rfl;simp only [js,ae,bu,dM];omega
theorem EM(l:List ByteArray)(h:dO l≤4072):gN l 0=List.replicate 4072 0:=by
 have e:dO l=2*l.length+(dV l l.length).length:=rfl;unfold gN;rw [uf,pe,fS,List.nil_append,List.append_nil,List.replicate_append_replicate];congr 1;omega
theorem Hi(l:List ByteArray):gN l l.length=js l:=by
 simp [gN,js,dO]
theorem vC{l:List ByteArray}(h:dO l≤4072){i:Nat}(hi:i≤l.length):fs l i≤4072:=ar (tj l i l.length hi (aj _)) h
theorem Tg(l:List ByteArray)(i:Nat):2*l.length≤fs l i:=by unfold fs;omega
theorem Hh(l:List ByteArray)(i:Nat)(h:dO l≤4072)(hi:i≤l.length):(gN l i).length=4072:=by
 have:=vC h hi;have e:fs l i=2*l.length+(dV l i).length:=rfl;simp only [gN,ae,bu,dM];omega
theorem Ar(e:Nat)(h:e≤4072):(GQ e).toNat=e / 256:=by
 simp [GQ];omega
theorem z8(e:Nat):(Fa e).toNat=e % 256:=by
 simp [Fa]
def zH(b:List UInt8)(i:Nat):Nat:=(b.getD (2*i) 0).toNat*256+(b.getD (2*i+1) 0).toNat
def kY(b:List UInt8)(n:Nat):Nat→Nat
 | 0=>2*n
 | i+1=>zH b i
def Mn(b:List UInt8)(n:Nat):Prop:=(n≤2036∧b.length=4072)∧(∀ i,i<n→kY b n i≤kY b n (i+1)∧kY b n (i+1)≤4072)∧∀ j,kY b n n≤j→j<4072→b.getD j 0=0
def yb(b:List UInt8)(n i:Nat):List UInt8:=(b.drop (kY b n i)).take (kY b n (i+1) - kY b n i)
def bX(b:List UInt8)(n:Nat):List ByteArray:=(List.range n).map fun i=>⟨(yb b n i).toArray⟩
theorem fY(b:List UInt8)(n:Nat):(bX b n).length=n:=by simp [bX]
theorem mZ(b:List UInt8)(n i:Nat)(h:i<(bX b n).length):(bX b n)[i].data.toList=yb b n i:=by simp [bX]
theorem CH(l:List ByteArray)(n:Nat):∀ i,i<n→(fS l n)[2*i]?=some (GQ (fs l (i+1)))∧(fS l n)[2*i+1]?=some (Fa (fs l (i+1))):=by
 induction n with
 | zero=>intro i h;omega
 | succ n ih =>
  intro i h;simp only [fS];by_cases hi:i<n
  ·have:=ih i hi;rw [bA (by rw [dM];omega),bA (by rw [dM];omega)]
   exact this
  ·have:i=n:=by omega
   subst this;rw [a6 (by rw [dM];omega),a6 (by rw [dM];omega),dM]
   simp
theorem NA(l:List ByteArray)(h:dO l≤4072)(i:Nat)(hi:i<l.length):zH (js l) i=fs l (i+1):=by
 have hg:=CH l l.length i hi;have hl:=dM l l.length;have h1:=vC h (show i+1≤l.length by omega)
 unfold zH js;rw [aJ,aJ,ax,bA (by omega),bA (by omega),hg.1,hg.2]
 simp only [lP];rw [Ar _ h1,z8];omega
theorem oF(l:List ByteArray)(h:dO l≤4072):∀ i,i≤l.length→kY (js l) l.length i=fs l i
 | 0,_=>by rw [pe];rfl
 | i+1,hi=>NA l h i (by omega)
theorem G1(l:List ByteArray)(i:Nat)(h:i<l.length):dV l l.length=dV l i++(l[i].data.toList++(l.drop (i+1)).flatMap (fun c=>c.data.toList)):=by
 unfold dV;rw [al (aj _)];have hd:l.drop i=l[i]::l.drop (i+1):=aZ h;have hs:l.flatMap (fun c=>c.data.toList)=(l.take i).flatMap (fun c=>c.data.toList)++(l.drop i).flatMap (fun c=>c.data.toList):=by rw [← aR,aH]
 rw [hs,hd,List.flatMap_cons]
theorem ql(l:List ByteArray)(h:dO l≤4072):Mn (js l) l.length:=by
 have e:dO l=2*l.length+(dV l l.length).length:=rfl;refine ⟨⟨by omega,rz l h⟩,fun i hi=>?_,fun j hj h'=>?_⟩
 ·rw [oF l h i (by omega),oF l h (i+1) (by omega)]
  exact ⟨tj l i (i+1) (by omega) (by omega),vC h (by omega)⟩
 ·rw [oF l h _ (aj _)] at hj;have lL:dO l≤j:=hj;unfold js;rw [aJ,a6 (by rw [ae,dM];omega)]
  rw [List.getElem?_replicate];split <;> rfl
theorem OL(l:List ByteArray)(h:dO l≤4072)(i:Nat)(hi:i<l.length):yb (js l) l.length i=l[i].data.toList:=by
 unfold yb;rw [oF l h i (by omega),oF l h (i+1) (by omega),mm l i hi]
 unfold js;rw [G1 l i hi,← ax,ax (fS l l.length++dV l i)];have e:fs l i=(fS l l.length++dV l i).length:=by rw [ae,dM];rfl
 rw [ic (by omega),e,List.drop_length,List.nil_append,ax]
 rw [aF (by rw [bsize];omega),al (by rw [bsize];omega)]
theorem AE(l:List ByteArray)(h:dO l≤4072):bX (js l) l.length=l:=by
 refine lR (fY _ _) (fun i h1 h2=>?_)
 have:=mZ (js l) l.length i h1;rw [OL l h i h2] at this;have:(bX (js l) l.length)[i].data=l[i].data:=Array.toList_inj.1 this;exact congrArg ByteArray.mk this
theorem Jk{b:List UInt8}{n:Nat}(h:Mn b n):∀ i,i≤n→kY b n i≤4072
 | 0,_=>by have:=h.1.1;simp only [kY];omega
 | i+1,hi=>(h.2.1 i (by omega)).2
theorem L4{b:List UInt8}{n:Nat}(h:Mn b n)(i:Nat)(hi:i<n):(yb b n i).length=kY b n (i+1) - kY b n i:=by
 have h1:=Jk h (i+1) (by omega)
 unfold yb;rw [ag,ao,h.1.2];omega
abbrev Pr:=ByteArray × ByteArray
def zD(p:Pr):Nat:=5+p.1.size+p.2.size
def fR(l:List Pr):Nat:=(l.map zD).sum
def cO(p:Pr):Bool:=decide (1≤p.1.size∧p.1.size≤255∧p.2.size≤700)
theorem eL{p:Pr}(h:cO p=true):1≤p.1.size∧p.1.size≤255∧p.2.size≤700:=by simpa [cO] using h
def cR(a b:ByteArray):Bool:=Op.bytesLess a.toList b.toList
def gP(l:List Pr):Prop:=∀ i (h:i+1<l.length),cR l[i].1 l[i+1].1=true
theorem qT:fR []=0:=rfl
theorem nV(p:Pr)(l:List Pr):fR (p::l)=zD p+fR l:=by simp [fR]
theorem iB(a b:List Pr):fR (a++b)=fR a+fR b:=by simp [fR]
theorem yI(l:List Pr)(k:Nat)(h:k<l.length):fR (l.take (k+1))=fR (l.take k)+zD l[k]:=by
 rw [ay h,iB];simp [fR]
theorem iw(l:List Pr):5*l.length≤fR l:=by
 induction l with
 | nil=>simp
 | cons p l ih=>rw [nV,List.length_cons];unfold zD;omega
theorem BM(x:List UInt8):Op.bytesLess x x=false:=by
 induction x with
 | nil=>rfl
 | cons a x ih=>simp [Op.bytesLess,ih]
theorem uB:∀ (x y z:List UInt8),Op.bytesLess x y=true→Op.bytesLess y z=true→Op.bytesLess x z=true
 | _,[],_,h,_=>by simp [Op.bytesLess] at h
 | _,_::_,[],_,h=>by simp [Op.bytesLess] at h
 | [],_::_,_::_,_,_=>by simp [Op.bytesLess]
 | a::x,b::y,c::z,h1,h2=>by
  simp only [Op.bytesLess,Bool.or_eq_true,decide_eq_true_eq,cz,beq_iff_eq] at *;rcases h1 with h1 | ⟨rfl,h1⟩
  ·rcases h2 with h2 | ⟨rfl,h2⟩
   ·exact .inl (UInt8.lt_trans h1 h2)
   ·exact .inl h1
  ·rcases h2 with h2 | ⟨rfl,h2⟩
   ·exact .inl h2
   ·exact .inr ⟨rfl,uB x y z h1 h2⟩
theorem uC:∀ (x y:List UInt8),Op.bytesLess x y=false→Op.bytesLess y x=false→x=y
 | [],[],_,_=>rfl
 | [],_::_,h,_=>by simp [Op.bytesLess] at h
 | _::_,[],_,h=>by simp [Op.bytesLess] at h
 | a::x,b::y,h1,h2=>by
  simp only [Op.bytesLess,Bool.or_eq_false_iff,decide_eq_false_iff_not,Bool.and_eq_false_imp,beq_iff_eq] at *;have Cb:a=b:=by
   have:=UInt8.not_lt.1 h1.1;have:=UInt8.not_lt.1 h2.1;exact UInt8.le_antisymm ‹_› ‹_›
  subst Cb;rw [uC x y (h1.2 rfl) (h2.2 rfl)]
theorem mR(a:ByteArray):cR a a=false:=BM _
theorem dh{a b c:ByteArray}(h1:cR a b=true)(h2:cR b c=true):cR a c=true:=uB _ _ _ h1 h2
theorem hO{x y:ByteArray}(h:x.data.toList=y.data.toList):x=y:=by
 have:x.data=y.data:=Array.toList_inj.1 h;exact congrArg ByteArray.mk this
theorem ma{a b:ByteArray}(h1:cR a b=false)(h2:cR b a=false):a=b:=by
 have:=uC _ _ h1 h2;rw [ByteArray.toList_eq,ByteArray.toList_eq] at this;exact hO this
theorem mc{a b:ByteArray}(h:cR a b=true):cR b a=false:=by
 cases h':cR b a
 ·rfl
 ·have:=dh h h';rw [mR] at this;cases this
theorem gP.lt{l:List Pr}(h:gP l)(i:Nat):∀ j (hj:j<l.length) (Ro:i<j),cR (l[i]'(by omega)).1 l[j].1=true:=by
 intro j;induction j with
 | zero=>intro _ h;omega
 | succ j ih =>
  intro hj Ro;by_cases he:i=j
  ·subst he;exact h i hj
  ·exact dh (ih (by omega) (by omega)) (h j hj)
theorem CQ:gP []:=fun i h=>by simp at h
theorem gP.take{l:List Pr}(h:gP l)(k:Nat):gP (l.take k):=fun i hi=>by
 rw [ag] at hi;simp only [bK];exact h i (by omega)
theorem gP.drop{l:List Pr}(h:gP l)(k:Nat):gP (l.drop k):=fun i hi=>by
 rw [ao] at hi;simp only [cW];exact h (k+i) (by omega)
theorem Kd{l:List Pr}(p:Pr):gP (l++[p])↔gP l∧∀ (h:0<l.length),cR (l[l.length - 1]'(by omega)).1 p.1=true:=by
 constructor
 ·intro h;refine ⟨fun i hi=>?_,fun h0=>?_⟩
  ·have:=h i (by simp;omega)
   rwa [aI (by omega),aI (by omega)] at this
  ·have:=h (l.length - 1) (by simp;omega)
   rw [aI (by omega)] at this
   have e:(l++[p])[l.length - 1+1]'(by simp;omega)=p:=by
    simp only [show l.length - 1+1=l.length by omega];simp
   rwa [e] at this
 ·rintro ⟨h1,h2⟩ i hi;simp only [ae,aP] at hi;by_cases he:i+1<l.length
  ·rw [aI (by omega),aI (by omega)]
   exact h1 i he
  ·have e:i=l.length - 1:=by omega
   have h0:0<l.length:=by omega
   rw [aI (by omega)]
   have e2:(l++[p])[i+1]'(by simp;omega)=p:=by
    simp only [show i+1=l.length by omega];simp
   rw [e2];simp only [e];exact h2 h0
instance (l:List Pr):Decidable (gP l):=decidable_of_iff (∀ i:Fin l.length,∀ h:i.1+1<l.length,cR l[i.1].1 l[i.1+1].1=true) ⟨fun h i hi=>h ⟨i,by omega⟩ hi,fun h i hi=>h i.1 hi⟩
def zh(l:List Pr)(root:Bool):Option Nat :=
 if l.all cO=false then some 0
 else if ¬ gP l then some 11
 else if 4072<fR l then some 2
 else if l=[]∨root=false∧fR l<1556 then some 3
 else none
theorem rQ{l:List Pr}{root:Bool}(h:zh l root=none):(∀ p ∈ l,cO p=true)∧gP l∧fR l≤4072∧l≠[]∧(root=false→1556≤fR l):=by
 unfold zh at h;split at h
 ·cases h
 ·rename_i h1
  split at h
  ·cases h
  ·rename_i h2
   split at h
   ·cases h
   ·rename_i h3
    split at h
    ·cases h
    ·rename_i h4
     refine ⟨fun p hp=>?_,Classical.not_not.1 h2,by omega,fun e=>h4 (.inl e),fun hr=>?_⟩
     ·have:l.all cO=true:=by cases h:l.all cO <;> simp_all
      exact List.all_eq_true.1 this p hp
     ·rcases bg (fR l) 1556 with h' | h'
      ·exact absurd (.inr ⟨hr,h'⟩) h4
      ·exact h'
def aN(l:List Pr)(key:ByteArray):Nat:=l.findIdx (fun p=>!cR p.1 key)
def bf(l:List Pr)(key:ByteArray):Bool:=match l[aN l key]? with | some p=>decide (p.1=key) | none=>false
def de(l:List Pr)(key:ByteArray):Nat:=if bf l key then aN l key+1 else aN l key
def fl(l:List Pr)(key value:ByteArray):List Pr:=l.take (aN l key)++(key,value)::l.drop (de l key)
def fQ(l:List Pr)(key:ByteArray):List Pr:=l.take (aN l key)++l.drop (de l key)
theorem cD(l:List Pr)(key:ByteArray):aN l key≤l.length:=List.findIdx_le_length
theorem lF(l:List Pr)(key:ByteArray)(j:Nat)(h:j<aN l key)(hj:j<l.length):cR l[j].1 key=true:=by
 have:=List.not_of_lt_findIdx h;simpa using this
theorem rO(l:List Pr)(key:ByteArray)(h:aN l key<l.length):cR l[aN l key].1 key=false:=by
 have:=List.findIdx_getElem (xs:=l) (p:=fun q:Pr=>!cR q.1 key) (w:=h)
 simp only [Bool.not_eq_true'] at this;exact this
theorem rN{l:List Pr}{key:ByteArray}{k:Nat}(hk:k<l.length)(h1:∀ j (hj:j<k),cR (l[j]'(by omega)).1 key=true)(h2:cR l[k].1 key=false):aN l key=k:=by
 rcases Nat.lt_trichotomy (aN l key) k with h | h | h
 ·have:=rO l key (by omega)
  rw [h1 _ h] at this;cases this
 ·exact h
 ·have:=lF l key k h hk;rw [h2] at this;cases this
theorem qy{l:List Pr}{key:ByteArray}(h1:∀ j (hj:j<l.length),cR l[j].1 key=true):aN l key=l.length:=by
 rcases bg (aN l key) l.length with h | h
 ·have:=rO l key h;rw [h1 _ h] at this;cases this
 ·have:=cD l key;omega
theorem pd{l:List Pr}{key:ByteArray}(h:aN l key<l.length):bf l key=decide (l[aN l key].1=key):=by
 unfold bf;rw [af h]
theorem oD{l:List Pr}{key:ByteArray}(h:¬ aN l key<l.length):bf l key=false:=by
 unfold bf;rw [bD (by omega)]
theorem gw{l:List Pr}{key:ByteArray}(h:bf l key=true):aN l key<l.length:=by
 rcases bg (aN l key) l.length with h' | h'
 ·exact h'
 ·rw [oD (by omega)] at h;cases h
theorem jJ(l:List Pr)(key:ByteArray):de l key≤l.length:=by
 unfold de;split
 ·rename_i h;exact gw h
 ·exact cD _ _
theorem eN(l:List Pr)(key:ByteArray):aN l key≤de l key:=by
 unfold de;split <;> omega
def Boxed(b:Nat)(cs:List Value)(w:World):Prop:=b<w.heap.size∧∀ j (h:j<cs.length),w.cell? ⟨b,j,none⟩=some cs[j]
theorem Boxed.below{b:Nat}{cs:List Value}{w w':World}(h:Boxed b cs w)(hb:Below w.heap.size w w'):Boxed b cs w' :=
 ⟨aq h.1 hb.size,fun j hj=>(hb.cell (p:=⟨b,j,none⟩) h.1).trans (h.2 j hj)⟩
theorem bL(w:World)(cs:Array Value)(t:TypeId):Boxed w.heap.size cs.toList (w.alloc (.cells cs t)):=by
 refine ⟨by simp,fun j hj=>?_⟩
 have h:(w.alloc (.cells cs t)).heap[w.heap.size]?=some (.cells cs t (0,0)):=heap_alloc_new w _;rw [cell_of_row _ w.heap.size j cs t (0,0) h];simp only [Array.length_toList] at hj;simp [hj]
theorem ai(w:World)(o:Obj):Below w.heap.size w (w.alloc o):=(Below.refl _ _).alloc (aj _) o
theorem Below.next{a b c:World}(h:Below a.heap.size a b)(k:Below b.heap.size b c):Below a.heap.size a c:=h.trans (k.mono h.size)
theorem IA{k:IntKind}{a b:Int}(h:a=b):Ending.returned (.int k a) = .returned (.int k b):=by rw [h]
theorem aA{B:Nat}{a w:World}(h:Below B a w)(n:Nat):Below B a (w.drewN n):=⟨h.os,h.tape,h.output,h.size,h.block⟩
theorem ab{p:Prop}(h:p):Hid p:=h
def ni(w:World)(v:Value)(us:List Value):Prop:=∃ a cap,v = .slice a us.length cap∧us.length≤cap∧(a=none→cap=0)∧∀ j u,us[j]?=some u→∃ g o,a=some ⟨g,o,none⟩∧w.cell? ⟨g,o+j,none⟩=some u
theorem ni.below{w w':World}{v:Value}{us:List Value}(h:ni w v us)(hb:Below w.heap.size w w'):ni w' v us:=by
 obtain ⟨a,cap,rfl,hle,hn,hc⟩:=h;refine ⟨a,cap,rfl,hle,hn,fun j u hj=>?_⟩
 obtain ⟨g,o,ha,bh⟩:=hc j u hj;exact ⟨g,o,ha,(hb.cell (p:=⟨g,o+j,none⟩) (World.block_lt_of_cell? w _ bh)).trans bh⟩
theorem fT{w:World}{base e n:Nat}{v:Value}{us:List Value}(h:w.ownsRow base e 1 v n us):ni w v us:=by
 have hl:=h.1;rw [Nat.mul_one] at hl;rcases h.2 with ⟨rfl,hn⟩ | ⟨g,cap,cur,rfl,hb,hg,B4,sf,fH,mH⟩
 ·have h0:us.length=0:=by omega
  exact ⟨none,0,by rw [h0],by omega,fun _=>rfl,fun j u hj=>by rw [List.length_eq_zero_iff.1 h0] at hj;simp at hj⟩
 ·refine ⟨some ⟨g,0,none⟩,cap,by rw [hl],by omega,fun h=>(by cases h),fun j u hj=>⟨g,0,rfl,?_⟩⟩
  have lL:=(List.getElem?_eq_some_iff.1 hj).1;rw [Nat.zero_add,h.cellAt j (by omega)];exact hj
theorem ni.take{w:World}{a:Option Addr}{n m cap:Nat}{us:List Value}(h:ni w (.slice a n cap) us)(hm:m≤n):ni w (.slice a m cap) (us.take m):=by
 obtain ⟨a',eS,he,hle,hn,hc⟩:=h;cases he;refine ⟨a,cap,by rw [ag,a7 hm],by rw [ag];omega,hn,fun j u hj=>hc j u ?_⟩
 rw [cH] at hj;split at hj
 ·exact hj
 ·cases hj
theorem bz(b o c:Nat):(⟨b,o,none⟩ : Addr).add c=⟨b,o+c,none⟩:=by
 unfold Addr.add;split
 ·rename_i h;rw [h,Nat.add_zero]
 ·rfl
theorem nh(t e:TypeId)(z:Value)(bytes:Nat)(ZB:(prog.info? e).map (fun i=>(i.zero,i.size,i.bytes))=some (some z,1,bytes))(ht:prog.underlying t=some (.slice e))(mG:z.cells.size=1)(base n:Nat)(v:Value)(xs:List Value)(w:World)(aE:w.ownsRow base e 1 v n xs)(s:Value)(us:List Value)(hs:ni w s us)(h1:∀ u ∈ us,u.oneCell'=true)(hb:(n+us.length)*bytes≤140737488355328)(aL:1≤bytes)(du:base≤w.heap.size):∃ a' eS w',(Builtin.append_ #[t,t] t #[v,s]).run prog w = .ok (.slice a' (n+us.length) eS) w'∧w'.ownsRow base e 1 (.slice a' (n+us.length) eS) (n+us.length) (xs++us)∧w.grownBy w' v.ownBlock:=by
 obtain ⟨i0,hi,hz,b7,kF⟩:=info_parts ZB;obtain ⟨a,cap,rfl,hle,qu,hc⟩:=hs;cases a with
 | none =>
  have h0:us=[]:=by
   cases us with
   | nil=>rfl
   | cons u r=>obtain ⟨g,o,he,_⟩:=hc 0 u rfl;cases he
  subst h0;rw [qu rfl];have hr:=run_append_owned_none (P:=prog) w base t t e i0 1 ht hi v n xs aE;have hf:∃ a' c',v = .slice a' n c':=by
   rcases aE.2 with ⟨rfl,rfl⟩ | ⟨g,cap,cur,rfl,_⟩
   ·exact ⟨_,_,rfl⟩
   ·exact ⟨_,_,rfl⟩
  obtain ⟨a',c',rfl⟩:=hf;exact ⟨a',c',w,hr,by rw [List.append_nil];exact aE,⟨rfl,rfl,rfl,aj _,fun _ _ _=>rfl⟩⟩
 | some ad =>
  have hB:(n+us.length)*1≤(n+us.length)*bytes:=Nat.mul_le_mul_left _ aL;obtain ⟨v',w',hr,gi,As,_⟩:=run_append_own (P:=prog) w base t t e i0 z 1 bytes ht hi hz b7 kF mG (by decide) v n xs aE ad us.length cap us (by rw [Nat.mul_one]) (fun j u hj=>by
   obtain ⟨g,o,he,bh⟩:=hc j u hj;cases he;rw [bz];exact bh) h1 (by unfold maxLen;omega) hb du
  have hf:∃ a' c',v' = .slice a' (n+us.length) c':=by
   rcases gi.2 with ⟨rfl,h0⟩ | ⟨g,cap,cur,rfl,_⟩
   ·exact ⟨none,0,by rw [h0]⟩
   ·exact ⟨_,_,rfl⟩
  obtain ⟨a',c',rfl⟩:=hf;exact ⟨a',c',w',hr,gi,As⟩
theorem wpList_append_run{ops:Array Oper}{rest:List Oper}{o:Oper}{a:Act}{w:World}{Q:Exit→Act→World→Prop}(t:TypeId)(nx:o.guard=none)(d x:Operand)
  (ho:o.op = .call { callee:=.builtin .append,args:=#[d,x],argTypes:=#[t,t] }) (yS:o.type=t) (vd vx:Value) (hd:a.eval d=vd) (hx:a.eval x=vx) (v:Value) (w':World)
  (bn:(Builtin.append_ #[t,t] t #[vd,vx]).run prog w = .ok v w') (h:wpList prog ops Q rest (a.put o.dst v) w'):wpList prog ops Q (o::rest) a w :=
 wpList_plain nx fun _ hK=>by
  unfold Oper.wp;simp [execOp,ho,resolve,invoke,builtin,hd,hx,yS,bn,Result.andThen]
  exact hK _ _ h
def ints(l:List Int):List Value:=l.map (Value.int .i64)
theorem jW(l:List Int):(ints l).length=l.length:=by simp [ints]
theorem OQ(l:List Int)(j:Nat)(h:j<l.length):(ints l)[j]?=some (.int .i64 l[j]):=by simp [ints,h]
theorem ox(a b:List Int):ints (a++b)=ints a++ints b:=by simp [ints]
theorem info3:(prog.info? 3).map (fun i=>(i.zero,i.size,i.bytes))=some (some (.int .i64 0),1,8):=by kernel_rfl
def iy(l:List Pr):List Value:=l.flatMap fun p=>[.string p.1,.string p.2]
theorem CY(p:Pr)(l:List Pr):iy (p::l) = .string p.1::.string p.2::iy l:=by simp [iy]
theorem wH(a b:List Pr):iy (a++b)=iy a++iy b:=by simp [iy]
theorem eI(l:List Pr):(iy l).length=l.length*2:=by
 induction l with
 | nil=>rfl
 | cons p l ih=>rw [CY];simp [ih];omega
theorem vg(l:List Pr):∀ j (h:j<l.length),(iy l)[j*2]?=some (.string l[j].1)∧(iy l)[j*2+1]?=some (.string l[j].2):=by
 induction l with
 | nil=>intro j h;simp at h
 | cons p l ih =>
  intro j h;rw [CY];cases j with
  | zero=>exact ⟨rfl,rfl⟩
  | succ j =>
   have:=ih j (by simpa using h)
   rw [show (j+1)*2=j*2+1+1 by omega]
   simpa using this
theorem R8(l:List Pr):∀ u ∈ iy l,u.oneCell'=true:=by
 intro u hu;simp only [iy,lQ] at hu;obtain ⟨p,_,h⟩:=hu;simp at h
 rcases h with rfl | rfl <;> rfl
theorem I3:(prog.info? 52).map (fun i=>(i.zero,i.size,i.bytes))=some (some (.agg #[.string ByteArray.empty,.string ByteArray.empty]),2,32):=by kernel_rfl
def TL(l:List Pr):Prop:=∀ p ∈ l,p.1.size≤140737488355328∧p.2.size≤140737488355328
def gG(w:World)(v:Value)(l:List Pr):Prop:=∃ a cap,v = .slice a l.length cap∧l.length≤cap∧(a=none→cap=0) ∧
 ∀ j (h:j<l.length),∃ g o,a=some ⟨g,o,none⟩∧w.cell? ⟨g,o+j*2,none⟩=some (.string l[j].1)∧w.cell? ⟨g,o+j*2+1,none⟩=some (.string l[j].2)
theorem gG.below{w w':World}{v:Value}{l:List Pr}(h:gG w v l)(hb:Below w.heap.size w w'):gG w' v l:=by
 obtain ⟨a,cap,rfl,hle,hn,hc⟩:=h;refine ⟨a,cap,rfl,hle,hn,fun j hj=>?_⟩
 obtain ⟨g,o,ha,h1,h2⟩:=hc j hj;exact ⟨g,o,ha,(hb.cell (p:=⟨g,o+j*2,none⟩) (World.block_lt_of_cell? w _ h1)).trans h1,(hb.cell (p:=⟨g,o+j*2+1,none⟩) (World.block_lt_of_cell? w _ h2)).trans h2⟩
theorem gG.form{w:World}{v:Value}{l:List Pr}(h:gG w v l):∃ a c,v = .slice a l.length c:=by
 obtain ⟨a,c,rfl,_⟩:=h;exact ⟨a,c,rfl⟩
theorem gG.rn{w:World}{base n:Nat}{v:Value}{l:List Pr}(h:w.ownsRow base 52 2 v n (iy l)):gG w v l:=by
 have hl:=h.1;rw [eI] at hl;have hl:l.length=n:=by omega
 rcases h.2 with ⟨rfl,hn⟩ | ⟨g,cap,cur,rfl,hb,hg,B4,sf,fH,mH⟩
 ·have h0:l.length=0:=by omega
  exact ⟨none,0,by rw [h0],by omega,fun _=>rfl,fun j hj=>by omega⟩
 ·refine ⟨some ⟨g,0,none⟩,cap,by rw [hl],by omega,fun h=>(by cases h),fun j hj=>⟨g,0,rfl,?_,?_⟩⟩
  ·rw [Nat.zero_add,h.cellAt (j*2) (by omega)];exact (vg l j hj).1
  ·rw [Nat.zero_add,h.cellAt (j*2+1) (by omega)];exact (vg l j hj).2
theorem gG.take{w:World}{a:Option Addr}{n m cap:Nat}{l:List Pr}(h:gG w (.slice a n cap) l)(hm:m≤n):gG w (.slice a m cap) (l.take m):=by
 obtain ⟨a',eS,he,hle,hn,hc⟩:=h;cases he;refine ⟨a,cap,by rw [ag,a7 hm],by rw [ag];omega,hn,fun j hj=>?_⟩
 rw [ag] at hj;obtain ⟨g,o,ha,h1,h2⟩:=hc j (by omega)
 exact ⟨g,o,ha,by rw [bK];exact h1,by rw [bK];exact h2⟩
theorem gG.nil(w:World):gG w (.slice none 0 0) []:=⟨none,0,rfl,aj _,fun _=>rfl,fun j h=>by simp at h⟩
def pK(n:Nat):Int:=IntKind.i64.wrap (n:Int)
theorem AR(a b:Nat):IntKind.i64.wrap (pK a+(b:Int))=pK (a+b):=by
 unfold pK;rw [IntKind.wrap_i64,IntKind.wrap_i64,IntKind.wrap_i64];omega
theorem kI{n:Nat}(h:n≤4611686018427387904):pK n=(n:Int):=by
 unfold pK;rw [IntKind.wrap_i64];omega
theorem tS(p:Pr)(w:World)(h1:p.1.size≤140737488355328)(h2:p.2.size≤140737488355328):Calls prog 201 #[.agg #[.string p.1,.string p.2]] w fun e w'=>e = .returned (.int .i64 (zD p:Int))∧Below w.heap.size w w':=by
 have eU:=ai w (.cells #[.string p.1,.string p.2] 52);have vw:IntKind.i64.wrap (5+(p.1.size:Int))=5+(p.1.size:Int):=by rw [IntKind.wrap_i64];omega
 have Q6:IntKind.i64.wrap (5+(p.1.size:Int)+(p.2.size:Int))=(zD p:Int):=by rw [IntKind.wrap_i64];unfold zD;omega
 go_enter func201,ntmps201;go_wp2;go_ret;exact ⟨rfl,eU⟩
theorem z7(v:Value)(l:List Pr)(w:World)(cN:TL l)(hm:l.length≤140737488355328)(hr:gG w v l):Calls prog 161 #[v] w fun e w'=>e = .returned (.int .i64 (pK (fR l)))∧Below w.heap.size w w':=by
 obtain ⟨a,cap,rfl,dd,_,hc⟩:=hr;have HC:=ab hc;obtain ⟨n,hn⟩ : ∃ n,n=l.length:=⟨_,rfl⟩;rw [← hn] at hm ⊢;have HN:=ab hn;have pw:=ab cN;clear hc hn dd cN;go_enter func161,ntmps161;go_wp2;go_loopw [3,8] (fun r i wr=>∃ k:Nat,k≤n∧i = .int .i64 k∧r = .int .i64 (pK (fR (l.take k)))∧Below w.heap.size w wr) (fun _ i _=>n - (intOf i).toNat)
 case atStart=>exact ⟨0,aD _,rfl,rfl,Below.refl _ _⟩
 case round =>
  obtain ⟨k,hk,rfl,rfl,bO⟩:=hrel;by_cases bN:k<n
  ·have cL:k<l.length:=by have:=HN.out;omega
   obtain ⟨g,o,rfl,f1,f2⟩:=HC.out k cL;have c1:wr.cell? ⟨g,o+k*2,none⟩=some (.string l[k].1):=(bO.cell (p:=⟨g,o+k*2,none⟩) (World.block_lt_of_cell? w _ f1)).trans f1;have c2:wr.cell? ⟨g,o+k*2+1,none⟩=some (.string l[k].2):=(bO.cell (p:=⟨g,o+k*2+1,none⟩) (World.block_lt_of_cell? w _ f2)).trans f2;have Ao:=pw.out l[k] (aG _);have yR:IntKind.i64.wrap (pK (fR (l.take k))+(zD l[k] : Int))=pK (fR (l.take (k+1))):=by rw [AR,← yI l k cL]
   obtain ⟨p,hp⟩ : ∃ p,p=l[k]:=⟨_,rfl⟩;rw [← hp] at c1 c2 yR Ao;have HZ:=ab (fun W=>tS p W Ao.1 Ao.2)
   obtain ⟨x,hx⟩ : ∃ x,x=pK (fR (l.take k)):=⟨_,rfl⟩;obtain ⟨y,hy⟩ : ∃ y,y=pK (fR (l.take (k+1))):=⟨_,rfl⟩;obtain ⟨z,hz⟩ : ∃ z,z=zD p:=⟨_,rfl⟩;rw [← hx,← hy,← hz] at yR;rw [← hx];rw [← hz] at HZ;have HY:=ab hy;have dP:(k:Int)<(n:Int):=by omega
   have HB:=ab (Below.next bO (ai wr (.cells #[.string p.1,.string p.2] 52)));clear hp hx hy hz HC f1 f2 bO Ao;go_wp2_with fail;refine (HZ.out _).mono ?_
   rintro e w1 ⟨rfl,aL⟩;have bP:=ab (Below.next HB.out aL);clear aL HB HZ c1 c2;go_wp2;go_roundw
   case rel=>exact ⟨k+1,by omega,by go_num,by rw [← HY.out],bP.out⟩
   case measure=>simp [intOf];omega
  ·have df:l.take k=l:=by rw [al];have:=HN.out;omega
   rw [df];have HB:=ab bO;have dP:¬ (k:Int)<(n:Int):=by omega
   obtain ⟨x,hx⟩ : ∃ x,x=pK (fR l):=⟨_,rfl⟩;rw [← hx];have HX:=ab hx;clear HC bO df hx;go_wp2;go_ret;exact ⟨by rw [← HX.out];rfl,HB.out⟩
namespace B
abbrev Lk:=ByteArray × Int
def yu(p:Lk):Nat:=7+p.1.size
def jM(l:List Lk):Nat:=6+(l.map yu).sum
def fX(n:Int):Bool:=decide (2≤n∧n<1048576)
def gy(p:Lk):Bool:=decide (1≤p.1.size∧p.1.size≤255∧2≤p.2∧p.2<1048576)
theorem kV{p:Lk}(h:gy p=true):1≤p.1.size∧p.1.size≤255∧2≤p.2∧p.2<1048576:=by simpa [gy] using h
def nz(l:List Lk):Prop:=∀ i (h:i+1<l.length),cR l[i].1 l[i+1].1=true
instance (l:List Lk):Decidable (nz l):=decidable_of_iff (∀ i:Fin l.length,∀ h:i.1+1<l.length,cR l[i.1].1 l[i.1+1].1=true) ⟨fun h i hi=>h ⟨i,by omega⟩ hi,fun h i hi=>h i.1 hi⟩
def kids(f:Int)(l:List Lk):List Int:=f::l.map (·.2)
theorem rD(f:Int)(l:List Lk):(kids f l).length=l.length+1:=by simp [kids]
theorem Im:jM []=6:=rfl
theorem FK(a b:List Lk):jM (a++b)+6=jM a+jM b:=by simp [jM];omega
theorem nX(p:Lk)(l:List Lk):jM (p::l)=yu p+jM l:=by simp [jM];omega
theorem yJ(l:List Lk)(k:Nat)(h:k<l.length):jM (l.take (k+1))=jM (l.take k)+yu l[k]:=by
 have e:=FK (l.take k) [l[k]];rw [ay h];have:jM [l[k]]=yu l[k]+6:=by rw [nX,Im]
 omega
theorem qU(l:List Lk):7*l.length+6≤jM l:=by
 induction l with
 | nil=>simp [jM]
 | cons p l ih=>rw [nX,List.length_cons];unfold yu;omega
theorem RO{l:List Lk}(h:l.all gy=true):jM l≤262*l.length+6:=by
 induction l with
 | nil=>simp [jM]
 | cons p l ih =>
  simp only [List.all_cons,cz] at h;have h1:=kV h.1;have h2:=ih h.2;rw [nX,List.length_cons];unfold yu;omega
def mX(f:Int)(l:List Lk)(root:Bool):Option Nat :=
 if l=[] then some 3
 else if (fX f && l.all gy)=false then some 0
 else if ¬ nz l then some 11
 else if ¬ (kids f l).Nodup then some 4
 else if 4072<jM l then some 2
 else if root=false∧jM l<1777 then some 3
 else none
theorem kN{f:Int}{l:List Lk}{root:Bool}(h:mX f l root=none):l≠[]∧fX f=true∧(∀ p ∈ l,gy p=true)∧nz l∧(kids f l).Nodup∧jM l≤4072∧(root=false→1777≤jM l):=by
 unfold mX at h;split at h
 ·cases h
 ·rename_i h0
  split at h
  ·cases h
  ·rename_i h1
   split at h
   ·cases h
   ·rename_i h2
    split at h
    ·cases h
    ·rename_i h3
     split at h
     ·cases h
     ·rename_i h4
      split at h
      ·cases h
      ·rename_i h5
       have Jf:fX f=true∧l.all gy=true:=by
        cases hc:fX f <;> cases ha:l.all gy <;> simp_all
       refine ⟨h0,Jf.1,List.all_eq_true.1 Jf.2,Classical.not_not.1 h2,Classical.not_not.1 h3,by omega,fun hr=>?_⟩
       rcases bg (jM l) 1777 with h' | h'
       ·exact absurd ⟨hr,h'⟩ h5
       ·exact h'
def dF(l:List Lk)(i:Nat)(p:Lk):List Lk:=l.take i++p::l.drop i
def cA(l:List Lk)(i:Nat):List Lk:=l.take i++l.drop (i+1)
def iR(a:List Lk)(key:ByteArray)(f:Int)(b:List Lk):List Lk:=a++(key,f)::b
def a8(l:List Lk):List Value:=l.flatMap fun p=>[.string p.1,.int .i64 p.2]
theorem eu(p:Lk)(l:List Lk):a8 (p::l) = .string p.1::.int .i64 p.2::a8 l:=by simp [a8]
theorem cZ(a b:List Lk):a8 (a++b)=a8 a++a8 b:=by simp [a8]
theorem aS(l:List Lk):(a8 l).length=l.length*2:=by
 induction l with
 | nil=>rfl
 | cons p l ih=>rw [eu];simp [ih];omega
theorem fw(l:List Lk):∀ j (h:j<l.length),(a8 l)[j*2]?=some (.string l[j].1)∧(a8 l)[j*2+1]?=some (.int .i64 l[j].2):=by
 induction l with
 | nil=>intro j h;simp at h
 | cons p l ih =>
  intro j h;rw [eu];cases j with
  | zero=>exact ⟨rfl,rfl⟩
  | succ j =>
   have:=ih j (by simpa using h)
   rw [show (j+1)*2=j*2+1+1 by omega]
   simpa using this
theorem fU(l:List Lk):∀ u ∈ a8 l,u.oneCell'=true:=by
 intro u hu;simp only [a8,lQ] at hu;obtain ⟨p,_,h⟩:=hu;simp at h
 rcases h with rfl | rfl <;> rfl
theorem lB:(prog.info? 179).map (fun i=>(i.zero,i.size,i.bytes))=some (some (.agg #[.string ByteArray.empty,.int .i64 0]),2,24):=by kernel_rfl
def UX(l:List Lk):Prop:=∀ p ∈ l,p.1.size≤140737488355328
def di(w:World)(v:Value)(l:List Lk):Prop:=∃ a cap,v = .slice a l.length cap∧l.length≤cap∧(a=none→cap=0) ∧
 ∀ j (h:j<l.length),∃ g o,a=some ⟨g,o,none⟩∧w.cell? ⟨g,o+j*2,none⟩=some (.string l[j].1)∧w.cell? ⟨g,o+j*2+1,none⟩=some (.int .i64 l[j].2)
theorem di.below{w w':World}{v:Value}{l:List Lk}(h:di w v l)(hb:Below w.heap.size w w'):di w' v l:=by
 obtain ⟨a,cap,rfl,hle,hn,hc⟩:=h;refine ⟨a,cap,rfl,hle,hn,fun j hj=>?_⟩
 obtain ⟨g,o,ha,h1,h2⟩:=hc j hj;exact ⟨g,o,ha,(hb.cell (p:=⟨g,o+j*2,none⟩) (World.block_lt_of_cell? w _ h1)).trans h1,(hb.cell (p:=⟨g,o+j*2+1,none⟩) (World.block_lt_of_cell? w _ h2)).trans h2⟩
theorem di.form{w:World}{v:Value}{l:List Lk}(h:di w v l):∃ a c,v = .slice a l.length c:=by
 obtain ⟨a,c,rfl,_⟩:=h;exact ⟨a,c,rfl⟩
theorem di.rn{w:World}{base n:Nat}{v:Value}{l:List Lk}(h:w.ownsRow base 179 2 v n (a8 l)):di w v l:=by
 have hl:=h.1;rw [aS] at hl;have hl:l.length=n:=by omega
 rcases h.2 with ⟨rfl,hn⟩ | ⟨g,cap,cur,rfl,hb,hg,B4,sf,fH,mH⟩
 ·have h0:l.length=0:=by omega
  exact ⟨none,0,by rw [h0],by omega,fun _=>rfl,fun j hj=>by omega⟩
 ·refine ⟨some ⟨g,0,none⟩,cap,by rw [hl],by omega,fun h=>(by cases h),fun j hj=>⟨g,0,rfl,?_,?_⟩⟩
  ·rw [Nat.zero_add,h.cellAt (j*2) (by omega)];exact (fw l j hj).1
  ·rw [Nat.zero_add,h.cellAt (j*2+1) (by omega)];exact (fw l j hj).2
theorem di.take{w:World}{a:Option Addr}{n m cap:Nat}{l:List Lk}(h:di w (.slice a n cap) l)(hm:m≤n):di w (.slice a m cap) (l.take m):=by
 obtain ⟨a',eS,he,hle,hn,hc⟩:=h;cases he;refine ⟨a,cap,by rw [ag,a7 hm],by rw [ag];omega,hn,fun j hj=>?_⟩
 rw [ag] at hj;obtain ⟨g,o,ha,h1,h2⟩:=hc j (by omega)
 exact ⟨g,o,ha,by rw [bK];exact h1,by rw [bK];exact h2⟩
theorem di.nil(w:World):di w (.slice none 0 0) []:=⟨none,0,rfl,aj _,fun _=>rfl,fun j h=>by simp at h⟩
def b6(w:World)(base:Nat)(v:Value)(l:List Lk):Prop:=w.ownsRow base 179 2 v l.length (a8 l)
theorem b6.at{w:World}{base:Nat}{v:Value}{l:List Lk}(h:b6 w base v l):di w v l:=di.rn h
theorem b6.form{w:World}{base:Nat}{v:Value}{l:List Lk}(h:b6 w base v l):∃ a c,v = .slice a l.length c:=h.at.form
theorem b6.below{w w':World}{base:Nat}{v:Value}{l:List Lk}(h:b6 w base v l)(hb:Below w.heap.size w w'):b6 w' base v l:=by
 refine ⟨h.1,?_⟩;rcases h.2 with h' | ⟨g,cap,cur,h',h1,h2,hr⟩
 ·exact .inl h'
 ·refine .inr ⟨g,cap,cur,h',h1,?_,hr⟩;have hg:g<w.heap.size:=by
   rcases bg g w.heap.size with h' | h'
   ·exact h'
   ·rw [aX h'] at h2;cases h2
  rw [hb.block g hg];exact h2
theorem b6.mono{w:World}{b b2:Nat}{v:Value}{l:List Lk}(h:b6 w b v l)(hb:b2≤b):b6 w b2 v l:=by
 refine ⟨h.1,?_⟩;rcases h.2 with h' | ⟨g,cap,cur,h',h1,hr⟩
 ·exact .inl h'
 ·exact .inr ⟨g,cap,cur,h',ar hb h1,hr⟩
theorem b6.nil(w:World)(base:Nat):b6 w base (.slice none 0 0) []:=World.ownsRow_nil _ _ _ _
theorem fi(base:Nat)(v s:Value)(xs us:List Lk)(w:World)(aE:b6 w base v xs)(hs:di w s us)(hb:(xs.length+us.length)*24≤140737488355328)(du:base≤w.heap.size):∃ a' eS w',(Builtin.append_ #[148,148] 148 #[v,s]).run prog w = .ok (.slice a' (xs.length+us.length) eS) w'∧b6 w' base (.slice a' (xs.length+us.length) eS) (xs++us)∧w.grownBy w' v.ownBlock:=by
 obtain ⟨i0,hi,hz,b7,kF⟩:=info_parts lB;obtain ⟨a,cap,rfl,hle,qu,hc⟩:=hs;have Ee:∃ a' c',v = .slice a' xs.length c':=aE.form;unfold b6 at aE ⊢;rw [ae,cZ];cases a with
 | none =>
  have h0:us=[]:=by
   cases us with
   | nil=>rfl
   | cons u r=>obtain ⟨g,o,he,_⟩:=hc 0 (by simp);cases he
  subst h0;rw [qu rfl];have hr:=run_append_owned_none (P:=prog) w base 148 148 179 i0 2 underlying148 hi v xs.length (a8 xs) aE;obtain ⟨a',c',rfl⟩:=Ee;exact ⟨a',c',w,hr,by simpa [a8] using aE,⟨rfl,rfl,rfl,aj _,fun _ _ _=>rfl⟩⟩
 | some ad =>
  obtain ⟨v',w',hr,gi,As,_⟩:=run_append_own (P:=prog) w base 148 148 179 i0 _ 2 24 underlying148 hi hz b7 kF rfl (by decide) v xs.length (a8 xs) aE ad us.length cap (a8 us) (aS us) (fun j u hj=>by
   have lL:=(List.getElem?_eq_some_iff.1 hj).1;rw [aS] at lL;obtain ⟨g,o,he,c1,c2⟩:=hc (j / 2) (by omega)
   cases he;have hg:=fw us (j / 2) (by omega)
   rw [bz];rcases bU j with hm | hm
   ·have e:j / 2*2=j:=by omega
    rw [e] at hg c1;rw [hg.1] at hj;cases hj;exact c1
   ·have e:j / 2*2+1=j:=by omega
    rw [dJ,e] at c2;rw [e] at hg;rw [hg.2] at hj;cases hj;exact c2) (fU us) (by unfold maxLen;omega) hb du
  have hf:∃ a' c',v' = .slice a' (xs.length+us.length) c':=by
   rcases gi.2 with ⟨rfl,h0⟩ | ⟨g,cap,cur,rfl,_⟩
   ·exact ⟨none,0,by rw [h0]⟩
   ·exact ⟨_,_,rfl⟩
  obtain ⟨a',c',rfl⟩:=hf;exact ⟨a',c',w',hr,gi,As⟩
theorem b6.dr{w:World}{base:Nat}{v:Value}{l:List Lk}(h:b6 w base v l):∀ k,v.ownBlock=some k→base≤k∧k<w.heap.size:=World.ownsRow.lt h
theorem vp(w:World)(p:Lk)(t:TypeId):di (w.alloc (.cells #[.string p.1,.int .i64 p.2] t)) (.slice (some ⟨w.heap.size,0,none⟩) 1 1) [p]:=by
 have hb:=bL w #[.string p.1,.int .i64 p.2] t;refine ⟨_,_,rfl,aj _,fun h=>(by cases h),fun j hj=>⟨_,_,rfl,?_,?_⟩⟩
 ·have:j=0:=by simpa using hj
  subst this;exact hb.2 0 (by simp)
 ·have:j=0:=by simpa using hj
  subst this;exact hb.2 1 (by simp)
theorem X9(w:World)(a:Option Addr)(n cap m:Nat)(hm:m≤cap):(Instr.sliceAt 148 (.slice a n cap) none (some (.int .i64 (m:Int))) none).run prog w = .ok (.slice a m cap) w:=by
 rw [run_sliceAt_slice (h:=underlying148),run_slice_h (ht:=underlying148) (h0:=by omega) (h2:=by omega)]
 have hz:(sizeOf (prog.elem 148)).run prog w = .ok 2 w:=by kernel_rfl
 rw [hz];simp [Result.andThen,sliced,Addr.add]
theorem di.drop{w:World}{a:Option Addr}{n m cap:Nat}{l:List Lk}(h:di w (.slice a n cap) l)(hm:m≤n):∃ a',di w (.slice a' (n - m) (cap - m)) (l.drop m)∧∀ w',(Instr.sliceAt 148 (.slice a n cap) (some (.int .i64 (m:Int))) none none).run prog w' = .ok (.slice a' (n - m) (cap - m)) w':=by
 obtain ⟨a',eS,he,hle,hn,hc⟩:=h;cases he;refine ⟨if cap=m then a else a.map (·.add (m*2)),⟨_,_,by rw [ao],by rw [ao];omega,fun ha=>?_,fun j hj=>?_⟩,fun w'=>?_⟩
 ·split at ha
  ·omega
  ·cases a with
   | none=>have:=hn rfl;omega
   | some x=>cases ha
 ·rw [ao] at hj;obtain ⟨g,o,ha,h1,h2⟩:=hc (m+j) (by omega)
  subst ha;refine ⟨g,o+m*2,?_,?_,?_⟩
  ·rw [if_neg (by omega)];simp [bz]
  ·rw [cW,show o+m*2+j*2=o+(m+j)*2 by omega];exact h1
  ·rw [cW,show o+m*2+j*2+1=o+(m+j)*2+1 by omega];exact h2
 ·rw [run_sliceAt_slice (h:=underlying148),run_slice_l (ht:=underlying148) (h0:=by omega) (h1:=by omega)]
  have hz:(sizeOf (prog.elem 148)).run prog w' = .ok 2 w':=by kernel_rfl
  rw [hz];simp [Result.andThen,sliced]
end B
end Go.Proofs.YtihmgigfkmofnaaGreatDoor
