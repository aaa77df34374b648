import Derived.Test.YtihmgigfkmofnaaGreatDoorProg
import Derived.WalkKit
import Derived.WalkSpells
import Derived.WalkLawsBesides
import Derived.Deep.AppendLies
import Derived.BigQuiet
import Derived.KernelRfl
import Derived.Laws.IdiomStrings
import Derived.Lib.AppendZeros
import Derived.Test.YtihmgigfkmofnaaGreatDoorA0
set_option maxHeartbeats 1000000
set_option maxRecDepth 20000
open Go.Proofs.Tryz
namespace Go.Proofs.YtihmgigfkmofnaaGreatDoor
open Go.RowKit
def dW(l:List UInt8):List Value:=l.map (fun c=>Value.int .u8 (c.toNat:Int))
theorem a7(l:List UInt8):(dW l).length=l.length:=by simp [dW]
theorem jJ(a b:List UInt8):dW (a++b)=dW a++dW b:=by simp [dW]
theorem iC(l:List UInt8)(j:Nat)(h:j<l.length):(dW l)[j]?=some (.int .u8 (l[j].toNat:Int)):=by simp [dW,h]
theorem rC(l:List UInt8):∀ u ∈ dW l,u.oneCell'=true:=by
 intro u hu;simp only [dW,List.mem_map] at hu;obtain ⟨c,_,rfl⟩:=hu;rfl
theorem bsize(s:ByteArray):s.data.toList.length=s.size:=by simp
theorem Tryz.info5:(prog.info? 5).map (fun i=>(i.zero,i.size,i.bytes))=some (some (.int .u8 0),1,1):=by kernel_rfl
def dZ(l:List ByteArray)(i:Nat):List UInt8:=(l.take i).flatMap (fun c=>c.data.toList)
def fA(l:List ByteArray)(i:Nat):Nat:=2*l.length+(dZ l i).length
def dS(l:List ByteArray):Nat:=fA l l.length
def Ig(e:Nat):UInt8:=UInt8.ofNat (e / 256)
def Ga(e:Nat):UInt8:=UInt8.ofNat (e % 256)
def fU(l:List ByteArray):Nat→List UInt8
 | 0=>[]
 | i+1=>fU l i++[Ig (fA l (i+1)),Ga (fA l (i+1))]
def jA(l:List ByteArray):List UInt8:=fU l l.length++dZ l l.length++List.replicate (4072 - dS l) 0
def gR(l:List ByteArray)(i:Nat):List UInt8:=fU l i++List.replicate (2*(l.length - i)) 0++dZ l i++List.replicate (4072 - fA l i) 0
theorem vo(l:List ByteArray):dZ l 0=[]:=by simp [dZ]
theorem vp(l:List ByteArray)(i:Nat)(h:i<l.length):dZ l (i+1)=dZ l i++l[i].data.toList:=by
 unfold dZ;rw [ax h,aN];simp
theorem pO(l:List ByteArray):fA l 0=2*l.length:=by simp [fA,vo]
theorem mB(l:List ByteArray)(i:Nat)(h:i<l.length):fA l (i+1)=fA l i+l[i].size:=by
 unfold fA;rw [vp l i h,ae,bsize];omega
theorem uw(l:List ByteArray)(i:Nat):∀ j,i≤j→j≤l.length→fA l i≤fA l j:=by
 intro j NU;induction j with
 | zero =>
  intro _;have:i=0:=by omega
  subst this;exact aj _
 | succ j ih =>
  intro hj;by_cases h:i=j+1
  ·subst h;exact aj _
  ·have h1:=ih (by omega) (by omega)
   have h2:=mB l j (by omega)
   omega
theorem dQ(l:List ByteArray)(i:Nat):(fU l i).length=2*i:=by
 induction i with
 | zero=>rfl
 | succ i ih=>simp [fU,ih];omega
theorem si(l:List ByteArray)(h:dS l≤4072):(jA l).length=4072:=by
 have e:dS l=2*l.length+(dZ l l.length).length:=rfl;simp only [jA,ae,bB,dQ];omega
theorem FE(l:List ByteArray)(h:dS l≤4072):gR l 0=List.replicate 4072 0:=by
 have e:dS l=2*l.length+(dZ l l.length).length:=rfl;unfold gR;rw [vo,pO,fU,List.nil_append,List.append_nil,List.replicate_append_replicate];congr 1;omega
theorem IJ(l:List ByteArray):gR l l.length=jA l:=by
 simp [gR,jA,dS]
theorem wK{l:List ByteArray}(h:dS l≤4072){i:Nat}(hi:i≤l.length):fA l i≤4072:=ar (uw l i l.length hi (aj _)) h
theorem UI(l:List ByteArray)(i:Nat):2*l.length≤fA l i:=by unfold fA;omega
theorem II(l:List ByteArray)(i:Nat)(h:dS l≤4072)(hi:i≤l.length):(gR l i).length=4072:=by
 have:=wK h hi;have e:fA l i=2*l.length+(dZ l i).length:=rfl;simp only [gR,ae,bB,dQ];omega
theorem Bc(e:Nat)(h:e≤4072):(Ig e).toNat=e / 256:=by
 simp [Ig];omega
theorem AR(e:Nat):(Ga e).toNat=e % 256:=by
 simp [Ga]
def Aw(b:List UInt8)(i:Nat):Nat:=(b.getD (2*i) 0).toNat*256+(b.getD (2*i+1) 0).toNat
def lu(b:List UInt8)(n:Nat):Nat→Nat
 | 0=>2*n
 | i+1=>Aw b i
def Nv(b:List UInt8)(n:Nat):Prop:=(n≤2036∧b.length=4072)∧(∀ i,i<n→lu b n i≤lu b n (i+1)∧lu b n (i+1)≤4072)∧∀ j,lu b n n≤j→j<4072→b.getD j 0=0
def yR(b:List UInt8)(n i:Nat):List UInt8:=(b.drop (lu b n i)).take (lu b n (i+1) - lu b n i)
def bX(b:List UInt8)(n:Nat):List ByteArray:=(List.range n).map fun i=>⟨(yR b n i).toArray⟩
theorem gd(b:List UInt8)(n:Nat):(bX b n).length=n:=by simp [bX]
theorem nz(b:List UInt8)(n i:Nat)(h:i<(bX b n).length):(bX b n)[i].data.toList=yR b n i:=by simp [bX]
theorem Dw(l:List ByteArray)(n:Nat):∀ i,i<n→(fU l n)[2*i]?=some (Ig (fA l (i+1)))∧(fU l n)[2*i+1]?=some (Ga (fA l (i+1))):=by
 induction n with
 | zero=>intro i h;omega
 | succ n ih =>
  intro i h;simp only [fU];by_cases hi:i<n
  ·have:=ih i hi;rw [bf (by rw [dQ];omega),bf (by rw [dQ];omega)]
   exact this
  ·have:i=n:=by omega
   subst this;rw [aM (by rw [dQ];omega),aM (by rw [dQ];omega),dQ]
   simp
theorem OS(l:List ByteArray)(h:dS l≤4072)(i:Nat)(hi:i<l.length):Aw (jA l) i=fA l (i+1):=by
 have hg:=Dw l l.length i hi;have hl:=dQ l l.length;have h1:=wK h (show i+1≤l.length by omega)
 unfold Aw jA;rw [aF,aF,ay,bf (by omega),bf (by omega),hg.1,hg.2]
 simp only [l7];rw [Bc _ h1,AR];omega
theorem oX(l:List ByteArray)(h:dS l≤4072):∀ i,i≤l.length→lu (jA l) l.length i=fA l i
 | 0,_=>by rw [pO];rfl
 | i+1,hi=>OS l h i (by omega)
theorem Is(l:List ByteArray)(i:Nat)(h:i<l.length):dZ l l.length=dZ l i++(l[i].data.toList++(l.drop (i+1)).flatMap (fun c=>c.data.toList)):=by
 unfold dZ;rw [ao (aj _)];have hd:l.drop i=l[i]::l.drop (i+1):=bg h;have hs:l.flatMap (fun c=>c.data.toList)=(l.take i).flatMap (fun c=>c.data.toList)++(l.drop i).flatMap (fun c=>c.data.toList):=by rw [← aN,aI]
 rw [hs,hd,List.flatMap_cons]
theorem qK(l:List ByteArray)(h:dS l≤4072):Nv (jA l) l.length:=by
 have e:dS l=2*l.length+(dZ l l.length).length:=rfl;refine ⟨⟨by omega,si l h⟩,fun i hi=>?_,fun j hj h'=>?_⟩
 ·rw [oX l h i (by omega),oX l h (i+1) (by omega)]
  exact ⟨uw l i (i+1) (by omega) (by omega),wK h (by omega)⟩
 ·rw [oX l h _ (aj _)] at hj;have lY:dS l≤j:=hj;unfold jA;rw [aF,aM (by rw [ae,dQ];omega)]
  rw [List.getElem?_replicate];split <;> rfl
theorem P7(l:List ByteArray)(h:dS l≤4072)(i:Nat)(hi:i<l.length):yR (jA l) l.length i=l[i].data.toList:=by
 unfold yR;rw [oX l h i (by omega),oX l h (i+1) (by omega),mB l i hi]
 unfold jA;rw [Is l i hi,← ay,ay (fU l l.length++dZ l i)];have e:fA l i=(fU l l.length++dZ l i).length:=by rw [ae,dQ];rfl
 rw [ij (by omega),e,List.drop_length,List.nil_append,ay]
 rw [aH (by rw [bsize];omega),ao (by rw [bsize];omega)]
theorem Bp(l:List ByteArray)(h:dS l≤4072):bX (jA l) l.length=l:=by
 refine l9 (gd _ _) (fun i h1 h2=>?_)
 have:=nz (jA l) l.length i h1;rw [P7 l h i h2] at this;have:(bX (jA l) l.length)[i].data=l[i].data:=Array.toList_inj.1 this;exact congrArg ByteArray.mk this
theorem Kf{b:List UInt8}{n:Nat}(h:Nv b n):∀ i,i≤n→lu b n i≤4072
 | 0,_=>by have:=h.1.1;simp only [lu];omega
 | i+1,hi=>(h.2.1 i (by omega)).2
theorem M8{b:List UInt8}{n:Nat}(h:Nv b n)(i:Nat)(hi:i<n):(yR b n i).length=lu b n (i+1) - lu b n i:=by
 have h1:=Kf h (i+1) (by omega)
 unfold yR;rw [ag,al,h.1.2];omega
abbrev Pr:=ByteArray × ByteArray
def zG(p:Pr):Nat:=5+p.1.size+p.2.size
def fB(l:List Pr):Nat:=(l.map zG).sum
def cQ(p:Pr):Bool:=decide (1≤p.1.size∧p.1.size≤255∧p.2.size≤700)
theorem dY{p:Pr}(h:cQ p=true):1≤p.1.size∧p.1.size≤255∧p.2.size≤700:=by simpa [cQ] using h
def cR(a b:ByteArray):Bool:=Op.bytesLess a.toList b.toList
def gK(l:List Pr):Prop:=∀ i (h:i+1<l.length),cR l[i].1 l[i+1].1=true
theorem lG:fB []=0:=rfl
theorem mj(p:Pr)(l:List Pr):fB (p::l)=zG p+fB l:=by simp [fB]
theorem iG(a b:List Pr):fB (a++b)=fB a+fB b:=by simp [fB]
theorem zH(l:List Pr)(k:Nat)(h:k<l.length):fB (l.take (k+1))=fB (l.take k)+zG l[k]:=by
 rw [ax h,iG];simp [fB]
theorem gT(l:List Pr):5*l.length≤fB l:=by
 induction l with
 | nil=>simp
 | cons p l ih=>rw [mj,List.length_cons];unfold zG;omega
theorem Cy(x:List UInt8):Op.bytesLess x x=false:=by
 induction x with
 | nil=>rfl
 | cons a x ih=>simp [Op.bytesLess,ih]
theorem vF:∀ (x y z:List UInt8),Op.bytesLess x y=true→Op.bytesLess y z=true→Op.bytesLess x z=true
 | _,[],_,h,_=>by simp [Op.bytesLess] at h
 | _,_::_,[],_,h=>by simp [Op.bytesLess] at h
 | [],_::_,_::_,_,_=>by simp [Op.bytesLess]
 | a::x,b::y,c::z,h1,h2=>by
  simp only [Op.bytesLess,Bool.or_eq_true,decide_eq_true_eq,bV,beq_iff_eq] at *;rcases h1 with h1 | ⟨rfl,h1⟩
  ·rcases h2 with h2 | ⟨rfl,h2⟩
   ·exact .inl (UInt8.lt_trans h1 h2)
   ·exact .inl h1
  ·rcases h2 with h2 | ⟨rfl,h2⟩
   ·exact .inl h2
   ·exact .inr ⟨rfl,vF x y z h1 h2⟩
theorem vG:∀ (x y:List UInt8),Op.bytesLess x y=false→Op.bytesLess y x=false→x=y
 | [],[],_,_=>rfl
 | [],_::_,h,_=>by simp [Op.bytesLess] at h
 | _::_,[],_,h=>by simp [Op.bytesLess] at h
 | a::x,b::y,h1,h2=>by
  simp only [Op.bytesLess,Bool.or_eq_false_iff,decide_eq_false_iff_not,Bool.and_eq_false_imp,beq_iff_eq] at *;have Bg:a=b:=by
   have:=UInt8.not_lt.1 h1.1;have:=UInt8.not_lt.1 h2.1;exact UInt8.le_antisymm ‹_› ‹_›
  subst Bg;rw [vG x y (h1.2 rfl) (h2.2 rfl)]
theorem nh(a:ByteArray):cR a a=false:=Cy _
theorem dq{a b c:ByteArray}(h1:cR a b=true)(h2:cR b c=true):cR a c=true:=vF _ _ _ h1 h2
theorem ib{x y:ByteArray}(h:x.data.toList=y.data.toList):x=y:=by
 have:x.data=y.data:=Array.toList_inj.1 h;exact congrArg ByteArray.mk this
theorem mu{a b:ByteArray}(h1:cR a b=false)(h2:cR b a=false):a=b:=by
 have:=vG _ _ h1 h2;rw [ByteArray.toList_eq,ByteArray.toList_eq] at this;exact ib this
theorem kT{a b:ByteArray}(h:cR a b=true):cR b a=false:=by
 cases h':cR b a
 ·rfl
 ·have:=dq h h';rw [nh] at this;cases this
theorem gK.lt{l:List Pr}(h:gK l)(i:Nat):∀ j (hj:j<l.length) (NU:i<j),cR (l[i]'(by omega)).1 l[j].1=true:=by
 intro j;induction j with
 | zero=>intro _ h;omega
 | succ j ih =>
  intro hj NU;by_cases he:i=j
  ·subst he;exact h i hj
  ·exact dq (ih (by omega) (by omega)) (h j hj)
theorem DH:gK []:=fun i h=>by simp at h
theorem gK.take{l:List Pr}(h:gK l)(k:Nat):gK (l.take k):=fun i hi=>by
 rw [ag] at hi;simp only [bF];exact h i (by omega)
theorem gK.drop{l:List Pr}(h:gK l)(k:Nat):gK (l.drop k):=fun i hi=>by
 rw [al] at hi;simp only [cu];exact h (k+i) (by omega)
theorem Le{l:List Pr}(p:Pr):gK (l++[p])↔gK l∧∀ (h:0<l.length),cR (l[l.length - 1]'(by omega)).1 p.1=true:=by
 constructor
 ·intro h;refine ⟨fun i hi=>?_,fun h0=>?_⟩
  ·have:=h i (by simp;omega)
   rwa [aL (by omega),aL (by omega)] at this
  ·have:=h (l.length - 1) (by simp;omega)
   rw [aL (by omega)] at this
   have e:(l++[p])[l.length - 1+1]'(by simp;omega)=p:=by
    simp only [show l.length - 1+1=l.length by omega];simp
   rwa [e] at this
 ·rintro ⟨h1,h2⟩ i hi;simp only [ae,aQ] at hi;by_cases he:i+1<l.length
  ·rw [aL (by omega),aL (by omega)]
   exact h1 i he
  ·have e:i=l.length - 1:=by omega
   have h0:0<l.length:=by omega
   rw [aL (by omega)]
   have e2:(l++[p])[i+1]'(by simp;omega)=p:=by
    simp only [show i+1=l.length by omega];simp
   rw [e2];simp only [e];exact h2 h0
instance (l:List Pr):Decidable (gK l):=decidable_of_iff (∀ i:Fin l.length,∀ h:i.1+1<l.length,cR l[i.1].1 l[i.1+1].1=true) ⟨fun h i hi=>h ⟨i,by omega⟩ hi,fun h i hi=>h i.1 hi⟩
def wL(l:List Pr)(root:Bool):Option Nat :=
 if l.all cQ=false then some 0
 else if ¬ gK l then some 11
 else if 4072<fB l then some 2
 else if l=[]∨root=false∧fB l<1556 then some 3
 else none
theorem sJ{l:List Pr}{root:Bool}(h:wL l root=none):(∀ p ∈ l,cQ p=true)∧gK l∧fB l≤4072∧l≠[]∧(root=false→1556≤fB l):=by
 unfold wL at h;split at h
 ·cases h
 ·rename_i h1
  split at h
  ·cases h
  ·rename_i h2
   split at h
   ·cases h
   ·rename_i h3
    split at h
    ·cases h
    ·rename_i h4
     refine ⟨fun p hp=>?_,Classical.not_not.1 h2,by omega,fun e=>h4 (.inl e),fun hr=>?_⟩
     ·have:l.all cQ=true:=by cases h:l.all cQ <;> simp_all
      exact List.all_eq_true.1 this p hp
     ·rcases a6 (fB l) 1556 with h' | h'
      ·exact absurd (.inr ⟨hr,h'⟩) h4
      ·exact h'
def aS(l:List Pr)(key:ByteArray):Nat:=l.findIdx (fun p=>!cR p.1 key)
def bm(l:List Pr)(key:ByteArray):Bool:=match l[aS l key]? with | some p=>decide (p.1=key) | none=>false
def dk(l:List Pr)(key:ByteArray):Nat:=if bm l key then aS l key+1 else aS l key
def fx(l:List Pr)(key value:ByteArray):List Pr:=l.take (aS l key)++(key,value)::l.drop (dk l key)
def fT(l:List Pr)(key:ByteArray):List Pr:=l.take (aS l key)++l.drop (dk l key)
theorem cH(l:List Pr)(key:ByteArray):aS l key≤l.length:=List.findIdx_le_length
theorem lR(l:List Pr)(key:ByteArray)(j:Nat)(h:j<aS l key)(hj:j<l.length):cR l[j].1 key=true:=by
 have:=List.not_of_lt_findIdx h;simpa using this
theorem sH(l:List Pr)(key:ByteArray)(h:aS l key<l.length):cR l[aS l key].1 key=false:=by
 have:=List.findIdx_getElem (xs:=l) (p:=fun q:Pr=>!cR q.1 key) (w:=h)
 simp only [Bool.not_eq_true'] at this;exact this
theorem sG{l:List Pr}{key:ByteArray}{k:Nat}(hk:k<l.length)(h1:∀ j (hj:j<k),cR (l[j]'(by omega)).1 key=true)(h2:cR l[k].1 key=false):aS l key=k:=by
 rcases Nat.lt_trichotomy (aS l key) k with h | h | h
 ·have:=sH l key (by omega)
  rw [h1 _ h] at this;cases this
 ·exact h
 ·have:=lR l key k h hk;rw [h2] at this;cases this
theorem qT{l:List Pr}{key:ByteArray}(h1:∀ j (hj:j<l.length),cR l[j].1 key=true):aS l key=l.length:=by
 rcases a6 (aS l key) l.length with h | h
 ·have:=sH l key h;rw [h1 _ h] at this;cases this
 ·have:=cH l key;omega
theorem pN{l:List Pr}{key:ByteArray}(h:aS l key<l.length):bm l key=decide (l[aS l key].1=key):=by
 unfold bm;rw [af h]
theorem oV{l:List Pr}{key:ByteArray}(h:¬ aS l key<l.length):bm l key=false:=by
 unfold bm;rw [bu (by omega)]
theorem gC{l:List Pr}{key:ByteArray}(h:bm l key=true):aS l key<l.length:=by
 rcases a6 (aS l key) l.length with h' | h'
 ·exact h'
 ·rw [oV (by omega)] at h;cases h
theorem jV(l:List Pr)(key:ByteArray):dk l key≤l.length:=by
 unfold dk;split
 ·rename_i h;exact gC h
 ·exact cH _ _
theorem eP(l:List Pr)(key:ByteArray):aS l key≤dk l key:=by
 unfold dk;split <;> omega
def Boxed(b:Nat)(cs:List Value)(w:World):Prop:=b<w.heap.size∧∀ j (h:j<cs.length),w.cell? ⟨b,j,none⟩=some cs[j]
theorem Boxed.below{b:Nat}{cs:List Value}{w w':World}(h:Boxed b cs w)(hb:Below w.heap.size w w'):Boxed b cs w' :=
 ⟨aq h.1 hb.size,fun j hj=>(hb.cell (p:=⟨b,j,none⟩) h.1).trans (h.2 j hj)⟩
theorem bM(w:World)(cs:Array Value)(t:TypeId):Boxed w.heap.size cs.toList (w.alloc (.cells cs t)):=by
 refine ⟨by simp,fun j hj=>?_⟩
 have h:(w.alloc (.cells cs t)).heap[w.heap.size]?=some (.cells cs t (0,0)):=heap_alloc_new w _;rw [cell_of_row _ w.heap.size j cs t (0,0) h];simp only [Array.length_toList] at hj;simp [hj]
theorem ai(w:World)(o:Obj):Below w.heap.size w (w.alloc o):=(Below.refl _ _).alloc (aj _) o
theorem Below.next{a b c:World}(h:Below a.heap.size a b)(k:Below b.heap.size b c):Below a.heap.size a c:=h.trans (k.mono h.size)
theorem Js{k:IntKind}{a b:Int}(h:a=b):Ending.returned (.int k a) = .returned (.int k b):=by rw [h]
theorem aA{B:Nat}{a w:World}(h:Below B a w)(n:Nat):Below B a (w.drewN n):=⟨h.os,h.tape,h.output,h.size,h.block⟩
theorem ab{p:Prop}(h:p):Hid p:=h
def lF(w:World)(v:Value)(us:List Value):Prop:=∃ a cap,v = .slice a us.length cap∧us.length≤cap∧(a=none→cap=0)∧∀ j u,us[j]?=some u→∃ g o,a=some ⟨g,o,none⟩∧w.cell? ⟨g,o+j,none⟩=some u
theorem lF.below{w w':World}{v:Value}{us:List Value}(h:lF w v us)(hb:Below w.heap.size w w'):lF w' v us:=by
 obtain ⟨a,cap,rfl,hle,hn,hc⟩:=h;refine ⟨a,cap,rfl,hle,hn,fun j u hj=>?_⟩
 obtain ⟨g,o,ha,bq⟩:=hc j u hj;exact ⟨g,o,ha,(hb.cell (p:=⟨g,o+j,none⟩) (World.block_lt_of_cell? w _ bq)).trans bq⟩
theorem fV{w:World}{base e n:Nat}{v:Value}{us:List Value}(h:w.ownsRow base e 1 v n us):lF w v us:=by
 have hl:=h.1;rw [Nat.mul_one] at hl;rcases h.2 with ⟨rfl,hn⟩ | ⟨g,cap,cur,rfl,hb,hg,CQ,sA,fI,lE⟩
 ·have h0:us.length=0:=by omega
  exact ⟨none,0,by rw [h0],by omega,fun _=>rfl,fun j u hj=>by rw [List.length_eq_zero_iff.1 h0] at hj;simp at hj⟩
 ·refine ⟨some ⟨g,0,none⟩,cap,by rw [hl],by omega,fun h=>(by cases h),fun j u hj=>⟨g,0,rfl,?_⟩⟩
  have lY:=(List.getElem?_eq_some_iff.1 hj).1;rw [Nat.zero_add,h.cellAt j (by omega)];exact hj
theorem lF.take{w:World}{a:Option Addr}{n m cap:Nat}{us:List Value}(h:lF w (.slice a n cap) us)(hm:m≤n):lF w (.slice a m cap) (us.take m):=by
 obtain ⟨a',eO,he,hle,hn,hc⟩:=h;cases he;refine ⟨a,cap,by rw [ag,aT hm],by rw [ag];omega,hn,fun j u hj=>hc j u ?_⟩
 rw [cO] at hj;split at hj
 ·exact hj
 ·cases hj
theorem bh(b o c:Nat):(⟨b,o,none⟩ : Addr).add c=⟨b,o+c,none⟩:=by
 unfold Addr.add;split
 ·rename_i h;rw [h,Nat.add_zero]
 ·rfl
theorem jW(t e:TypeId)(z:Value)(bytes:Nat)(abp:(prog.info? e).map (fun i=>(i.zero,i.size,i.bytes))=some (some z,1,bytes))(ht:prog.underlying t=some (.slice e))(mR:z.cells.size=1)(base n:Nat)(v:Value)(xs:List Value)(w:World)(aE:w.ownsRow base e 1 v n xs)(s:Value)(us:List Value)(hs:lF w s us)(h1:∀ u ∈ us,u.oneCell'=true)(hb:(n+us.length)*bytes≤140737488355328)(aO:1≤bytes)(dd:base≤w.heap.size):∃ a' eO w',(Builtin.append_ #[t,t] t #[v,s]).run prog w = .ok (.slice a' (n+us.length) eO) w'∧w'.ownsRow base e 1 (.slice a' (n+us.length) eO) (n+us.length) (xs++us)∧w.grownBy w' v.ownBlock:=by
 obtain ⟨i0,hi,hz,b8,kQ⟩:=info_parts abp;obtain ⟨a,cap,rfl,hle,qP,hc⟩:=hs;cases a with
 | none =>
  have h0:us=[]:=by
   cases us with
   | nil=>rfl
   | cons u r=>obtain ⟨g,o,he,_⟩:=hc 0 u rfl;cases he
  subst h0;rw [qP rfl];have hr:=run_append_owned_none (P:=prog) w base t t e i0 1 ht hi v n xs aE;have hf:∃ a' c',v = .slice a' n c':=by
   rcases aE.2 with ⟨rfl,rfl⟩ | ⟨g,cap,cur,rfl,_⟩
   ·exact ⟨_,_,rfl⟩
   ·exact ⟨_,_,rfl⟩
  obtain ⟨a',c',rfl⟩:=hf;exact ⟨a',c',w,hr,by rw [List.append_nil];exact aE,⟨rfl,rfl,rfl,aj _,fun _ _ _=>rfl⟩⟩
 | some ad =>
  have hB:(n+us.length)*1≤(n+us.length)*bytes:=Nat.mul_le_mul_left _ aO;obtain ⟨v',w',hr,gr,Bd,_⟩:=run_append_own (P:=prog) w base t t e i0 z 1 bytes ht hi hz b8 kQ mR (by decide) v n xs aE ad us.length cap us (by rw [Nat.mul_one]) (fun j u hj=>by
   obtain ⟨g,o,he,bq⟩:=hc j u hj;cases he;rw [bh];exact bq) h1 (by unfold maxLen;omega) hb dd
  have hf:∃ a' c',v' = .slice a' (n+us.length) c':=by
   rcases gr.2 with ⟨rfl,h0⟩ | ⟨g,cap,cur,rfl,_⟩
   ·exact ⟨none,0,by rw [h0]⟩
   ·exact ⟨_,_,rfl⟩
  obtain ⟨a',c',rfl⟩:=hf;exact ⟨a',c',w',hr,gr,Bd⟩
theorem wpList_append_run{ops:Array Oper}{rest:List Oper}{o:Oper}{a:Act}{w:World}{Q:Exit→Act→World→Prop}(t:TypeId)(nH:o.guard=none)(d x:Operand)
  (ho:o.op = .call { callee:=.builtin .append,args:=#[d,x],argTypes:=#[t,t] }) (zR:o.type=t) (vd vx:Value) (hd:a.eval d=vd) (hx:a.eval x=vx) (v:Value) (w':World)
  (bw:(Builtin.append_ #[t,t] t #[vd,vx]).run prog w = .ok v w') (h:wpList prog ops Q rest (a.put o.dst v) w'):wpList prog ops Q (o::rest) a w :=
 wpList_plain nH fun _ hK=>by
  unfold Oper.wp;simp [execOp,ho,resolve,invoke,builtin,hd,hx,zR,bw,Result.andThen]
  exact hK _ _ h
def ints(l:List Int):List Value:=l.map (Value.int .i64)
theorem kj(l:List Int):(ints l).length=l.length:=by simp [ints]
theorem Qc(l:List Int)(j:Nat)(h:j<l.length):(ints l)[j]?=some (.int .i64 l[j]):=by simp [ints,h]
theorem oM(a b:List Int):ints (a++b)=ints a++ints b:=by simp [ints]
theorem info3:(prog.info? 3).map (fun i=>(i.zero,i.size,i.bytes))=some (some (.int .i64 0),1,8):=by kernel_rfl
variable {l:List Pr} {v:Value} {w:World}
def iH(l:List Pr):List Value:=l.flatMap fun p=>[.string p.1,.string p.2]
theorem DP(p:Pr)(l:List Pr):iH (p::l) = .string p.1::.string p.2::iH l:=by simp [iH]
theorem xJ(a b:List Pr):iH (a++b)=iH a++iH b:=by simp [iH]
theorem eK(l:List Pr):(iH l).length=l.length*2:=by
 induction l with
 | nil=>rfl
 | cons p l ih=>rw [DP];simp [ih];omega
theorem wi(l:List Pr):∀ j (h:j<l.length),(iH l)[j*2]?=some (.string l[j].1)∧(iH l)[j*2+1]?=some (.string l[j].2):=by
 induction l with
 | nil=>intro j h;simp at h
 | cons p l ih =>
  intro j h;rw [DP];cases j with
  | zero=>exact ⟨rfl,rfl⟩
  | succ j =>
   have:=ih j (by simpa using h)
   rw [show (j+1)*2=j*2+1+1 by omega]
   simpa using this
theorem Tu(l:List Pr):∀ u ∈ iH l,u.oneCell'=true:=by
 intro u hu;simp only [iH,l8] at hu;obtain ⟨p,_,h⟩:=hu;simp at h
 rcases h with rfl | rfl <;> rfl
theorem JY:(prog.info? 52).map (fun i=>(i.zero,i.size,i.bytes))=some (some (.agg #[.string ByteArray.empty,.string ByteArray.empty]),2,32):=by kernel_rfl
def SQ(l:List Pr):Prop:=∀ p ∈ l,p.1.size≤140737488355328∧p.2.size≤140737488355328
def gM(w:World)(v:Value)(l:List Pr):Prop:=∃ a cap,v = .slice a l.length cap∧l.length≤cap∧(a=none→cap=0) ∧
 ∀ j (h:j<l.length),∃ g o,a=some ⟨g,o,none⟩∧w.cell? ⟨g,o+j*2,none⟩=some (.string l[j].1)∧w.cell? ⟨g,o+j*2+1,none⟩=some (.string l[j].2)
theorem gM.below{w':World}(h:gM w v l)(hb:Below w.heap.size w w'):gM w' v l:=by
 obtain ⟨a,cap,rfl,hle,hn,hc⟩:=h;refine ⟨a,cap,rfl,hle,hn,fun j hj=>?_⟩
 obtain ⟨g,o,ha,h1,h2⟩:=hc j hj;exact ⟨g,o,ha,(hb.cell (p:=⟨g,o+j*2,none⟩) (World.block_lt_of_cell? w _ h1)).trans h1,(hb.cell (p:=⟨g,o+j*2+1,none⟩) (World.block_lt_of_cell? w _ h2)).trans h2⟩
theorem gM.form(h:gM w v l):∃ a c,v = .slice a l.length c:=by
 obtain ⟨a,c,rfl,_⟩:=h;exact ⟨a,c,rfl⟩
theorem gM.rX{base n:Nat}(h:w.ownsRow base 52 2 v n (iH l)):gM w v l:=by
 have hl:=h.1;rw [eK] at hl;have hl:l.length=n:=by omega
 rcases h.2 with ⟨rfl,hn⟩ | ⟨g,cap,cur,rfl,hb,hg,CQ,sA,fI,lE⟩
 ·have h0:l.length=0:=by omega
  exact ⟨none,0,by rw [h0],by omega,fun _=>rfl,fun j hj=>by omega⟩
 ·refine ⟨some ⟨g,0,none⟩,cap,by rw [hl],by omega,fun h=>(by cases h),fun j hj=>⟨g,0,rfl,?_,?_⟩⟩
  ·rw [Nat.zero_add,h.cellAt (j*2) (by omega)];exact (wi l j hj).1
  ·rw [Nat.zero_add,h.cellAt (j*2+1) (by omega)];exact (wi l j hj).2
theorem gM.take{w:World}{a:Option Addr}{n m cap:Nat}{l:List Pr}(h:gM w (.slice a n cap) l)(hm:m≤n):gM w (.slice a m cap) (l.take m):=by
 obtain ⟨a',eO,he,hle,hn,hc⟩:=h;cases he;refine ⟨a,cap,by rw [ag,aT hm],by rw [ag];omega,hn,fun j hj=>?_⟩
 rw [ag] at hj;obtain ⟨g,o,ha,h1,h2⟩:=hc j (by omega)
 exact ⟨g,o,ha,by rw [bF];exact h1,by rw [bF];exact h2⟩
theorem gM.nil(w:World):gM w (.slice none 0 0) []:=⟨none,0,rfl,aj _,fun _=>rfl,fun j h=>by simp at h⟩
def qd(n:Nat):Int:=IntKind.i64.wrap (n:Int)
theorem BJ(a b:Nat):IntKind.i64.wrap (qd a+(b:Int))=qd (a+b):=by
 unfold qd;rw [IntKind.wrap_i64,IntKind.wrap_i64,IntKind.wrap_i64];omega
theorem kS{n:Nat}(h:n≤4611686018427387904):qd n=(n:Int):=by
 unfold qd;rw [IntKind.wrap_i64];omega
theorem uX(p:Pr)(w:World)(h1:p.1.size≤140737488355328)(h2:p.2.size≤140737488355328):Calls prog 201 #[.agg #[.string p.1,.string p.2]] w fun e w'=>e = .returned (.int .i64 (zG p:Int))∧Below w.heap.size w w':=by
 have fc:=ai w (.cells #[.string p.1,.string p.2] 52);have sS:IntKind.i64.wrap (5+(p.1.size:Int))=5+(p.1.size:Int):=by rw [IntKind.wrap_i64];omega
 have Sw:IntKind.i64.wrap (5+(p.1.size:Int)+(p.2.size:Int))=(zG p:Int):=by rw [IntKind.wrap_i64];unfold zG;omega
 go_enter func201,ntmps201;go_wp2;go_ret;exact ⟨rfl,fc⟩
theorem AO(v:Value)(l:List Pr)(w:World)(cM:SQ l)(hm:l.length≤140737488355328)(hr:gM w v l):Calls prog 161 #[v] w fun e w'=>e = .returned (.int .i64 (qd (fB l)))∧Below w.heap.size w w':=by
 obtain ⟨a,cap,rfl,dj,_,hc⟩:=hr;have HC:=ab hc;obtain ⟨n,hn⟩ : ∃ n,n=l.length:=⟨_,rfl⟩;rw [← hn] at hm ⊢;have HN:=ab hn;have od:=ab cM;clear hc hn dj cM;go_enter func161,ntmps161;go_wp2;go_loopw [3,8] (fun r i wr=>∃ k:Nat,k≤n∧i = .int .i64 k∧r = .int .i64 (qd (fB (l.take k)))∧Below w.heap.size w wr) (fun _ i _=>n - (intOf i).toNat)
 case atStart=>exact ⟨0,aB _,rfl,rfl,Below.refl _ _⟩
 case round =>
  obtain ⟨k,hk,rfl,rfl,bQ⟩:=hrel;by_cases bO:k<n
  ·have cZ:k<l.length:=by have:=HN.out;omega
   obtain ⟨g,o,rfl,f1,f2⟩:=HC.out k cZ;have c1:wr.cell? ⟨g,o+k*2,none⟩=some (.string l[k].1):=(bQ.cell (p:=⟨g,o+k*2,none⟩) (World.block_lt_of_cell? w _ f1)).trans f1;have c2:wr.cell? ⟨g,o+k*2+1,none⟩=some (.string l[k].2):=(bQ.cell (p:=⟨g,o+k*2+1,none⟩) (World.block_lt_of_cell? w _ f2)).trans f2;have A6:=od.out l[k] (aJ _);have tV:IntKind.i64.wrap (qd (fB (l.take k))+(zG l[k] : Int))=qd (fB (l.take (k+1))):=by rw [BJ,← zH l k cZ]
   obtain ⟨p,hp⟩ : ∃ p,p=l[k]:=⟨_,rfl⟩;rw [← hp] at c1 c2 tV A6;have HZ:=ab (fun W=>uX p W A6.1 A6.2)
   obtain ⟨x,hx⟩ : ∃ x,x=qd (fB (l.take k)):=⟨_,rfl⟩;obtain ⟨y,hy⟩ : ∃ y,y=qd (fB (l.take (k+1))):=⟨_,rfl⟩;obtain ⟨z,hz⟩ : ∃ z,z=zG p:=⟨_,rfl⟩;rw [← hx,← hy,← hz] at tV;rw [← hx];rw [← hz] at HZ;have HY:=ab hy;have dE:(k:Int)<(n:Int):=by omega
   have HB:=ab (Below.next bQ (ai wr (.cells #[.string p.1,.string p.2] 52)));clear hp hx hy hz HC f1 f2 bQ A6;go_wp2_with fail;refine (HZ.out _).mono ?_
   rintro e w1 ⟨rfl,aO⟩;have bT:=ab (Below.next HB.out aO);clear aO HB HZ c1 c2;go_wp2;go_roundw
   case rel=>exact ⟨k+1,by omega,by go_num,by rw [← HY.out],bT.out⟩
   case measure=>simp [intOf];omega
  ·have dn:l.take k=l:=by rw [ao];have:=HN.out;omega
   rw [dn];have HB:=ab bQ;have dE:¬ (k:Int)<(n:Int):=by omega
   obtain ⟨x,hx⟩ : ∃ x,x=qd (fB l):=⟨_,rfl⟩;rw [← hx];have HX:=ab hx;clear HC bQ dn hx;go_wp2;go_ret;exact ⟨by rw [← HX.out];rfl,HB.out⟩
namespace B
abbrev Lk:=ByteArray × Int
def zn(p:Lk):Nat:=7+p.1.size
def jy(l:List Lk):Nat:=6+(l.map zn).sum
def fZ(n:Int):Bool:=decide (2≤n∧n<1048576)
def gE(p:Lk):Bool:=decide (1≤p.1.size∧p.1.size≤255∧2≤p.2∧p.2<1048576)
theorem jN{p:Lk}(h:gE p=true):1≤p.1.size∧p.1.size≤255∧2≤p.2∧p.2<1048576:=by simpa [gE] using h
def nJ(l:List Lk):Prop:=∀ i (h:i+1<l.length),cR l[i].1 l[i+1].1=true
instance (l:List Lk):Decidable (nJ l):=decidable_of_iff (∀ i:Fin l.length,∀ h:i.1+1<l.length,cR l[i.1].1 l[i.1+1].1=true) ⟨fun h i hi=>h ⟨i,by omega⟩ hi,fun h i hi=>h i.1 hi⟩
def kids(f:Int)(l:List Lk):List Int:=f::l.map (·.2)
theorem sq(f:Int)(l:List Lk):(kids f l).length=l.length+1:=by simp [kids]
theorem Jf:jy []=6:=rfl
theorem GF(a b:List Lk):jy (a++b)+6=jy a+jy b:=by simp [jy];omega
theorem oq(p:Lk)(l:List Lk):jy (p::l)=zn p+jy l:=by simp [jy];omega
theorem zI(l:List Lk)(k:Nat)(h:k<l.length):jy (l.take (k+1))=jy (l.take k)+zn l[k]:=by
 have e:=GF (l.take k) [l[k]];rw [ax h];have:jy [l[k]]=zn l[k]+6:=by rw [oq,Jf]
 omega
theorem py(l:List Lk):7*l.length+6≤jy l:=by
 induction l with
 | nil=>simp [jy]
 | cons p l ih=>rw [oq,List.length_cons];unfold zn;omega
theorem Tb{l:List Lk}(h:l.all gE=true):jy l≤262*l.length+6:=by
 induction l with
 | nil=>simp [jy]
 | cons p l ih =>
  simp only [List.all_cons,bV] at h;have h1:=jN h.1;have h2:=ih h.2;rw [oq,List.length_cons];unfold zn;omega
def lz(f:Int)(l:List Lk)(root:Bool):Option Nat :=
 if l=[] then some 3
 else if (fZ f && l.all gE)=false then some 0
 else if ¬ nJ l then some 11
 else if ¬ (kids f l).Nodup then some 4
 else if 4072<jy l then some 2
 else if root=false∧jy l<1777 then some 3
 else none
theorem iX{f:Int}{l:List Lk}{root:Bool}(h:lz f l root=none):l≠[]∧fZ f=true∧(∀ p ∈ l,gE p=true)∧nJ l∧(kids f l).Nodup∧jy l≤4072∧(root=false→1777≤jy l):=by
 unfold lz at h;split at h
 ·cases h
 ·rename_i h0
  split at h
  ·cases h
  ·rename_i h1
   split at h
   ·cases h
   ·rename_i h2
    split at h
    ·cases h
    ·rename_i h3
     split at h
     ·cases h
     ·rename_i h4
      split at h
      ·cases h
      ·rename_i h5
       have Gl:fZ f=true∧l.all gE=true:=by
        cases hc:fZ f <;> cases ha:l.all gE <;> simp_all
       refine ⟨h0,Gl.1,List.all_eq_true.1 Gl.2,Classical.not_not.1 h2,Classical.not_not.1 h3,by omega,fun hr=>?_⟩
       rcases a6 (jy l) 1777 with h' | h'
       ·exact absurd ⟨hr,h'⟩ h5
       ·exact h'
def dJ(l:List Lk)(i:Nat)(p:Lk):List Lk:=l.take i++p::l.drop i
def cC(l:List Lk)(i:Nat):List Lk:=l.take i++l.drop (i+1)
def iU(a:List Lk)(key:ByteArray)(f:Int)(b:List Lk):List Lk:=a++(key,f)::b
variable {v:Value} {l:List Lk} {w:World}
def bn(l:List Lk):List Value:=l.flatMap fun p=>[.string p.1,.int .i64 p.2]
theorem eB(p:Lk)(l:List Lk):bn (p::l) = .string p.1::.int .i64 p.2::bn l:=by simp [bn]
theorem di(a b:List Lk):bn (a++b)=bn a++bn b:=by simp [bn]
theorem aU(l:List Lk):(bn l).length=l.length*2:=by
 induction l with
 | nil=>rfl
 | cons p l ih=>rw [eB];simp [ih];omega
theorem gI(l:List Lk):∀ j (h:j<l.length),(bn l)[j*2]?=some (.string l[j].1)∧(bn l)[j*2+1]?=some (.int .i64 l[j].2):=by
 induction l with
 | nil=>intro j h;simp at h
 | cons p l ih =>
  intro j h;rw [eB];cases j with
  | zero=>exact ⟨rfl,rfl⟩
  | succ j =>
   have:=ih j (by simpa using h)
   rw [show (j+1)*2=j*2+1+1 by omega]
   simpa using this
theorem fW(l:List Lk):∀ u ∈ bn l,u.oneCell'=true:=by
 intro u hu;simp only [bn,l8] at hu;obtain ⟨p,_,h⟩:=hu;simp at h
 rcases h with rfl | rfl <;> rfl
theorem lL:(prog.info? 179).map (fun i=>(i.zero,i.size,i.bytes))=some (some (.agg #[.string ByteArray.empty,.int .i64 0]),2,24):=by kernel_rfl
def Wj(l:List Lk):Prop:=∀ p ∈ l,p.1.size≤140737488355328
def dm(w:World)(v:Value)(l:List Lk):Prop:=∃ a cap,v = .slice a l.length cap∧l.length≤cap∧(a=none→cap=0) ∧
 ∀ j (h:j<l.length),∃ g o,a=some ⟨g,o,none⟩∧w.cell? ⟨g,o+j*2,none⟩=some (.string l[j].1)∧w.cell? ⟨g,o+j*2+1,none⟩=some (.int .i64 l[j].2)
theorem dm.below{w':World}(h:dm w v l)(hb:Below w.heap.size w w'):dm w' v l:=by
 obtain ⟨a,cap,rfl,hle,hn,hc⟩:=h;refine ⟨a,cap,rfl,hle,hn,fun j hj=>?_⟩
 obtain ⟨g,o,ha,h1,h2⟩:=hc j hj;exact ⟨g,o,ha,(hb.cell (p:=⟨g,o+j*2,none⟩) (World.block_lt_of_cell? w _ h1)).trans h1,(hb.cell (p:=⟨g,o+j*2+1,none⟩) (World.block_lt_of_cell? w _ h2)).trans h2⟩
theorem dm.form(h:dm w v l):∃ a c,v = .slice a l.length c:=by
 obtain ⟨a,c,rfl,_⟩:=h;exact ⟨a,c,rfl⟩
theorem dm.rX{base n:Nat}(h:w.ownsRow base 179 2 v n (bn l)):dm w v l:=by
 have hl:=h.1;rw [aU] at hl;have hl:l.length=n:=by omega
 rcases h.2 with ⟨rfl,hn⟩ | ⟨g,cap,cur,rfl,hb,hg,CQ,sA,fI,lE⟩
 ·have h0:l.length=0:=by omega
  exact ⟨none,0,by rw [h0],by omega,fun _=>rfl,fun j hj=>by omega⟩
 ·refine ⟨some ⟨g,0,none⟩,cap,by rw [hl],by omega,fun h=>(by cases h),fun j hj=>⟨g,0,rfl,?_,?_⟩⟩
  ·rw [Nat.zero_add,h.cellAt (j*2) (by omega)];exact (gI l j hj).1
  ·rw [Nat.zero_add,h.cellAt (j*2+1) (by omega)];exact (gI l j hj).2
theorem dm.take{w:World}{a:Option Addr}{n m cap:Nat}{l:List Lk}(h:dm w (.slice a n cap) l)(hm:m≤n):dm w (.slice a m cap) (l.take m):=by
 obtain ⟨a',eO,he,hle,hn,hc⟩:=h;cases he;refine ⟨a,cap,by rw [ag,aT hm],by rw [ag];omega,hn,fun j hj=>?_⟩
 rw [ag] at hj;obtain ⟨g,o,ha,h1,h2⟩:=hc j (by omega)
 exact ⟨g,o,ha,by rw [bF];exact h1,by rw [bF];exact h2⟩
theorem dm.nil(w:World):dm w (.slice none 0 0) []:=⟨none,0,rfl,aj _,fun _=>rfl,fun j h=>by simp at h⟩
variable {v:Value} {l:List Lk} {w:World} {base:Nat}
def b9(w:World)(base:Nat)(v:Value)(l:List Lk):Prop:=w.ownsRow base 179 2 v l.length (bn l)
theorem b9.at(h:b9 w base v l):dm w v l:=dm.rX h
theorem b9.form{w:World}{base:Nat}{v:Value}{l:List Lk}(h:b9 w base v l):∃ a c,v = .slice a l.length c:=h.at.form
theorem b9.below{w':World}(h:b9 w base v l)(hb:Below w.heap.size w w'):b9 w' base v l:=by
 refine ⟨h.1,?_⟩;rcases h.2 with h' | ⟨g,cap,cur,h',h1,h2,hr⟩
 ·exact .inl h'
 ·refine .inr ⟨g,cap,cur,h',h1,?_,hr⟩;have hg:g<w.heap.size:=by
   rcases a6 g w.heap.size with h' | h'
   ·exact h'
   ·rw [aZ h'] at h2;cases h2
  rw [hb.block g hg];exact h2
theorem b9.mono{b b2:Nat}(h:b9 w b v l)(hb:b2≤b):b9 w b2 v l:=by
 refine ⟨h.1,?_⟩;rcases h.2 with h' | ⟨g,cap,cur,h',h1,hr⟩
 ·exact .inl h'
 ·exact .inr ⟨g,cap,cur,h',ar hb h1,hr⟩
theorem b9.nil(w:World)(base:Nat):b9 w base (.slice none 0 0) []:=World.ownsRow_nil _ _ _ _
theorem fs(base:Nat)(v s:Value)(xs us:List Lk)(w:World)(aE:b9 w base v xs)(hs:dm w s us)(hb:(xs.length+us.length)*24≤140737488355328)(dd:base≤w.heap.size):∃ a' eO w',(Builtin.append_ #[148,148] 148 #[v,s]).run prog w = .ok (.slice a' (xs.length+us.length) eO) w'∧b9 w' base (.slice a' (xs.length+us.length) eO) (xs++us)∧w.grownBy w' v.ownBlock:=by
 obtain ⟨i0,hi,hz,b8,kQ⟩:=info_parts lL;obtain ⟨a,cap,rfl,hle,qP,hc⟩:=hs;have NV:∃ a' c',v = .slice a' xs.length c':=aE.form;unfold b9 at aE ⊢;rw [ae,di];cases a with
 | none =>
  have h0:us=[]:=by
   cases us with
   | nil=>rfl
   | cons u r=>obtain ⟨g,o,he,_⟩:=hc 0 (by simp);cases he
  subst h0;rw [qP rfl];have hr:=run_append_owned_none (P:=prog) w base 148 148 179 i0 2 underlying148 hi v xs.length (bn xs) aE;obtain ⟨a',c',rfl⟩:=NV;exact ⟨a',c',w,hr,by simpa [bn] using aE,⟨rfl,rfl,rfl,aj _,fun _ _ _=>rfl⟩⟩
 | some ad =>
  obtain ⟨v',w',hr,gr,Bd,_⟩:=run_append_own (P:=prog) w base 148 148 179 i0 _ 2 24 underlying148 hi hz b8 kQ rfl (by decide) v xs.length (bn xs) aE ad us.length cap (bn us) (aU us) (fun j u hj=>by
   have lY:=(List.getElem?_eq_some_iff.1 hj).1;rw [aU] at lY;obtain ⟨g,o,he,c1,c2⟩:=hc (j / 2) (by omega)
   cases he;have hg:=gI us (j / 2) (by omega)
   rw [bh];rcases bY j with hm | hm
   ·have e:j / 2*2=j:=by omega
    rw [e] at hg c1;rw [hg.1] at hj;cases hj;exact c1
   ·have e:j / 2*2+1=j:=by omega
    rw [dN,e] at c2;rw [e] at hg;rw [hg.2] at hj;cases hj;exact c2) (fW us) (by unfold maxLen;omega) hb dd
  have hf:∃ a' c',v' = .slice a' (xs.length+us.length) c':=by
   rcases gr.2 with ⟨rfl,h0⟩ | ⟨g,cap,cur,rfl,_⟩
   ·exact ⟨none,0,by rw [h0]⟩
   ·exact ⟨_,_,rfl⟩
  obtain ⟨a',c',rfl⟩:=hf;exact ⟨a',c',w',hr,gr,Bd⟩
theorem b9.dx(h:b9 w base v l):∀ k,v.ownBlock=some k→base≤k∧k<w.heap.size:=World.ownsRow.lt h
theorem wB(w:World)(p:Lk)(t:TypeId):dm (w.alloc (.cells #[.string p.1,.int .i64 p.2] t)) (.slice (some ⟨w.heap.size,0,none⟩) 1 1) [p]:=by
 have hb:=bM w #[.string p.1,.int .i64 p.2] t;refine ⟨_,_,rfl,aj _,fun h=>(by cases h),fun j hj=>⟨_,_,rfl,?_,?_⟩⟩
 ·have:j=0:=by simpa using hj
  subst this;exact hb.2 0 (by simp)
 ·have:j=0:=by simpa using hj
  subst this;exact hb.2 1 (by simp)
theorem ZV(w:World)(a:Option Addr)(n cap m:Nat)(hm:m≤cap):(Instr.sliceAt 148 (.slice a n cap) none (some (.int .i64 (m:Int))) none).run prog w = .ok (.slice a m cap) w:=by
 rw [run_sliceAt_slice (h:=underlying148),run_slice_h (ht:=underlying148) (h0:=by omega) (h2:=by omega)]
 have hz:(sizeOf (prog.elem 148)).run prog w = .ok 2 w:=by kernel_rfl
 rw [hz];simp [Result.andThen,sliced,Addr.add]
theorem dm.drop{w:World}{a:Option Addr}{n m cap:Nat}{l:List Lk}(h:dm w (.slice a n cap) l)(hm:m≤n):∃ a',dm w (.slice a' (n - m) (cap - m)) (l.drop m)∧∀ w',(Instr.sliceAt 148 (.slice a n cap) (some (.int .i64 (m:Int))) none none).run prog w' = .ok (.slice a' (n - m) (cap - m)) w':=by
 obtain ⟨a',eO,he,hle,hn,hc⟩:=h;cases he;refine ⟨if cap=m then a else a.map (·.add (m*2)),⟨_,_,by rw [al],by rw [al];omega,fun ha=>?_,fun j hj=>?_⟩,fun w'=>?_⟩
 ·split at ha
  ·omega
  ·cases a with
   | none=>have:=hn rfl;omega
   | some x=>cases ha
 ·rw [al] at hj;obtain ⟨g,o,ha,h1,h2⟩:=hc (m+j) (by omega)
  subst ha;refine ⟨g,o+m*2,?_,?_,?_⟩
  ·rw [if_neg (by omega)];simp [bh]
  ·rw [cu,show o+m*2+j*2=o+(m+j)*2 by omega];exact h1
  ·rw [cu,show o+m*2+j*2+1=o+(m+j)*2+1 by omega];exact h2
 ·rw [run_sliceAt_slice (h:=underlying148),run_slice_l (ht:=underlying148) (h0:=by omega) (h1:=by omega)]
  have hz:(sizeOf (prog.elem 148)).run prog w' = .ok 2 w':=by kernel_rfl
  rw [hz];simp [Result.andThen,sliced]
end B
end Go.Proofs.YtihmgigfkmofnaaGreatDoor
