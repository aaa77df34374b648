import Derived.Test.YtihmgigfkmofnaaGreatDoorProg
import Derived.WalkKit
import Derived.WalkSpells
import Derived.WalkLawsBesides
import Derived.Deep.AppendLies
import Derived.BigQuiet
import Derived.KernelRfl
import Derived.Laws.IdiomStrings
import Derived.Lib.AppendZeros
import Derived.Test.YtihmgigfkmofnaaGreatDoorA0
set_option maxHeartbeats 1000000
set_option maxRecDepth 20000
open Go.Proofs.Tryz
namespace Go.Proofs.YtihmgigfkmofnaaGreatDoor
open Go.RowKit
def dR(l:List UInt8):List Value:=l.map (fun c=>Value.int .u8 (c.toNat:Int))
theorem a6(l:List UInt8):(dR l).length=l.length:=by simp [dR]
theorem jv(a b:List UInt8):dR (a++b)=dR a++dR b:=by simp [dR]
theorem iz(l:List UInt8)(j:Nat)(h:j<l.length):(dR l)[j]?=some (.int .u8 (l[j].toNat:Int)):=by simp [dR,h]
theorem rp(l:List UInt8):∀ u ∈ dR l,u.oneCell'=true:=by
 intro u hu;simp only [dR,List.mem_map] at hu;obtain ⟨c,_,rfl⟩:=hu;rfl
theorem bsize(s:ByteArray):s.data.toList.length=s.size:=by simp
theorem Tryz.info5:(prog.info? 5).map (fun i=>(i.zero,i.size,i.bytes))=some (some (.int .u8 0),1,1):=by kernel_rfl
def dS(l:List ByteArray)(i:Nat):List UInt8:=(l.take i).flatMap (fun c=>c.data.toList)
def fu(l:List ByteArray)(i:Nat):Nat:=2*l.length+(dS l i).length
def dN(l:List ByteArray):Nat:=fu l l.length
def GZ(e:Nat):UInt8:=UInt8.ofNat (e / 256)
def Fu(e:Nat):UInt8:=UInt8.ofNat (e % 256)
def fR(l:List ByteArray):Nat→List UInt8
 | 0=>[]
 | i+1=>fR l i++[GZ (fu l (i+1)),Fu (fu l (i+1))]
def jl(l:List ByteArray):List UInt8:=fR l l.length++dS l l.length++List.replicate (4072 - dN l) 0
def gS(l:List ByteArray)(i:Nat):List UInt8:=fR l i++List.replicate (2*(l.length - i)) 0++dS l i++List.replicate (4072 - fu l i) 0
theorem uL(l:List ByteArray):dS l 0=[]:=by simp [dS]
theorem uM(l:List ByteArray)(i:Nat)(h:i<l.length):dS l (i+1)=dS l i++l[i].data.toList:=by
 unfold dS;rw [ay h,bh];simp
theorem pE(l:List ByteArray):fu l 0=2*l.length:=by simp [fu,uL]
theorem mc(l:List ByteArray)(i:Nat)(h:i<l.length):fu l (i+1)=fu l i+l[i].size:=by
 unfold fu;rw [uM l i h,ae,bsize];omega
theorem tP(l:List ByteArray)(i:Nat):∀ j,i≤j→j≤l.length→fu l i≤fu l j:=by
 intro j SE;induction j with
 | zero =>
  intro _;have:i=0:=by omega
  subst this;exact aj _
 | succ j ih =>
  intro hj;by_cases h:i=j+1
  ·subst h;exact aj _
  ·have h1:=ih (by omega) (by omega)
   have h2:=mc l j (by omega)
   omega
theorem dJ(l:List ByteArray)(i:Nat):(fR l i).length=2*i:=by
 induction i with
 | zero=>rfl
 | succ i ih=>simp [fR,ih];omega
theorem rY(l:List ByteArray)(h:dN l≤4072):(jl l).length=4072:=by
 have e:dN l=2*l.length+(dS l l.length).length:=rfl;simp only [jl,ae,bw,dJ];omega
theorem EZ(l:List ByteArray)(h:dN l≤4072):gS l 0=List.replicate 4072 0:=by
 have e:dN l=2*l.length+(dS l l.length).length:=rfl;unfold gS;rw [uL,pE,fR,List.nil_append,List.append_nil,List.replicate_append_replicate];congr 1;omega
theorem Hp(l:List ByteArray):gS l l.length=jl l:=by
 simp [gS,jl,dN]
theorem we{l:List ByteArray}(h:dN l≤4072){i:Nat}(hi:i≤l.length):fu l i≤4072:=aq (tP l i l.length hi (aj _)) h
theorem SY(l:List ByteArray)(i:Nat):2*l.length≤fu l i:=by unfold fu;omega
theorem Ho(l:List ByteArray)(i:Nat)(h:dN l≤4072)(hi:i≤l.length):(gS l i).length=4072:=by
 have:=we h hi;have e:fu l i=2*l.length+(dS l i).length:=rfl;simp only [gS,ae,bw,dJ];omega
theorem AL(e:Nat)(h:e≤4072):(GZ e).toNat=e / 256:=by
 simp [GZ];omega
theorem As(e:Nat):(Fu e).toNat=e % 256:=by
 simp [Fu]
def Aa(b:List UInt8)(i:Nat):Nat:=(b.getD (2*i) 0).toNat*256+(b.getD (2*i+1) 0).toNat
def kN(b:List UInt8)(n:Nat):Nat→Nat
 | 0=>2*n
 | i+1=>Aa b i
def L7(b:List UInt8)(n:Nat):Prop:=(n≤2036∧b.length=4072)∧(∀ i,i<n→kN b n i≤kN b n (i+1)∧kN b n (i+1)≤4072)∧∀ j,kN b n n≤j→j<4072→b.getD j 0=0
def yA(b:List UInt8)(n i:Nat):List UInt8:=(b.drop (kN b n i)).take (kN b n (i+1) - kN b n i)
def bT(b:List UInt8)(n:Nat):List ByteArray:=(List.range n).map fun i=>⟨(yA b n i).toArray⟩
theorem fW(b:List UInt8)(n:Nat):(bT b n).length=n:=by simp [bT]
theorem mZ(b:List UInt8)(n i:Nat)(h:i<(bT b n).length):(bT b n)[i].data.toList=yA b n i:=by simp [bT]
theorem C5(l:List ByteArray)(n:Nat):∀ i,i<n→(fR l n)[2*i]?=some (GZ (fu l (i+1)))∧(fR l n)[2*i+1]?=some (Fu (fu l (i+1))):=by
 induction n with
 | zero=>intro i h;omega
 | succ n ih =>
  intro i h;simp only [fR];by_cases hi:i<n
  ·have:=ih i hi;rw [bu (by rw [dJ];omega),bu (by rw [dJ];omega)]
   exact this
  ·have:i=n:=by omega
   subst this;rw [aX (by rw [dJ];omega),aX (by rw [dJ];omega),dJ]
   simp
theorem Np(l:List ByteArray)(h:dN l≤4072)(i:Nat)(hi:i<l.length):Aa (jl l) i=fu l (i+1):=by
 have hg:=C5 l l.length i hi;have hl:=dJ l l.length;have h1:=we h (show i+1≤l.length by omega)
 unfold Aa jl;rw [aJ,aJ,ax,bu (by omega),bu (by omega),hg.1,hg.2]
 simp only [lB];rw [AL _ h1,As];omega
theorem oK(l:List ByteArray)(h:dN l≤4072):∀ i,i≤l.length→kN (jl l) l.length i=fu l i
 | 0,_=>by rw [pE];rfl
 | i+1,hi=>Np l h i (by omega)
theorem G9(l:List ByteArray)(i:Nat)(h:i<l.length):dS l l.length=dS l i++(l[i].data.toList++(l.drop (i+1)).flatMap (fun c=>c.data.toList)):=by
 unfold dS;rw [ar (aj _)];have hd:l.drop i=l[i]::l.drop (i+1):=bf h;have hs:l.flatMap (fun c=>c.data.toList)=(l.take i).flatMap (fun c=>c.data.toList)++(l.drop i).flatMap (fun c=>c.data.toList):=by rw [← bh,aE]
 rw [hs,hd,List.flatMap_cons]
theorem qy(l:List ByteArray)(h:dN l≤4072):L7 (jl l) l.length:=by
 have e:dN l=2*l.length+(dS l l.length).length:=rfl;refine ⟨⟨by omega,rY l h⟩,fun i hi=>?_,fun j hj h'=>?_⟩
 ·rw [oK l h i (by omega),oK l h (i+1) (by omega)]
  exact ⟨tP l i (i+1) (by omega) (by omega),we h (by omega)⟩
 ·rw [oK l h _ (aj _)] at hj;have lW:dN l≤j:=hj;unfold jl;rw [aJ,aX (by rw [ae,dJ];omega)]
  rw [List.getElem?_replicate];split <;> rfl
theorem OA(l:List ByteArray)(h:dN l≤4072)(i:Nat)(hi:i<l.length):yA (jl l) l.length i=l[i].data.toList:=by
 unfold yA;rw [oK l h i (by omega),oK l h (i+1) (by omega),mc l i hi]
 unfold jl;rw [G9 l i hi,← ax,ax (fR l l.length++dS l i)];have e:fu l i=(fR l l.length++dS l i).length:=by rw [ae,dJ];rfl
 rw [ij (by omega),e,List.drop_length,List.nil_append,ax]
 rw [aF (by rw [bsize];omega),ar (by rw [bsize];omega)]
theorem A0(l:List ByteArray)(h:dN l≤4072):bT (jl l) l.length=l:=by
 refine lD (fW _ _) (fun i h1 h2=>?_)
 have:=mZ (jl l) l.length i h1;rw [OA l h i h2] at this;have:(bT (jl l) l.length)[i].data=l[i].data:=Array.toList_inj.1 this;exact congrArg ByteArray.mk this
theorem Js{b:List UInt8}{n:Nat}(h:L7 b n):∀ i,i≤n→kN b n i≤4072
 | 0,_=>by have:=h.1.1;simp only [kN];omega
 | i+1,hi=>(h.2.1 i (by omega)).2
theorem LN{b:List UInt8}{n:Nat}(h:L7 b n)(i:Nat)(hi:i<n):(yA b n i).length=kN b n (i+1) - kN b n i:=by
 have h1:=Js h (i+1) (by omega)
 unfold yA;rw [ag,ao,h.1.2];omega
abbrev Pr:=ByteArray × ByteArray
def zZ(p:Pr):Nat:=5+p.1.size+p.2.size
def fQ(l:List Pr):Nat:=(l.map zZ).sum
def cF(p:Pr):Bool:=decide (1≤p.1.size∧p.1.size≤255∧p.2.size≤700)
theorem eu{p:Pr}(h:cF p=true):1≤p.1.size∧p.1.size≤255∧p.2.size≤700:=by simpa [cF] using h
def df(a b:ByteArray):Bool:=Op.bytesLess a.toList b.toList
def gB(l:List Pr):Prop:=∀ i (h:i+1<l.length),df l[i].1 l[i+1].1=true
theorem kW:fQ []=0:=rfl
theorem nX(p:Pr)(l:List Pr):fQ (p::l)=zZ p+fQ l:=by simp [fQ]
theorem iF(a b:List Pr):fQ (a++b)=fQ a+fQ b:=by simp [fQ]
theorem zp(l:List Pr)(k:Nat)(h:k<l.length):fQ (l.take (k+1))=fQ (l.take k)+zZ l[k]:=by
 rw [ay h,iF];simp [fQ]
theorem ko(l:List Pr):5*l.length≤fQ l:=by
 induction l with
 | nil=>simp
 | cons p l ih=>rw [nX,List.length_cons];unfold zZ;omega
theorem B8(x:List UInt8):Op.bytesLess x x=false:=by
 induction x with
 | nil=>rfl
 | cons a x ih=>simp [Op.bytesLess,ih]
theorem uW:∀ (x y z:List UInt8),Op.bytesLess x y=true→Op.bytesLess y z=true→Op.bytesLess x z=true
 | _,[],_,h,_=>by simp [Op.bytesLess] at h
 | _,_::_,[],_,h=>by simp [Op.bytesLess] at h
 | [],_::_,_::_,_,_=>by simp [Op.bytesLess]
 | a::x,b::y,c::z,h1,h2=>by
  simp only [Op.bytesLess,Bool.or_eq_true,decide_eq_true_eq,cA,beq_iff_eq] at *;rcases h1 with h1 | ⟨rfl,h1⟩
  ·rcases h2 with h2 | ⟨rfl,h2⟩
   ·exact .inl (UInt8.lt_trans h1 h2)
   ·exact .inl h1
  ·rcases h2 with h2 | ⟨rfl,h2⟩
   ·exact .inl h2
   ·exact .inr ⟨rfl,uW x y z h1 h2⟩
theorem uX:∀ (x y:List UInt8),Op.bytesLess x y=false→Op.bytesLess y x=false→x=y
 | [],[],_,_=>rfl
 | [],_::_,h,_=>by simp [Op.bytesLess] at h
 | _::_,[],_,h=>by simp [Op.bytesLess] at h
 | a::x,b::y,h1,h2=>by
  simp only [Op.bytesLess,Bool.or_eq_false_iff,decide_eq_false_iff_not,Bool.and_eq_false_imp,beq_iff_eq] at *;have zh:a=b:=by
   have:=UInt8.not_lt.1 h1.1;have:=UInt8.not_lt.1 h2.1;exact UInt8.le_antisymm ‹_› ‹_›
  subst zh;rw [uX x y (h1.2 rfl) (h2.2 rfl)]
theorem jz(a:ByteArray):df a a=false:=B8 _
theorem de{a b c:ByteArray}(h1:df a b=true)(h2:df b c=true):df a c=true:=uW _ _ _ h1 h2
theorem jf{x y:ByteArray}(h:x.data.toList=y.data.toList):x=y:=by
 have:x.data=y.data:=Array.toList_inj.1 h;exact congrArg ByteArray.mk this
theorem lT{a b:ByteArray}(h1:df a b=false)(h2:df b a=false):a=b:=by
 have:=uX _ _ h1 h2;rw [ByteArray.toList_eq,ByteArray.toList_eq] at this;exact jf this
theorem lU{a b:ByteArray}(h:df a b=true):df b a=false:=by
 cases h':df b a
 ·rfl
 ·have:=de h h';rw [jz] at this;cases this
theorem gB.lt{l:List Pr}(h:gB l)(i:Nat):∀ j (hj:j<l.length) (SE:i<j),df (l[i]'(by omega)).1 l[j].1=true:=by
 intro j;induction j with
 | zero=>intro _ h;omega
 | succ j ih =>
  intro hj SE;by_cases he:i=j
  ·subst he;exact h i hj
  ·exact de (ih (by omega) (by omega)) (h j hj)
theorem De:gB []:=fun i h=>by simp at h
theorem gB.take{l:List Pr}(h:gB l)(k:Nat):gB (l.take k):=fun i hi=>by
 rw [ag] at hi;simp only [bZ];exact h i (by omega)
theorem gB.drop{l:List Pr}(h:gB l)(k:Nat):gB (l.drop k):=fun i hi=>by
 rw [ao] at hi;simp only [cY];exact h (k+i) (by omega)
theorem Kg{l:List Pr}(p:Pr):gB (l++[p])↔gB l∧∀ (h:0<l.length),df (l[l.length - 1]'(by omega)).1 p.1=true:=by
 constructor
 ·intro h;refine ⟨fun i hi=>?_,fun h0=>?_⟩
  ·have:=h i (by simp;omega)
   rwa [aM (by omega),aM (by omega)] at this
  ·have:=h (l.length - 1) (by simp;omega)
   rw [aM (by omega)] at this
   have e:(l++[p])[l.length - 1+1]'(by simp;omega)=p:=by
    simp only [show l.length - 1+1=l.length by omega];simp
   rwa [e] at this
 ·rintro ⟨h1,h2⟩ i hi;simp only [ae,aO] at hi;by_cases he:i+1<l.length
  ·rw [aM (by omega),aM (by omega)]
   exact h1 i he
  ·have e:i=l.length - 1:=by omega
   have h0:0<l.length:=by omega
   rw [aM (by omega)]
   have e2:(l++[p])[i+1]'(by simp;omega)=p:=by
    simp only [show i+1=l.length by omega];simp
   rw [e2];simp only [e];exact h2 h0
instance (l:List Pr):Decidable (gB l):=decidable_of_iff (∀ i:Fin l.length,∀ h:i.1+1<l.length,df l[i.1].1 l[i.1+1].1=true) ⟨fun h i hi=>h ⟨i,by omega⟩ hi,fun h i hi=>h i.1 hi⟩
def zO(l:List Pr)(root:Bool):Option Nat :=
 if l.all cF=false then some 0
 else if ¬ gB l then some 11
 else if 4072<fQ l then some 2
 else if l=[]∨root=false∧fQ l<1556 then some 3
 else none
theorem sD{l:List Pr}{root:Bool}(h:zO l root=none):(∀ p ∈ l,cF p=true)∧gB l∧fQ l≤4072∧l≠[]∧(root=false→1556≤fQ l):=by
 unfold zO at h;split at h
 ·cases h
 ·rename_i h1
  split at h
  ·cases h
  ·rename_i h2
   split at h
   ·cases h
   ·rename_i h3
    split at h
    ·cases h
    ·rename_i h4
     refine ⟨fun p hp=>?_,Classical.not_not.1 h2,by omega,fun e=>h4 (.inl e),fun hr=>?_⟩
     ·have:l.all cF=true:=by cases h:l.all cF <;> simp_all
      exact List.all_eq_true.1 this p hp
     ·rcases aZ (fQ l) 1556 with h' | h'
      ·exact absurd (.inr ⟨hr,h'⟩) h4
      ·exact h'
def aQ(l:List Pr)(key:ByteArray):Nat:=l.findIdx (fun p=>!df p.1 key)
def bq(l:List Pr)(key:ByteArray):Bool:=match l[aQ l key]? with | some p=>decide (p.1=key) | none=>false
def bW(l:List Pr)(key:ByteArray):Nat:=if bq l key then aQ l key+1 else aQ l key
def eT(l:List Pr)(key value:ByteArray):List Pr:=l.take (aQ l key)++(key,value)::l.drop (bW l key)
def cX(l:List Pr)(key:ByteArray):List Pr:=l.take (aQ l key)++l.drop (bW l key)
theorem cW(l:List Pr)(key:ByteArray):aQ l key≤l.length:=List.findIdx_le_length
theorem jQ(l:List Pr)(key:ByteArray)(j:Nat)(h:j<aQ l key)(hj:j<l.length):df l[j].1 key=true:=by
 have:=List.not_of_lt_findIdx h;simpa using this
theorem sA(l:List Pr)(key:ByteArray)(h:aQ l key<l.length):df l[aQ l key].1 key=false:=by
 have:=List.findIdx_getElem (xs:=l) (p:=fun q:Pr=>!df q.1 key) (w:=h)
 simp only [Bool.not_eq_true'] at this;exact this
theorem sw{l:List Pr}{key:ByteArray}{k:Nat}(hk:k<l.length)(h1:∀ j (hj:j<k),df (l[j]'(by omega)).1 key=true)(h2:df l[k].1 key=false):aQ l key=k:=by
 rcases Nat.lt_trichotomy (aQ l key) k with h | h | h
 ·have:=sA l key (by omega)
  rw [h1 _ h] at this;cases this
 ·exact h
 ·have:=jQ l key k h hk;rw [h2] at this;cases this
theorem qO{l:List Pr}{key:ByteArray}(h1:∀ j (hj:j<l.length),df l[j].1 key=true):aQ l key=l.length:=by
 rcases aZ (aQ l key) l.length with h | h
 ·have:=sA l key h;rw [h1 _ h] at this;cases this
 ·have:=cW l key;omega
theorem l8{l:List Pr}{key:ByteArray}(h:aQ l key<l.length):bq l key=decide (l[aQ l key].1=key):=by
 unfold bq;rw [af h]
theorem oI{l:List Pr}{key:ByteArray}(h:¬ aQ l key<l.length):bq l key=false:=by
 unfold bq;rw [bB (by omega)]
theorem l7{l:List Pr}{key:ByteArray}(h:bq l key=true):aQ l key<l.length:=by
 rcases aZ (aQ l key) l.length with h' | h'
 ·exact h'
 ·rw [oI (by omega)] at h;cases h
theorem jF(l:List Pr)(key:ByteArray):bW l key≤l.length:=by
 unfold bW;split
 ·rename_i h;exact l7 h
 ·exact cW _ _
theorem eP(l:List Pr)(key:ByteArray):aQ l key≤bW l key:=by
 unfold bW;split <;> omega
def Boxed(b:Nat)(cs:List Value)(w:World):Prop:=b<w.heap.size∧∀ j (h:j<cs.length),w.cell? ⟨b,j,none⟩=some cs[j]
theorem Boxed.below{b:Nat}{cs:List Value}{w w':World}(h:Boxed b cs w)(hb:Below w.heap.size w w'):Boxed b cs w' :=
 ⟨al h.1 hb.size,fun j hj=>(hb.cell (p:=⟨b,j,none⟩) h.1).trans (h.2 j hj)⟩
theorem bM(w:World)(cs:Array Value)(t:TypeId):Boxed w.heap.size cs.toList (w.alloc (.cells cs t)):=by
 refine ⟨by simp,fun j hj=>?_⟩
 have h:(w.alloc (.cells cs t)).heap[w.heap.size]?=some (.cells cs t (0,0)):=heap_alloc_new w _;rw [cell_of_row _ w.heap.size j cs t (0,0) h];simp only [Array.length_toList] at hj;simp [hj]
theorem ai(w:World)(o:Obj):Below w.heap.size w (w.alloc o):=(Below.refl _ _).alloc (aj _) o
theorem Below.next{a b c:World}(h:Below a.heap.size a b)(k:Below b.heap.size b c):Below a.heap.size a c:=h.trans (k.mono h.size)
theorem IG{k:IntKind}{a b:Int}(h:a=b):Ending.returned (.int k a) = .returned (.int k b):=by rw [h]
theorem aB{B:Nat}{a w:World}(h:Below B a w)(n:Nat):Below B a (w.drewN n):=⟨h.os,h.tape,h.output,h.size,h.block⟩
theorem ab{p:Prop}(h:p):Hid p:=h
def nh(w:World)(v:Value)(us:List Value):Prop:=∃ a cap,v = .slice a us.length cap∧us.length≤cap∧(a=none→cap=0)∧∀ j u,us[j]?=some u→∃ g o,a=some ⟨g,o,none⟩∧w.cell? ⟨g,o+j,none⟩=some u
theorem nh.below{w w':World}{v:Value}{us:List Value}(h:nh w v us)(hb:Below w.heap.size w w'):nh w' v us:=by
 obtain ⟨a,cap,rfl,hle,hn,hc⟩:=h;refine ⟨a,cap,rfl,hle,hn,fun j u hj=>?_⟩
 obtain ⟨g,o,ha,bE⟩:=hc j u hj;exact ⟨g,o,ha,(hb.cell (p:=⟨g,o+j,none⟩) (World.block_lt_of_cell? w _ bE)).trans bE⟩
theorem fS{w:World}{base e n:Nat}{v:Value}{us:List Value}(h:w.ownsRow base e 1 v n us):nh w v us:=by
 have hl:=h.1;rw [Nat.mul_one] at hl;rcases h.2 with ⟨rfl,hn⟩ | ⟨g,cap,cur,rfl,hb,hg,Cs,sO,fG,mC⟩
 ·have h0:us.length=0:=by omega
  exact ⟨none,0,by rw [h0],by omega,fun _=>rfl,fun j u hj=>by rw [List.length_eq_zero_iff.1 h0] at hj;simp at hj⟩
 ·refine ⟨some ⟨g,0,none⟩,cap,by rw [hl],by omega,fun h=>(by cases h),fun j u hj=>⟨g,0,rfl,?_⟩⟩
  have lW:=(List.getElem?_eq_some_iff.1 hj).1;rw [Nat.zero_add,h.cellAt j (by omega)];exact hj
theorem nh.take{w:World}{a:Option Addr}{n m cap:Nat}{us:List Value}(h:nh w (.slice a n cap) us)(hm:m≤n):nh w (.slice a m cap) (us.take m):=by
 obtain ⟨a',eO,he,hle,hn,hc⟩:=h;cases he;refine ⟨a,cap,by rw [ag,a8 hm],by rw [ag];omega,hn,fun j u hj=>hc j u ?_⟩
 rw [b7] at hj;split at hj
 ·exact hj
 ·cases hj
theorem bA(b o c:Nat):(⟨b,o,none⟩ : Addr).add c=⟨b,o+c,none⟩:=by
 unfold Addr.add;split
 ·rename_i h;rw [h,Nat.add_zero]
 ·rfl
theorem ng(t e:TypeId)(z:Value)(bytes:Nat)(YS:(prog.info? e).map (fun i=>(i.zero,i.size,i.bytes))=some (some z,1,bytes))(ht:prog.underlying t=some (.slice e))(mB:z.cells.size=1)(base n:Nat)(v:Value)(xs:List Value)(w:World)(aD:w.ownsRow base e 1 v n xs)(s:Value)(us:List Value)(hs:nh w s us)(h1:∀ u ∈ us,u.oneCell'=true)(hb:(n+us.length)*bytes≤140737488355328)(aN:1≤bytes)(dr:base≤w.heap.size):∃ a' eO w',(Builtin.append_ #[t,t] t #[v,s]).run prog w = .ok (.slice a' (n+us.length) eO) w'∧w'.ownsRow base e 1 (.slice a' (n+us.length) eO) (n+us.length) (xs++us)∧w.grownBy w' v.ownBlock:=by
 obtain ⟨i0,hi,hz,cp,kL⟩:=info_parts YS;obtain ⟨a,cap,rfl,hle,qH,hc⟩:=hs;cases a with
 | none =>
  have h0:us=[]:=by
   cases us with
   | nil=>rfl
   | cons u r=>obtain ⟨g,o,he,_⟩:=hc 0 u rfl;cases he
  subst h0;rw [qH rfl];have hr:=run_append_owned_none (P:=prog) w base t t e i0 1 ht hi v n xs aD;have hf:∃ a' c',v = .slice a' n c':=by
   rcases aD.2 with ⟨rfl,rfl⟩ | ⟨g,cap,cur,rfl,_⟩
   ·exact ⟨_,_,rfl⟩
   ·exact ⟨_,_,rfl⟩
  obtain ⟨a',c',rfl⟩:=hf;exact ⟨a',c',w,hr,by rw [List.append_nil];exact aD,⟨rfl,rfl,rfl,aj _,fun _ _ _=>rfl⟩⟩
 | some ad =>
  have hB:(n+us.length)*1≤(n+us.length)*bytes:=Nat.mul_le_mul_left _ aN;obtain ⟨v',w',hr,gk,AN,_⟩:=run_append_own (P:=prog) w base t t e i0 z 1 bytes ht hi hz cp kL mB (by decide) v n xs aD ad us.length cap us (by rw [Nat.mul_one]) (fun j u hj=>by
   obtain ⟨g,o,he,bE⟩:=hc j u hj;cases he;rw [bA];exact bE) h1 (by unfold maxLen;omega) hb dr
  have hf:∃ a' c',v' = .slice a' (n+us.length) c':=by
   rcases gk.2 with ⟨rfl,h0⟩ | ⟨g,cap,cur,rfl,_⟩
   ·exact ⟨none,0,by rw [h0]⟩
   ·exact ⟨_,_,rfl⟩
  obtain ⟨a',c',rfl⟩:=hf;exact ⟨a',c',w',hr,gk,AN⟩
theorem wpList_append_run{ops:Array Oper}{rest:List Oper}{o:Oper}{a:Act}{w:World}{Q:Exit→Act→World→Prop}(t:TypeId)(nQ:o.guard=none)(d x:Operand)
  (ho:o.op = .call { callee:=.builtin .append,args:=#[d,x],argTypes:=#[t,t] }) (BN:o.type=t) (vd vx:Value) (hd:a.eval d=vd) (hx:a.eval x=vx) (v:Value) (w':World)
  (bo:(Builtin.append_ #[t,t] t #[vd,vx]).run prog w = .ok v w') (h:wpList prog ops Q rest (a.put o.dst v) w'):wpList prog ops Q (o::rest) a w :=
 wpList_plain nQ fun _ hK=>by
  unfold Oper.wp;simp [execOp,ho,resolve,invoke,builtin,hd,hx,BN,bo,Result.andThen]
  exact hK _ _ h
def ints(l:List Int):List Value:=l.map (Value.int .i64)
theorem jP(l:List Int):(ints l).length=l.length:=by simp [ints]
theorem OE(l:List Int)(j:Nat)(h:j<l.length):(ints l)[j]?=some (.int .i64 l[j]):=by simp [ints,h]
theorem ox(a b:List Int):ints (a++b)=ints a++ints b:=by simp [ints]
theorem info3:(prog.info? 3).map (fun i=>(i.zero,i.size,i.bytes))=some (some (.int .i64 0),1,8):=by kernel_rfl
def jj(l:List Pr):List Value:=l.flatMap fun p=>[.string p.1,.string p.2]
theorem Dl(p:Pr)(l:List Pr):jj (p::l) = .string p.1::.string p.2::jj l:=by simp [jj]
theorem w9(a b:List Pr):jj (a++b)=jj a++jj b:=by simp [jj]
theorem eJ(l:List Pr):(jj l).length=l.length*2:=by
 induction l with
 | nil=>rfl
 | cons p l ih=>rw [Dl];simp [ih];omega
theorem vF(l:List Pr):∀ j (h:j<l.length),(jj l)[j*2]?=some (.string l[j].1)∧(jj l)[j*2+1]?=some (.string l[j].2):=by
 induction l with
 | nil=>intro j h;simp at h
 | cons p l ih =>
  intro j h;rw [Dl];cases j with
  | zero=>exact ⟨rfl,rfl⟩
  | succ j =>
   have:=ih j (by simpa using h)
   rw [show (j+1)*2=j*2+1+1 by omega]
   simpa using this
theorem RM(l:List Pr):∀ u ∈ jj l,u.oneCell'=true:=by
 intro u hu;simp only [jj,lC] at hu;obtain ⟨p,_,h⟩:=hu;simp at h
 rcases h with rfl | rfl <;> rfl
theorem I9:(prog.info? 52).map (fun i=>(i.zero,i.size,i.bytes))=some (some (.agg #[.string ByteArray.empty,.string ByteArray.empty]),2,32):=by kernel_rfl
def To(l:List Pr):Prop:=∀ p ∈ l,p.1.size≤140737488355328∧p.2.size≤140737488355328
def gZ(w:World)(v:Value)(l:List Pr):Prop:=∃ a cap,v = .slice a l.length cap∧l.length≤cap∧(a=none→cap=0) ∧
 ∀ j (h:j<l.length),∃ g o,a=some ⟨g,o,none⟩∧w.cell? ⟨g,o+j*2,none⟩=some (.string l[j].1)∧w.cell? ⟨g,o+j*2+1,none⟩=some (.string l[j].2)
theorem gZ.below{w w':World}{v:Value}{l:List Pr}(h:gZ w v l)(hb:Below w.heap.size w w'):gZ w' v l:=by
 obtain ⟨a,cap,rfl,hle,hn,hc⟩:=h;refine ⟨a,cap,rfl,hle,hn,fun j hj=>?_⟩
 obtain ⟨g,o,ha,h1,h2⟩:=hc j hj;exact ⟨g,o,ha,(hb.cell (p:=⟨g,o+j*2,none⟩) (World.block_lt_of_cell? w _ h1)).trans h1,(hb.cell (p:=⟨g,o+j*2+1,none⟩) (World.block_lt_of_cell? w _ h2)).trans h2⟩
theorem gZ.form{w:World}{v:Value}{l:List Pr}(h:gZ w v l):∃ a c,v = .slice a l.length c:=by
 obtain ⟨a,c,rfl,_⟩:=h;exact ⟨a,c,rfl⟩
theorem gZ.rQ{w:World}{base n:Nat}{v:Value}{l:List Pr}(h:w.ownsRow base 52 2 v n (jj l)):gZ w v l:=by
 have hl:=h.1;rw [eJ] at hl;have hl:l.length=n:=by omega
 rcases h.2 with ⟨rfl,hn⟩ | ⟨g,cap,cur,rfl,hb,hg,Cs,sO,fG,mC⟩
 ·have h0:l.length=0:=by omega
  exact ⟨none,0,by rw [h0],by omega,fun _=>rfl,fun j hj=>by omega⟩
 ·refine ⟨some ⟨g,0,none⟩,cap,by rw [hl],by omega,fun h=>(by cases h),fun j hj=>⟨g,0,rfl,?_,?_⟩⟩
  ·rw [Nat.zero_add,h.cellAt (j*2) (by omega)];exact (vF l j hj).1
  ·rw [Nat.zero_add,h.cellAt (j*2+1) (by omega)];exact (vF l j hj).2
theorem gZ.take{w:World}{a:Option Addr}{n m cap:Nat}{l:List Pr}(h:gZ w (.slice a n cap) l)(hm:m≤n):gZ w (.slice a m cap) (l.take m):=by
 obtain ⟨a',eO,he,hle,hn,hc⟩:=h;cases he;refine ⟨a,cap,by rw [ag,a8 hm],by rw [ag];omega,hn,fun j hj=>?_⟩
 rw [ag] at hj;obtain ⟨g,o,ha,h1,h2⟩:=hc j (by omega)
 exact ⟨g,o,ha,by rw [bZ];exact h1,by rw [bZ];exact h2⟩
theorem gZ.nil(w:World):gZ w (.slice none 0 0) []:=⟨none,0,rfl,aj _,fun _=>rfl,fun j h=>by simp at h⟩
def pU(n:Nat):Int:=IntKind.i64.wrap (n:Int)
theorem Bd(a b:Nat):IntKind.i64.wrap (pU a+(b:Int))=pU (a+b):=by
 unfold pU;rw [IntKind.wrap_i64,IntKind.wrap_i64,IntKind.wrap_i64];omega
theorem ky{n:Nat}(h:n≤4611686018427387904):pU n=(n:Int):=by
 unfold pU;rw [IntKind.wrap_i64];omega
theorem uB(p:Pr)(w:World)(h1:p.1.size≤140737488355328)(h2:p.2.size≤140737488355328):Calls prog 201 #[.agg #[.string p.1,.string p.2]] w fun e w'=>e = .returned (.int .i64 (zZ p:Int))∧Below w.heap.size w w':=by
 have fh:=ai w (.cells #[.string p.1,.string p.2] 52);have vT:IntKind.i64.wrap (5+(p.1.size:Int))=5+(p.1.size:Int):=by rw [IntKind.wrap_i64];omega
 have QU:IntKind.i64.wrap (5+(p.1.size:Int)+(p.2.size:Int))=(zZ p:Int):=by rw [IntKind.wrap_i64];unfold zZ;omega
 go_enter func201,ntmps201;go_wp2;go_ret;exact ⟨rfl,fh⟩
theorem Ar(v:Value)(l:List Pr)(w:World)(cC:To l)(hm:l.length≤140737488355328)(hr:gZ w v l):Calls prog 161 #[v] w fun e w'=>e = .returned (.int .i64 (pU (fQ l)))∧Below w.heap.size w w':=by
 obtain ⟨a,cap,rfl,du,_,hc⟩:=hr;have HC:=ab hc;obtain ⟨n,hn⟩ : ∃ n,n=l.length:=⟨_,rfl⟩;rw [← hn] at hm ⊢;have HN:=ab hn;have qZ:=ab cC;clear hc hn du cC;go_enter func161,ntmps161;go_wp2;go_loopw [3,8] (fun r i wr=>∃ k:Nat,k≤n∧i = .int .i64 k∧r = .int .i64 (pU (fQ (l.take k)))∧Below w.heap.size w wr) (fun _ i _=>n - (intOf i).toNat)
 case atStart=>exact ⟨0,aC _,rfl,rfl,Below.refl _ _⟩
 case round =>
  obtain ⟨k,hk,rfl,rfl,bL⟩:=hrel;by_cases bX:k<n
  ·have ep:k<l.length:=by have:=HN.out;omega
   obtain ⟨g,o,rfl,f1,f2⟩:=HC.out k ep;have c1:wr.cell? ⟨g,o+k*2,none⟩=some (.string l[k].1):=(bL.cell (p:=⟨g,o+k*2,none⟩) (World.block_lt_of_cell? w _ f1)).trans f1;have c2:wr.cell? ⟨g,o+k*2+1,none⟩=some (.string l[k].2):=(bL.cell (p:=⟨g,o+k*2+1,none⟩) (World.block_lt_of_cell? w _ f2)).trans f2;have AI:=qZ.out l[k] (aH _);have zD:IntKind.i64.wrap (pU (fQ (l.take k))+(zZ l[k] : Int))=pU (fQ (l.take (k+1))):=by rw [Bd,← zp l k ep]
   obtain ⟨p,hp⟩ : ∃ p,p=l[k]:=⟨_,rfl⟩;rw [← hp] at c1 c2 zD AI;have HZ:=ab (fun W=>uB p W AI.1 AI.2)
   obtain ⟨x,hx⟩ : ∃ x,x=pU (fQ (l.take k)):=⟨_,rfl⟩;obtain ⟨y,hy⟩ : ∃ y,y=pU (fQ (l.take (k+1))):=⟨_,rfl⟩;obtain ⟨z,hz⟩ : ∃ z,z=zZ p:=⟨_,rfl⟩;rw [← hx,← hy,← hz] at zD;rw [← hx];rw [← hz] at HZ;have HY:=ab hy;have dO:(k:Int)<(n:Int):=by omega
   have HB:=ab (Below.next bL (ai wr (.cells #[.string p.1,.string p.2] 52)));clear hp hx hy hz HC f1 f2 bL AI;go_wp2_with fail;refine (HZ.out _).mono ?_
   rintro e w1 ⟨rfl,aN⟩;have bN:=ab (Below.next HB.out aN);clear aN HB HZ c1 c2;go_wp2;go_roundw
   case rel=>exact ⟨k+1,by omega,by go_num,by rw [← HY.out],bN.out⟩
   case measure=>simp [intOf];omega
  ·have cZ:l.take k=l:=by rw [ar];have:=HN.out;omega
   rw [cZ];have HB:=ab bL;have dO:¬ (k:Int)<(n:Int):=by omega
   obtain ⟨x,hx⟩ : ∃ x,x=pU (fQ l):=⟨_,rfl⟩;rw [← hx];have HX:=ab hx;clear HC bL cZ hx;go_wp2;go_ret;exact ⟨by rw [← HX.out];rfl,HB.out⟩
namespace B
abbrev Lk:=ByteArray × Int
def yZ(p:Lk):Nat:=7+p.1.size
def jw(l:List Lk):Nat:=6+(l.map yZ).sum
def fV(n:Int):Bool:=decide (2≤n∧n<1048576)
def gz(p:Lk):Bool:=decide (1≤p.1.size∧p.1.size≤255∧2≤p.2∧p.2<1048576)
theorem kJ{p:Lk}(h:gz p=true):1≤p.1.size∧p.1.size≤255∧2≤p.2∧p.2<1048576:=by simpa [gz] using h
def nA(l:List Lk):Prop:=∀ i (h:i+1<l.length),df l[i].1 l[i+1].1=true
instance (l:List Lk):Decidable (nA l):=decidable_of_iff (∀ i:Fin l.length,∀ h:i.1+1<l.length,df l[i.1].1 l[i.1+1].1=true) ⟨fun h i hi=>h ⟨i,by omega⟩ hi,fun h i hi=>h i.1 hi⟩
def kids(f:Int)(l:List Lk):List Int:=f::l.map (·.2)
theorem sf(f:Int)(l:List Lk):(kids f l).length=l.length+1:=by simp [kids]
theorem Bi:jw []=6:=rfl
theorem FZ(a b:List Lk):jw (a++b)+6=jw a+jw b:=by simp [jw];omega
theorem nY(p:Lk)(l:List Lk):jw (p::l)=yZ p+jw l:=by simp [jw];omega
theorem zq(l:List Lk)(k:Nat)(h:k<l.length):jw (l.take (k+1))=jw (l.take k)+yZ l[k]:=by
 have e:=FZ (l.take k) [l[k]];rw [ay h];have:jw [l[k]]=yZ l[k]+6:=by rw [nY,Bi]
 omega
theorem rr(l:List Lk):7*l.length+6≤jw l:=by
 induction l with
 | nil=>simp [jw]
 | cons p l ih=>rw [nY,List.length_cons];unfold yZ;omega
theorem Rt{l:List Lk}(h:l.all gz=true):jw l≤262*l.length+6:=by
 induction l with
 | nil=>simp [jw]
 | cons p l ih =>
  simp only [List.all_cons,cA] at h;have h1:=kJ h.1;have h2:=ih h.2;rw [nY,List.length_cons];unfold yZ;omega
def mX(f:Int)(l:List Lk)(root:Bool):Option Nat :=
 if l=[] then some 3
 else if (fV f && l.all gz)=false then some 0
 else if ¬ nA l then some 11
 else if ¬ (kids f l).Nodup then some 4
 else if 4072<jw l then some 2
 else if root=false∧jw l<1777 then some 3
 else none
theorem kD{f:Int}{l:List Lk}{root:Bool}(h:mX f l root=none):l≠[]∧fV f=true∧(∀ p ∈ l,gz p=true)∧nA l∧(kids f l).Nodup∧jw l≤4072∧(root=false→1777≤jw l):=by
 unfold mX at h;split at h
 ·cases h
 ·rename_i h0
  split at h
  ·cases h
  ·rename_i h1
   split at h
   ·cases h
   ·rename_i h2
    split at h
    ·cases h
    ·rename_i h3
     split at h
     ·cases h
     ·rename_i h4
      split at h
      ·cases h
      ·rename_i h5
       have Jm:fV f=true∧l.all gz=true:=by
        cases hc:fV f <;> cases ha:l.all gz <;> simp_all
       refine ⟨h0,Jm.1,List.all_eq_true.1 Jm.2,Classical.not_not.1 h2,Classical.not_not.1 h3,by omega,fun hr=>?_⟩
       rcases aZ (jw l) 1777 with h' | h'
       ·exact absurd ⟨hr,h'⟩ h5
       ·exact h'
def dD(l:List Lk)(i:Nat)(p:Lk):List Lk:=l.take i++p::l.drop i
def cB(l:List Lk)(i:Nat):List Lk:=l.take i++l.drop (i+1)
def iQ(a:List Lk)(key:ByteArray)(f:Int)(b:List Lk):List Lk:=a++(key,f)::b
def bg(l:List Lk):List Value:=l.flatMap fun p=>[.string p.1,.int .i64 p.2]
theorem ee(p:Lk)(l:List Lk):bg (p::l) = .string p.1::.int .i64 p.2::bg l:=by simp [bg]
theorem dt(a b:List Lk):bg (a++b)=bg a++bg b:=by simp [bg]
theorem a7(l:List Lk):(bg l).length=l.length*2:=by
 induction l with
 | nil=>rfl
 | cons p l ih=>rw [ee];simp [ih];omega
theorem ib(l:List Lk):∀ j (h:j<l.length),(bg l)[j*2]?=some (.string l[j].1)∧(bg l)[j*2+1]?=some (.int .i64 l[j].2):=by
 induction l with
 | nil=>intro j h;simp at h
 | cons p l ih =>
  intro j h;rw [ee];cases j with
  | zero=>exact ⟨rfl,rfl⟩
  | succ j =>
   have:=ih j (by simpa using h)
   rw [show (j+1)*2=j*2+1+1 by omega]
   simpa using this
theorem fT(l:List Lk):∀ u ∈ bg l,u.oneCell'=true:=by
 intro u hu;simp only [bg,lC] at hu;obtain ⟨p,_,h⟩:=hu;simp at h
 rcases h with rfl | rfl <;> rfl
theorem lV:(prog.info? 179).map (fun i=>(i.zero,i.size,i.bytes))=some (some (.agg #[.string ByteArray.empty,.int .i64 0]),2,24):=by kernel_rfl
def Uz(l:List Lk):Prop:=∀ p ∈ l,p.1.size≤140737488355328
def dm(w:World)(v:Value)(l:List Lk):Prop:=∃ a cap,v = .slice a l.length cap∧l.length≤cap∧(a=none→cap=0) ∧
 ∀ j (h:j<l.length),∃ g o,a=some ⟨g,o,none⟩∧w.cell? ⟨g,o+j*2,none⟩=some (.string l[j].1)∧w.cell? ⟨g,o+j*2+1,none⟩=some (.int .i64 l[j].2)
theorem dm.below{w w':World}{v:Value}{l:List Lk}(h:dm w v l)(hb:Below w.heap.size w w'):dm w' v l:=by
 obtain ⟨a,cap,rfl,hle,hn,hc⟩:=h;refine ⟨a,cap,rfl,hle,hn,fun j hj=>?_⟩
 obtain ⟨g,o,ha,h1,h2⟩:=hc j hj;exact ⟨g,o,ha,(hb.cell (p:=⟨g,o+j*2,none⟩) (World.block_lt_of_cell? w _ h1)).trans h1,(hb.cell (p:=⟨g,o+j*2+1,none⟩) (World.block_lt_of_cell? w _ h2)).trans h2⟩
theorem dm.form{w:World}{v:Value}{l:List Lk}(h:dm w v l):∃ a c,v = .slice a l.length c:=by
 obtain ⟨a,c,rfl,_⟩:=h;exact ⟨a,c,rfl⟩
theorem dm.rQ{w:World}{base n:Nat}{v:Value}{l:List Lk}(h:w.ownsRow base 179 2 v n (bg l)):dm w v l:=by
 have hl:=h.1;rw [a7] at hl;have hl:l.length=n:=by omega
 rcases h.2 with ⟨rfl,hn⟩ | ⟨g,cap,cur,rfl,hb,hg,Cs,sO,fG,mC⟩
 ·have h0:l.length=0:=by omega
  exact ⟨none,0,by rw [h0],by omega,fun _=>rfl,fun j hj=>by omega⟩
 ·refine ⟨some ⟨g,0,none⟩,cap,by rw [hl],by omega,fun h=>(by cases h),fun j hj=>⟨g,0,rfl,?_,?_⟩⟩
  ·rw [Nat.zero_add,h.cellAt (j*2) (by omega)];exact (ib l j hj).1
  ·rw [Nat.zero_add,h.cellAt (j*2+1) (by omega)];exact (ib l j hj).2
theorem dm.take{w:World}{a:Option Addr}{n m cap:Nat}{l:List Lk}(h:dm w (.slice a n cap) l)(hm:m≤n):dm w (.slice a m cap) (l.take m):=by
 obtain ⟨a',eO,he,hle,hn,hc⟩:=h;cases he;refine ⟨a,cap,by rw [ag,a8 hm],by rw [ag];omega,hn,fun j hj=>?_⟩
 rw [ag] at hj;obtain ⟨g,o,ha,h1,h2⟩:=hc j (by omega)
 exact ⟨g,o,ha,by rw [bZ];exact h1,by rw [bZ];exact h2⟩
theorem dm.nil(w:World):dm w (.slice none 0 0) []:=⟨none,0,rfl,aj _,fun _=>rfl,fun j h=>by simp at h⟩
def bQ(w:World)(base:Nat)(v:Value)(l:List Lk):Prop:=w.ownsRow base 179 2 v l.length (bg l)
theorem bQ.at{w:World}{base:Nat}{v:Value}{l:List Lk}(h:bQ w base v l):dm w v l:=dm.rQ h
theorem bQ.form{w:World}{base:Nat}{v:Value}{l:List Lk}(h:bQ w base v l):∃ a c,v = .slice a l.length c:=h.at.form
theorem bQ.below{w w':World}{base:Nat}{v:Value}{l:List Lk}(h:bQ w base v l)(hb:Below w.heap.size w w'):bQ w' base v l:=by
 refine ⟨h.1,?_⟩;rcases h.2 with h' | ⟨g,cap,cur,h',h1,h2,hr⟩
 ·exact .inl h'
 ·refine .inr ⟨g,cap,cur,h',h1,?_,hr⟩;have hg:g<w.heap.size:=by
   rcases aZ g w.heap.size with h' | h'
   ·exact h'
   ·rw [aV h'] at h2;cases h2
  rw [hb.block g hg];exact h2
theorem bQ.mono{w:World}{b b2:Nat}{v:Value}{l:List Lk}(h:bQ w b v l)(hb:b2≤b):bQ w b2 v l:=by
 refine ⟨h.1,?_⟩;rcases h.2 with h' | ⟨g,cap,cur,h',h1,hr⟩
 ·exact .inl h'
 ·exact .inr ⟨g,cap,cur,h',aq hb h1,hr⟩
theorem bQ.nil(w:World)(base:Nat):bQ w base (.slice none 0 0) []:=World.ownsRow_nil _ _ _ _
theorem fo(base:Nat)(v s:Value)(xs us:List Lk)(w:World)(aD:bQ w base v xs)(hs:dm w s us)(hb:(xs.length+us.length)*24≤140737488355328)(dr:base≤w.heap.size):∃ a' eO w',(Builtin.append_ #[148,148] 148 #[v,s]).run prog w = .ok (.slice a' (xs.length+us.length) eO) w'∧bQ w' base (.slice a' (xs.length+us.length) eO) (xs++us)∧w.grownBy w' v.ownBlock:=by
 obtain ⟨i0,hi,hz,cp,kL⟩:=info_parts lV;obtain ⟨a,cap,rfl,hle,qH,hc⟩:=hs;have SG:∃ a' c',v = .slice a' xs.length c':=aD.form;unfold bQ at aD ⊢;rw [ae,dt];cases a with
 | none =>
  have h0:us=[]:=by
   cases us with
   | nil=>rfl
   | cons u r=>obtain ⟨g,o,he,_⟩:=hc 0 (by simp);cases he
  subst h0;rw [qH rfl];have hr:=run_append_owned_none (P:=prog) w base 148 148 179 i0 2 underlying148 hi v xs.length (bg xs) aD;obtain ⟨a',c',rfl⟩:=SG;exact ⟨a',c',w,hr,by simpa [bg] using aD,⟨rfl,rfl,rfl,aj _,fun _ _ _=>rfl⟩⟩
 | some ad =>
  obtain ⟨v',w',hr,gk,AN,_⟩:=run_append_own (P:=prog) w base 148 148 179 i0 _ 2 24 underlying148 hi hz cp kL rfl (by decide) v xs.length (bg xs) aD ad us.length cap (bg us) (a7 us) (fun j u hj=>by
   have lW:=(List.getElem?_eq_some_iff.1 hj).1;rw [a7] at lW;obtain ⟨g,o,he,c1,c2⟩:=hc (j / 2) (by omega)
   cases he;have hg:=ib us (j / 2) (by omega)
   rw [bA];rcases cy j with hm | hm
   ·have e:j / 2*2=j:=by omega
    rw [e] at hg c1;rw [hg.1] at hj;cases hj;exact c1
   ·have e:j / 2*2+1=j:=by omega
    rw [ed,e] at c2;rw [e] at hg;rw [hg.2] at hj;cases hj;exact c2) (fT us) (by unfold maxLen;omega) hb dr
  have hf:∃ a' c',v' = .slice a' (xs.length+us.length) c':=by
   rcases gk.2 with ⟨rfl,h0⟩ | ⟨g,cap,cur,rfl,_⟩
   ·exact ⟨none,0,by rw [h0]⟩
   ·exact ⟨_,_,rfl⟩
  obtain ⟨a',c',rfl⟩:=hf;exact ⟨a',c',w',hr,gk,AN⟩
theorem bQ.dy{w:World}{base:Nat}{v:Value}{l:List Lk}(h:bQ w base v l):∀ k,v.ownBlock=some k→base≤k∧k<w.heap.size:=World.ownsRow.lt h
theorem vP(w:World)(p:Lk)(t:TypeId):dm (w.alloc (.cells #[.string p.1,.int .i64 p.2] t)) (.slice (some ⟨w.heap.size,0,none⟩) 1 1) [p]:=by
 have hb:=bM w #[.string p.1,.int .i64 p.2] t;refine ⟨_,_,rfl,aj _,fun h=>(by cases h),fun j hj=>⟨_,_,rfl,?_,?_⟩⟩
 ·have:j=0:=by simpa using hj
  subst this;exact hb.2 0 (by simp)
 ·have:j=0:=by simpa using hj
  subst this;exact hb.2 1 (by simp)
theorem XK(w:World)(a:Option Addr)(n cap m:Nat)(hm:m≤cap):(Instr.sliceAt 148 (.slice a n cap) none (some (.int .i64 (m:Int))) none).run prog w = .ok (.slice a m cap) w:=by
 rw [run_sliceAt_slice (h:=underlying148),run_slice_h (ht:=underlying148) (h0:=by omega) (h2:=by omega)]
 have hz:(sizeOf (prog.elem 148)).run prog w = .ok 2 w:=by kernel_rfl
 rw [hz];simp [Result.andThen,sliced,Addr.add]
theorem dm.drop{w:World}{a:Option Addr}{n m cap:Nat}{l:List Lk}(h:dm w (.slice a n cap) l)(hm:m≤n):∃ a',dm w (.slice a' (n - m) (cap - m)) (l.drop m)∧∀ w',(Instr.sliceAt 148 (.slice a n cap) (some (.int .i64 (m:Int))) none none).run prog w' = .ok (.slice a' (n - m) (cap - m)) w':=by
 obtain ⟨a',eO,he,hle,hn,hc⟩:=h;cases he;refine ⟨if cap=m then a else a.map (·.add (m*2)),⟨_,_,by rw [ao],by rw [ao];omega,fun ha=>?_,fun j hj=>?_⟩,fun w'=>?_⟩
 ·split at ha
  ·omega
  ·cases a with
   | none=>have:=hn rfl;omega
   | some x=>cases ha
 ·rw [ao] at hj;obtain ⟨g,o,ha,h1,h2⟩:=hc (m+j) (by omega)
  subst ha;refine ⟨g,o+m*2,?_,?_,?_⟩
  ·rw [if_neg (by omega)];simp [bA]
  ·rw [cY,show o+m*2+j*2=o+(m+j)*2 by omega];exact h1
  ·rw [cY,show o+m*2+j*2+1=o+(m+j)*2+1 by omega];exact h2
 ·rw [run_sliceAt_slice (h:=underlying148),run_slice_l (ht:=underlying148) (h0:=by omega) (h1:=by omega)]
  have hz:(sizeOf (prog.elem 148)).run prog w' = .ok 2 w':=by kernel_rfl
  rw [hz];simp [Result.andThen,sliced]
end B
end Go.Proofs.YtihmgigfkmofnaaGreatDoor
