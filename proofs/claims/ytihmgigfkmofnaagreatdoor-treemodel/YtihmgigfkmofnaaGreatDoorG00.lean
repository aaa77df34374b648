import Derived.Test.YtihmgigfkmofnaaGreatDoorProg
import Derived.WalkKit
import Derived.WalkSpells
import Derived.WalkLawsBesides
import Derived.Deep.AppendLies
import Derived.BigQuiet
import Derived.KernelRfl
import Derived.Laws.IdiomStrings
import Derived.Lib.AppendZeros
import Derived.Test.YtihmgigfkmofnaaGreatDoorA0
set_option maxHeartbeats 1000000
set_option maxRecDepth 20000
open Go.Proofs.Tryz
namespace Go.Proofs.YtihmgigfkmofnaaGreatDoor
open Go.RowKit
def dW(l:List UInt8):List Value:=l.map (fun c=>Value.int .u8 (c.toNat:Int))
theorem a6(l:List UInt8):(dW l).length=l.length:=by simp [dW]
theorem jK(a b:List UInt8):dW (a++b)=dW a++dW b:=by simp [dW]
theorem iL(l:List UInt8)(j:Nat)(h:j<l.length):(dW l)[j]?=some (.int .u8 (l[j].toNat:Int)):=by simp [dW,h]
theorem rr(l:List UInt8):∀ u ∈ dW l,u.oneCell'=true:=by
 intro u hu;simp only [dW,List.mem_map] at hu;obtain ⟨c,_,rfl⟩:=hu;rfl
theorem bsize(s:ByteArray):s.data.toList.length=s.size:=by simp
theorem Tryz.info5:(prog.info? 5).map (fun i=>(i.zero,i.size,i.bytes))=some (some (.int .u8 0),1,1):=by kernel_rfl
def dY(l:List ByteArray)(i:Nat):List UInt8:=(l.take i).flatMap (fun c=>c.data.toList)
def fw(l:List ByteArray)(i:Nat):Nat:=2*l.length+(dY l i).length
def dR(l:List ByteArray):Nat:=fw l l.length
def G6(e:Nat):UInt8:=UInt8.ofNat (e / 256)
def FB(e:Nat):UInt8:=UInt8.ofNat (e % 256)
def fS(l:List ByteArray):Nat→List UInt8
 | 0=>[]
 | i+1=>fS l i++[G6 (fw l (i+1)),FB (fw l (i+1))]
def jC(l:List ByteArray):List UInt8:=fS l l.length++dY l l.length++List.replicate (4072 - dR l) 0
def gU(l:List ByteArray)(i:Nat):List UInt8:=fS l i++List.replicate (2*(l.length - i)) 0++dY l i++List.replicate (4072 - fw l i) 0
theorem uQ(l:List ByteArray):dY l 0=[]:=by simp [dY]
theorem uR(l:List ByteArray)(i:Nat)(h:i<l.length):dY l (i+1)=dY l i++l[i].data.toList:=by
 unfold dY;rw [az h,aT];simp
theorem pK(l:List ByteArray):fw l 0=2*l.length:=by simp [fw,uQ]
theorem mG(l:List ByteArray)(i:Nat)(h:i<l.length):fw l (i+1)=fw l i+l[i].size:=by
 unfold fw;rw [uR l i h,ae,bsize];omega
theorem tU(l:List ByteArray)(i:Nat):∀ j,i≤j→j≤l.length→fw l i≤fw l j:=by
 intro j Td;induction j with
 | zero =>
  intro _;have:i=0:=by omega
  subst this;exact aj _
 | succ j ih =>
  intro hj;by_cases h:i=j+1
  ·subst h;exact aj _
  ·have h1:=ih (by omega) (by omega)
   have h2:=mG l j (by omega)
   omega
theorem dP(l:List ByteArray)(i:Nat):(fS l i).length=2*i:=by
 induction i with
 | zero=>rfl
 | succ i ih=>simp [fS,ih];omega
theorem rX(l:List ByteArray)(h:dR l≤4072):(jC l).length=4072:=by
 have e:dR l=2*l.length+(dY l l.length).length:=rfl;simp only [jC,ae,bw,dP];omega
theorem E6(l:List ByteArray)(h:dR l≤4072):gU l 0=List.replicate 4072 0:=by
 have e:dR l=2*l.length+(dY l l.length).length:=rfl;unfold gU;rw [uQ,pK,fS,List.nil_append,List.append_nil,List.replicate_append_replicate];congr 1;omega
theorem Hy(l:List ByteArray):gU l l.length=jC l:=by
 simp [gU,jC,dR]
theorem vX{l:List ByteArray}(h:dR l≤4072){i:Nat}(hi:i≤l.length):fw l i≤4072:=al (tU l i l.length hi (aj _)) h
theorem Tr(l:List ByteArray)(i:Nat):2*l.length≤fw l i:=by unfold fw;omega
theorem Hw(l:List ByteArray)(i:Nat)(h:dR l≤4072)(hi:i≤l.length):(gU l i).length=4072:=by
 have:=vX h hi;have e:fw l i=2*l.length+(dY l i).length:=rfl;simp only [gU,ae,bw,dP];omega
theorem AP(e:Nat)(h:e≤4072):(G6 e).toNat=e / 256:=by
 simp [G6];omega
theorem Ax(e:Nat):(FB e).toNat=e % 256:=by
 simp [FB]
def Ac(b:List UInt8)(i:Nat):Nat:=(b.getD (2*i) 0).toNat*256+(b.getD (2*i+1) 0).toNat
def lD(b:List UInt8)(n:Nat):Nat→Nat
 | 0=>2*n
 | i+1=>Ac b i
def Mu(b:List UInt8)(n:Nat):Prop:=(n≤2036∧b.length=4072)∧(∀ i,i<n→lD b n i≤lD b n (i+1)∧lD b n (i+1)≤4072)∧∀ j,lD b n n≤j→j<4072→b.getD j 0=0
def yw(b:List UInt8)(n i:Nat):List UInt8:=(b.drop (lD b n i)).take (lD b n (i+1) - lD b n i)
def b8(b:List UInt8)(n:Nat):List ByteArray:=(List.range n).map fun i=>⟨(yw b n i).toArray⟩
theorem fY(b:List UInt8)(n:Nat):(b8 b n).length=n:=by simp [b8]
theorem nD(b:List UInt8)(n i:Nat)(h:i<(b8 b n).length):(b8 b n)[i].data.toList=yw b n i:=by simp [b8]
theorem C4(l:List ByteArray)(n:Nat):∀ i,i<n→(fS l n)[2*i]?=some (G6 (fw l (i+1)))∧(fS l n)[2*i+1]?=some (FB (fw l (i+1))):=by
 induction n with
 | zero=>intro i h;omega
 | succ n ih =>
  intro i h;simp only [fS];by_cases hi:i<n
  ·have:=ih i hi;rw [bu (by rw [dP];omega),bu (by rw [dP];omega)]
   exact this
  ·have:i=n:=by omega
   subst this;rw [aZ (by rw [dP];omega),aZ (by rw [dP];omega),dP]
   simp
theorem NK(l:List ByteArray)(h:dR l≤4072)(i:Nat)(hi:i<l.length):Ac (jC l) i=fw l (i+1):=by
 have hg:=C4 l l.length i hi;have hl:=dP l l.length;have h1:=vX h (show i+1≤l.length by omega)
 unfold Ac jC;rw [aK,aK,ay,bu (by omega),bu (by omega),hg.1,hg.2]
 simp only [l9];rw [AP _ h1,Ax];omega
theorem oS(l:List ByteArray)(h:dR l≤4072):∀ i,i≤l.length→lD (jC l) l.length i=fw l i
 | 0,_=>by rw [pK];rfl
 | i+1,hi=>NK l h i (by omega)
theorem Hg(l:List ByteArray)(i:Nat)(h:i<l.length):dY l l.length=dY l i++(l[i].data.toList++(l.drop (i+1)).flatMap (fun c=>c.data.toList)):=by
 unfold dY;rw [aq (aj _)];have hd:l.drop i=l[i]::l.drop (i+1):=bf h;have hs:l.flatMap (fun c=>c.data.toList)=(l.take i).flatMap (fun c=>c.data.toList)++(l.drop i).flatMap (fun c=>c.data.toList):=by rw [← aT,aG]
 rw [hs,hd,List.flatMap_cons]
theorem qH(l:List ByteArray)(h:dR l≤4072):Mu (jC l) l.length:=by
 have e:dR l=2*l.length+(dY l l.length).length:=rfl;refine ⟨⟨by omega,rX l h⟩,fun i hi=>?_,fun j hj h'=>?_⟩
 ·rw [oS l h i (by omega),oS l h (i+1) (by omega)]
  exact ⟨tU l i (i+1) (by omega) (by omega),vX h (by omega)⟩
 ·rw [oS l h _ (aj _)] at hj;have l6:dR l≤j:=hj;unfold jC;rw [aK,aZ (by rw [ae,dP];omega)]
  rw [List.getElem?_replicate];split <;> rfl
theorem OW(l:List ByteArray)(h:dR l≤4072)(i:Nat)(hi:i<l.length):yw (jC l) l.length i=l[i].data.toList:=by
 unfold yw;rw [oS l h i (by omega),oS l h (i+1) (by omega),mG l i hi]
 unfold jC;rw [Hg l i hi,← ay,ay (fS l l.length++dY l i)];have e:fw l i=(fS l l.length++dY l i).length:=by rw [ae,dP];rfl
 rw [il (by omega),e,List.drop_length,List.nil_append,ay]
 rw [aF (by rw [bsize];omega),aq (by rw [bsize];omega)]
theorem A0(l:List ByteArray)(h:dR l≤4072):b8 (jC l) l.length=l:=by
 refine mc (fY _ _) (fun i h1 h2=>?_)
 have:=nD (jC l) l.length i h1;rw [OW l h i h2] at this;have:(b8 (jC l) l.length)[i].data=l[i].data:=Array.toList_inj.1 this;exact congrArg ByteArray.mk this
theorem Ju{b:List UInt8}{n:Nat}(h:Mu b n):∀ i,i≤n→lD b n i≤4072
 | 0,_=>by have:=h.1.1;simp only [lD];omega
 | i+1,hi=>(h.2.1 i (by omega)).2
theorem L9{b:List UInt8}{n:Nat}(h:Mu b n)(i:Nat)(hi:i<n):(yw b n i).length=lD b n (i+1) - lD b n i:=by
 have h1:=Ju h (i+1) (by omega)
 unfold yw;rw [ag,ao,h.1.2];omega
abbrev Pr:=ByteArray × ByteArray
def z7(p:Pr):Nat:=5+p.1.size+p.2.size
def fL(l:List Pr):Nat:=(l.map z7).sum
def cP(p:Pr):Bool:=decide (1≤p.1.size∧p.1.size≤255∧p.2.size≤700)
theorem eM{p:Pr}(h:cP p=true):1≤p.1.size∧p.1.size≤255∧p.2.size≤700:=by simpa [cP] using h
def cX(a b:ByteArray):Bool:=Op.bytesLess a.toList b.toList
def gD(l:List Pr):Prop:=∀ i (h:i+1<l.length),cX l[i].1 l[i+1].1=true
theorem ry:fL []=0:=rfl
theorem oq(p:Pr)(l:List Pr):fL (p::l)=z7 p+fL l:=by simp [fL]
theorem iQ(a b:List Pr):fL (a++b)=fL a+fL b:=by simp [fL]
theorem zf(l:List Pr)(k:Nat)(h:k<l.length):fL (l.take (k+1))=fL (l.take k)+z7 l[k]:=by
 rw [az h,iQ];simp [fL]
theorem iM(l:List Pr):5*l.length≤fL l:=by
 induction l with
 | nil=>simp
 | cons p l ih=>rw [oq,List.length_cons];unfold z7;omega
theorem B4(x:List UInt8):Op.bytesLess x x=false:=by
 induction x with
 | nil=>rfl
 | cons a x ih=>simp [Op.bytesLess,ih]
theorem ve:∀ (x y z:List UInt8),Op.bytesLess x y=true→Op.bytesLess y z=true→Op.bytesLess x z=true
 | _,[],_,h,_=>by simp [Op.bytesLess] at h
 | _,_::_,[],_,h=>by simp [Op.bytesLess] at h
 | [],_::_,_::_,_,_=>by simp [Op.bytesLess]
 | a::x,b::y,c::z,h1,h2=>by
  simp only [Op.bytesLess,Bool.or_eq_true,decide_eq_true_eq,cF,beq_iff_eq] at *;rcases h1 with h1 | ⟨rfl,h1⟩
  ·rcases h2 with h2 | ⟨rfl,h2⟩
   ·exact .inl (UInt8.lt_trans h1 h2)
   ·exact .inl h1
  ·rcases h2 with h2 | ⟨rfl,h2⟩
   ·exact .inl h2
   ·exact .inr ⟨rfl,ve x y z h1 h2⟩
theorem vf:∀ (x y:List UInt8),Op.bytesLess x y=false→Op.bytesLess y x=false→x=y
 | [],[],_,_=>rfl
 | [],_::_,h,_=>by simp [Op.bytesLess] at h
 | _::_,[],_,h=>by simp [Op.bytesLess] at h
 | a::x,b::y,h1,h2=>by
  simp only [Op.bytesLess,Bool.or_eq_false_iff,decide_eq_false_iff_not,Bool.and_eq_false_imp,beq_iff_eq] at *;have Cu:a=b:=by
   have:=UInt8.not_lt.1 h1.1;have:=UInt8.not_lt.1 h2.1;exact UInt8.le_antisymm ‹_› ‹_›
  subst Cu;rw [vf x y (h1.2 rfl) (h2.2 rfl)]
theorem gS(a:ByteArray):cX a a=false:=B4 _
theorem dk{a b c:ByteArray}(h1:cX a b=true)(h2:cX b c=true):cX a c=true:=ve _ _ _ h1 h2
theorem ig{x y:ByteArray}(h:x.data.toList=y.data.toList):x=y:=by
 have:x.data=y.data:=Array.toList_inj.1 h;exact congrArg ByteArray.mk this
theorem mu{a b:ByteArray}(h1:cX a b=false)(h2:cX b a=false):a=b:=by
 have:=vf _ _ h1 h2;rw [ByteArray.toList_eq,ByteArray.toList_eq] at this;exact ig this
theorem mw{a b:ByteArray}(h:cX a b=true):cX b a=false:=by
 cases h':cX b a
 ·rfl
 ·have:=dk h h';rw [gS] at this;cases this
theorem gD.lt{l:List Pr}(h:gD l)(i:Nat):∀ j (hj:j<l.length) (Td:i<j),cX (l[i]'(by omega)).1 l[j].1=true:=by
 intro j;induction j with
 | zero=>intro _ h;omega
 | succ j ih =>
  intro hj Td;by_cases he:i=j
  ·subst he;exact h i hj
  ·exact dk (ih (by omega) (by omega)) (h j hj)
theorem Dd:gD []:=fun i h=>by simp at h
theorem gD.take{l:List Pr}(h:gD l)(k:Nat):gD (l.take k):=fun i hi=>by
 rw [ag] at hi;simp only [bD];exact h i (by omega)
theorem gD.drop{l:List Pr}(h:gD l)(k:Nat):gD (l.drop k):=fun i hi=>by
 rw [ao] at hi;simp only [dd];exact h (k+i) (by omega)
theorem Kr{l:List Pr}(p:Pr):gD (l++[p])↔gD l∧∀ (h:0<l.length),cX (l[l.length - 1]'(by omega)).1 p.1=true:=by
 constructor
 ·intro h;refine ⟨fun i hi=>?_,fun h0=>?_⟩
  ·have:=h i (by simp;omega)
   rwa [aI (by omega),aI (by omega)] at this
  ·have:=h (l.length - 1) (by simp;omega)
   rw [aI (by omega)] at this
   have e:(l++[p])[l.length - 1+1]'(by simp;omega)=p:=by
    simp only [show l.length - 1+1=l.length by omega];simp
   rwa [e] at this
 ·rintro ⟨h1,h2⟩ i hi;simp only [ae,aS] at hi;by_cases he:i+1<l.length
  ·rw [aI (by omega),aI (by omega)]
   exact h1 i he
  ·have e:i=l.length - 1:=by omega
   have h0:0<l.length:=by omega
   rw [aI (by omega)]
   have e2:(l++[p])[i+1]'(by simp;omega)=p:=by
    simp only [show i+1=l.length by omega];simp
   rw [e2];simp only [e];exact h2 h0
instance (l:List Pr):Decidable (gD l):=decidable_of_iff (∀ i:Fin l.length,∀ h:i.1+1<l.length,cX l[i.1].1 l[i.1+1].1=true) ⟨fun h i hi=>h ⟨i,by omega⟩ hi,fun h i hi=>h i.1 hi⟩
def zL(l:List Pr)(root:Bool):Option Nat :=
 if l.all cP=false then some 0
 else if ¬ gD l then some 11
 else if 4072<fL l then some 2
 else if l=[]∨root=false∧fL l<1556 then some 3
 else none
theorem oU{l:List Pr}{root:Bool}(h:zL l root=none):(∀ p ∈ l,cP p=true)∧gD l∧fL l≤4072∧l≠[]∧(root=false→1556≤fL l):=by
 unfold zL at h;split at h
 ·cases h
 ·rename_i h1
  split at h
  ·cases h
  ·rename_i h2
   split at h
   ·cases h
   ·rename_i h3
    split at h
    ·cases h
    ·rename_i h4
     refine ⟨fun p hp=>?_,Classical.not_not.1 h2,by omega,fun e=>h4 (.inl e),fun hr=>?_⟩
     ·have:l.all cP=true:=by cases h:l.all cP <;> simp_all
      exact List.all_eq_true.1 this p hp
     ·rcases a7 (fL l) 1556 with h' | h'
      ·exact absurd (.inr ⟨hr,h'⟩) h4
      ·exact h'
def aJ(l:List Pr)(key:ByteArray):Nat:=l.findIdx (fun p=>!cX p.1 key)
def bh(l:List Pr)(key:ByteArray):Bool:=match l[aJ l key]? with | some p=>decide (p.1=key) | none=>false
def bZ(l:List Pr)(key:ByteArray):Nat:=if bh l key then aJ l key+1 else aJ l key
def fc(l:List Pr)(key value:ByteArray):List Pr:=l.take (aJ l key)++(key,value)::l.drop (bZ l key)
def cU(l:List Pr)(key:ByteArray):List Pr:=l.take (aJ l key)++l.drop (bZ l key)
theorem cp(l:List Pr)(key:ByteArray):aJ l key≤l.length:=List.findIdx_le_length
theorem kx(l:List Pr)(key:ByteArray)(j:Nat)(h:j<aJ l key)(hj:j<l.length):cX l[j].1 key=true:=by
 have:=List.not_of_lt_findIdx h;simpa using this
theorem sw(l:List Pr)(key:ByteArray)(h:aJ l key<l.length):cX l[aJ l key].1 key=false:=by
 have:=List.findIdx_getElem (xs:=l) (p:=fun q:Pr=>!cX q.1 key) (w:=h)
 simp only [Bool.not_eq_true'] at this;exact this
theorem mE{l:List Pr}{key:ByteArray}{k:Nat}(hk:k<l.length)(h1:∀ j (hj:j<k),cX (l[j]'(by omega)).1 key=true)(h2:cX l[k].1 key=false):aJ l key=k:=by
 rcases Nat.lt_trichotomy (aJ l key) k with h | h | h
 ·have:=sw l key (by omega)
  rw [h1 _ h] at this;cases this
 ·exact h
 ·have:=kx l key k h hk;rw [h2] at this;cases this
theorem qR{l:List Pr}{key:ByteArray}(h1:∀ j (hj:j<l.length),cX l[j].1 key=true):aJ l key=l.length:=by
 rcases a7 (aJ l key) l.length with h | h
 ·have:=sw l key h;rw [h1 _ h] at this;cases this
 ·have:=cp l key;omega
theorem mD{l:List Pr}{key:ByteArray}(h:aJ l key<l.length):bh l key=decide (l[aJ l key].1=key):=by
 unfold bh;rw [af h]
theorem oQ{l:List Pr}{key:ByteArray}(h:¬ aJ l key<l.length):bh l key=false:=by
 unfold bh;rw [bE (by omega)]
theorem fG{l:List Pr}{key:ByteArray}(h:bh l key=true):aJ l key<l.length:=by
 rcases a7 (aJ l key) l.length with h' | h'
 ·exact h'
 ·rw [oQ (by omega)] at h;cases h
theorem jZ(l:List Pr)(key:ByteArray):bZ l key≤l.length:=by
 unfold bZ;split
 ·rename_i h;exact fG h
 ·exact cp _ _
theorem eQ(l:List Pr)(key:ByteArray):aJ l key≤bZ l key:=by
 unfold bZ;split <;> omega
def Boxed(b:Nat)(cs:List Value)(w:World):Prop:=b<w.heap.size∧∀ j (h:j<cs.length),w.cell? ⟨b,j,none⟩=some cs[j]
theorem Boxed.below{b:Nat}{cs:List Value}{w w':World}(h:Boxed b cs w)(hb:Below w.heap.size w w'):Boxed b cs w' :=
 ⟨ar h.1 hb.size,fun j hj=>(hb.cell (p:=⟨b,j,none⟩) h.1).trans (h.2 j hj)⟩
theorem bN(w:World)(cs:Array Value)(t:TypeId):Boxed w.heap.size cs.toList (w.alloc (.cells cs t)):=by
 refine ⟨by simp,fun j hj=>?_⟩
 have h:(w.alloc (.cells cs t)).heap[w.heap.size]?=some (.cells cs t (0,0)):=heap_alloc_new w _;rw [cell_of_row _ w.heap.size j cs t (0,0) h];simp only [Array.length_toList] at hj;simp [hj]
theorem ai(w:World)(o:Obj):Below w.heap.size w (w.alloc o):=(Below.refl _ _).alloc (aj _) o
theorem Below.next{a b c:World}(h:Below a.heap.size a b)(k:Below b.heap.size b c):Below a.heap.size a c:=h.trans (k.mono h.size)
theorem IJ{k:IntKind}{a b:Int}(h:a=b):Ending.returned (.int k a) = .returned (.int k b):=by rw [h]
theorem aB{B:Nat}{a w:World}(h:Below B a w)(n:Nat):Below B a (w.drewN n):=⟨h.os,h.tape,h.output,h.size,h.block⟩
theorem ab{p:Prop}(h:p):Hid p:=h
def nI(w:World)(v:Value)(us:List Value):Prop:=∃ a cap,v = .slice a us.length cap∧us.length≤cap∧(a=none→cap=0)∧∀ j u,us[j]?=some u→∃ g o,a=some ⟨g,o,none⟩∧w.cell? ⟨g,o+j,none⟩=some u
theorem nI.below{w w':World}{v:Value}{us:List Value}(h:nI w v us)(hb:Below w.heap.size w w'):nI w' v us:=by
 obtain ⟨a,cap,rfl,hle,hn,hc⟩:=h;refine ⟨a,cap,rfl,hle,hn,fun j u hj=>?_⟩
 obtain ⟨g,o,ha,aX⟩:=hc j u hj;exact ⟨g,o,ha,(hb.cell (p:=⟨g,o+j,none⟩) (World.block_lt_of_cell? w _ aX)).trans aX⟩
theorem fT{w:World}{base e n:Nat}{v:Value}{us:List Value}(h:w.ownsRow base e 1 v n us):nI w v us:=by
 have hl:=h.1;rw [Nat.mul_one] at hl;rcases h.2 with ⟨rfl,hn⟩ | ⟨g,cap,cur,rfl,hb,hg,Cn,sQ,fs,mX⟩
 ·have h0:us.length=0:=by omega
  exact ⟨none,0,by rw [h0],by omega,fun _=>rfl,fun j u hj=>by rw [List.length_eq_zero_iff.1 h0] at hj;simp at hj⟩
 ·refine ⟨some ⟨g,0,none⟩,cap,by rw [hl],by omega,fun h=>(by cases h),fun j u hj=>⟨g,0,rfl,?_⟩⟩
  have l6:=(List.getElem?_eq_some_iff.1 hj).1;rw [Nat.zero_add,h.cellAt j (by omega)];exact hj
theorem nI.take{w:World}{a:Option Addr}{n m cap:Nat}{us:List Value}(h:nI w (.slice a n cap) us)(hm:m≤n):nI w (.slice a m cap) (us.take m):=by
 obtain ⟨a',eP,he,hle,hn,hc⟩:=h;cases he;refine ⟨a,cap,by rw [ag,a8 hm],by rw [ag];omega,hn,fun j u hj=>hc j u ?_⟩
 rw [cy] at hj;split at hj
 ·exact hj
 ·cases hj
theorem bB(b o c:Nat):(⟨b,o,none⟩ : Addr).add c=⟨b,o+c,none⟩:=by
 unfold Addr.add;split
 ·rename_i h;rw [h,Nat.add_zero]
 ·rfl
theorem nH(t e:TypeId)(z:Value)(bytes:Nat)(Zo:(prog.info? e).map (fun i=>(i.zero,i.size,i.bytes))=some (some z,1,bytes))(ht:prog.underlying t=some (.slice e))(mW:z.cells.size=1)(base n:Nat)(v:Value)(xs:List Value)(w:World)(aE:w.ownsRow base e 1 v n xs)(s:Value)(us:List Value)(hs:nI w s us)(h1:∀ u ∈ us,u.oneCell'=true)(hb:(n+us.length)*bytes≤140737488355328)(aP:1≤bytes)(dy:base≤w.heap.size):∃ a' eP w',(Builtin.append_ #[t,t] t #[v,s]).run prog w = .ok (.slice a' (n+us.length) eP) w'∧w'.ownsRow base e 1 (.slice a' (n+us.length) eP) (n+us.length) (xs++us)∧w.grownBy w' v.ownBlock:=by
 obtain ⟨i0,hi,hz,cx,kU⟩:=info_parts Zo;obtain ⟨a,cap,rfl,hle,qN,hc⟩:=hs;cases a with
 | none =>
  have h0:us=[]:=by
   cases us with
   | nil=>rfl
   | cons u r=>obtain ⟨g,o,he,_⟩:=hc 0 u rfl;cases he
  subst h0;rw [qN rfl];have hr:=run_append_owned_none (P:=prog) w base t t e i0 1 ht hi v n xs aE;have hf:∃ a' c',v = .slice a' n c':=by
   rcases aE.2 with ⟨rfl,rfl⟩ | ⟨g,cap,cur,rfl,_⟩
   ·exact ⟨_,_,rfl⟩
   ·exact ⟨_,_,rfl⟩
  obtain ⟨a',c',rfl⟩:=hf;exact ⟨a',c',w,hr,by rw [List.append_nil];exact aE,⟨rfl,rfl,rfl,aj _,fun _ _ _=>rfl⟩⟩
 | some ad =>
  have hB:(n+us.length)*1≤(n+us.length)*bytes:=Nat.mul_le_mul_left _ aP;obtain ⟨v',w',hr,gk,AQ,_⟩:=run_append_own (P:=prog) w base t t e i0 z 1 bytes ht hi hz cx kU mW (by decide) v n xs aE ad us.length cap us (by rw [Nat.mul_one]) (fun j u hj=>by
   obtain ⟨g,o,he,aX⟩:=hc j u hj;cases he;rw [bB];exact aX) h1 (by unfold maxLen;omega) hb dy
  have hf:∃ a' c',v' = .slice a' (n+us.length) c':=by
   rcases gk.2 with ⟨rfl,h0⟩ | ⟨g,cap,cur,rfl,_⟩
   ·exact ⟨none,0,by rw [h0]⟩
   ·exact ⟨_,_,rfl⟩
  obtain ⟨a',c',rfl⟩:=hf;exact ⟨a',c',w',hr,gk,AQ⟩
theorem wpList_append_run{ops:Array Oper}{rest:List Oper}{o:Oper}{a:Act}{w:World}{Q:Exit→Act→World→Prop}(t:TypeId)(nM:o.guard=none)(d x:Operand)
  (ho:o.op = .call { callee:=.builtin .append,args:=#[d,x],argTypes:=#[t,t] }) (zq:o.type=t) (vd vx:Value) (hd:a.eval d=vd) (hx:a.eval x=vx) (v:Value) (w':World)
  (bg:(Builtin.append_ #[t,t] t #[vd,vx]).run prog w = .ok v w') (h:wpList prog ops Q rest (a.put o.dst v) w'):wpList prog ops Q (o::rest) a w :=
 wpList_plain nM fun _ hK=>by
  unfold Oper.wp;simp [execOp,ho,resolve,invoke,builtin,hd,hx,zq,bg,Result.andThen]
  exact hK _ _ h
def ints(l:List Int):List Value:=l.map (Value.int .i64)
theorem ko(l:List Int):(ints l).length=l.length:=by simp [ints]
theorem O3(l:List Int)(j:Nat)(h:j<l.length):(ints l)[j]?=some (.int .i64 l[j]):=by simp [ints,h]
theorem oK(a b:List Int):ints (a++b)=ints a++ints b:=by simp [ints]
theorem info3:(prog.info? 3).map (fun i=>(i.zero,i.size,i.bytes))=some (some (.int .i64 0),1,8):=by kernel_rfl
def iD(l:List Pr):List Value:=l.flatMap fun p=>[.string p.1,.string p.2]
theorem Dl(p:Pr)(l:List Pr):iD (p::l) = .string p.1::.string p.2::iD l:=by simp [iD]
theorem wZ(a b:List Pr):iD (a++b)=iD a++iD b:=by simp [iD]
theorem eJ(l:List Pr):(iD l).length=l.length*2:=by
 induction l with
 | nil=>rfl
 | cons p l ih=>rw [Dl];simp [ih];omega
theorem vI(l:List Pr):∀ j (h:j<l.length),(iD l)[j*2]?=some (.string l[j].1)∧(iD l)[j*2+1]?=some (.string l[j].2):=by
 induction l with
 | nil=>intro j h;simp at h
 | cons p l ih =>
  intro j h;rw [Dl];cases j with
  | zero=>exact ⟨rfl,rfl⟩
  | succ j =>
   have:=ih j (by simpa using h)
   rw [show (j+1)*2=j*2+1+1 by omega]
   simpa using this
theorem Sk(l:List Pr):∀ u ∈ iD l,u.oneCell'=true:=by
 intro u hu;simp only [iD,ma] at hu;obtain ⟨p,_,h⟩:=hu;simp at h
 rcases h with rfl | rfl <;> rfl
theorem Jb:(prog.info? 52).map (fun i=>(i.zero,i.size,i.bytes))=some (some (.agg #[.string ByteArray.empty,.string ByteArray.empty]),2,32):=by kernel_rfl
def TU(l:List Pr):Prop:=∀ p ∈ l,p.1.size≤140737488355328∧p.2.size≤140737488355328
def gK(w:World)(v:Value)(l:List Pr):Prop:=∃ a cap,v = .slice a l.length cap∧l.length≤cap∧(a=none→cap=0) ∧
 ∀ j (h:j<l.length),∃ g o,a=some ⟨g,o,none⟩∧w.cell? ⟨g,o+j*2,none⟩=some (.string l[j].1)∧w.cell? ⟨g,o+j*2+1,none⟩=some (.string l[j].2)
theorem gK.below{w w':World}{v:Value}{l:List Pr}(h:gK w v l)(hb:Below w.heap.size w w'):gK w' v l:=by
 obtain ⟨a,cap,rfl,hle,hn,hc⟩:=h;refine ⟨a,cap,rfl,hle,hn,fun j hj=>?_⟩
 obtain ⟨g,o,ha,h1,h2⟩:=hc j hj;exact ⟨g,o,ha,(hb.cell (p:=⟨g,o+j*2,none⟩) (World.block_lt_of_cell? w _ h1)).trans h1,(hb.cell (p:=⟨g,o+j*2+1,none⟩) (World.block_lt_of_cell? w _ h2)).trans h2⟩
theorem gK.form{w:World}{v:Value}{l:List Pr}(h:gK w v l):∃ a c,v = .slice a l.length c:=by
 obtain ⟨a,c,rfl,_⟩:=h;exact ⟨a,c,rfl⟩
theorem gK.rP{w:World}{base n:Nat}{v:Value}{l:List Pr}(h:w.ownsRow base 52 2 v n (iD l)):gK w v l:=by
 have hl:=h.1;rw [eJ] at hl;have hl:l.length=n:=by omega
 rcases h.2 with ⟨rfl,hn⟩ | ⟨g,cap,cur,rfl,hb,hg,Cn,sQ,fs,mX⟩
 ·have h0:l.length=0:=by omega
  exact ⟨none,0,by rw [h0],by omega,fun _=>rfl,fun j hj=>by omega⟩
 ·refine ⟨some ⟨g,0,none⟩,cap,by rw [hl],by omega,fun h=>(by cases h),fun j hj=>⟨g,0,rfl,?_,?_⟩⟩
  ·rw [Nat.zero_add,h.cellAt (j*2) (by omega)];exact (vI l j hj).1
  ·rw [Nat.zero_add,h.cellAt (j*2+1) (by omega)];exact (vI l j hj).2
theorem gK.take{w:World}{a:Option Addr}{n m cap:Nat}{l:List Pr}(h:gK w (.slice a n cap) l)(hm:m≤n):gK w (.slice a m cap) (l.take m):=by
 obtain ⟨a',eP,he,hle,hn,hc⟩:=h;cases he;refine ⟨a,cap,by rw [ag,a8 hm],by rw [ag];omega,hn,fun j hj=>?_⟩
 rw [ag] at hj;obtain ⟨g,o,ha,h1,h2⟩:=hc j (by omega)
 exact ⟨g,o,ha,by rw [bD];exact h1,by rw [bD];exact h2⟩
theorem gK.nil(w:World):gK w (.slice none 0 0) []:=⟨none,0,rfl,aj _,fun _=>rfl,fun j h=>by simp at h⟩
def p9(n:Nat):Int:=IntKind.i64.wrap (n:Int)
theorem Bb(a b:Nat):IntKind.i64.wrap (p9 a+(b:Int))=p9 (a+b):=by
 unfold p9;rw [IntKind.wrap_i64,IntKind.wrap_i64,IntKind.wrap_i64];omega
theorem kW{n:Nat}(h:n≤4611686018427387904):p9 n=(n:Int):=by
 unfold p9;rw [IntKind.wrap_i64];omega
theorem uE(p:Pr)(w:World)(h1:p.1.size≤140737488355328)(h2:p.2.size≤140737488355328):Calls prog 201 #[.agg #[.string p.1,.string p.2]] w fun e w'=>e = .returned (.int .i64 (z7 p:Int))∧Below w.heap.size w w':=by
 have fh:=ai w (.cells #[.string p.1,.string p.2] 52);have vS:IntKind.i64.wrap (5+(p.1.size:Int))=5+(p.1.size:Int):=by rw [IntKind.wrap_i64];omega
 have Ri:IntKind.i64.wrap (5+(p.1.size:Int)+(p.2.size:Int))=(z7 p:Int):=by rw [IntKind.wrap_i64];unfold z7;omega
 go_enter func201,ntmps201;go_wp2;go_ret;exact ⟨rfl,fh⟩
theorem Aw(v:Value)(l:List Pr)(w:World)(cT:TU l)(hm:l.length≤140737488355328)(hr:gK w v l):Calls prog 161 #[v] w fun e w'=>e = .returned (.int .i64 (p9 (fL l)))∧Below w.heap.size w w':=by
 obtain ⟨a,cap,rfl,di,_,hc⟩:=hr;have HC:=ab hc;obtain ⟨n,hn⟩ : ∃ n,n=l.length:=⟨_,rfl⟩;rw [← hn] at hm ⊢;have HN:=ab hn;have pN:=ab cT;clear hc hn di cT;go_enter func161,ntmps161;go_wp2;go_loopw [3,8] (fun r i wr=>∃ k:Nat,k≤n∧i = .int .i64 k∧r = .int .i64 (p9 (fL (l.take k)))∧Below w.heap.size w wr) (fun _ i _=>n - (intOf i).toNat)
 case atStart=>exact ⟨0,aD _,rfl,rfl,Below.refl _ _⟩
 case round =>
  obtain ⟨k,hk,rfl,rfl,bO⟩:=hrel;by_cases bP:k<n
  ·have dm:k<l.length:=by have:=HN.out;omega
   obtain ⟨g,o,rfl,f1,f2⟩:=HC.out k dm;have c1:wr.cell? ⟨g,o+k*2,none⟩=some (.string l[k].1):=(bO.cell (p:=⟨g,o+k*2,none⟩) (World.block_lt_of_cell? w _ f1)).trans f1;have c2:wr.cell? ⟨g,o+k*2+1,none⟩=some (.string l[k].2):=(bO.cell (p:=⟨g,o+k*2+1,none⟩) (World.block_lt_of_cell? w _ f2)).trans f2;have AM:=pN.out l[k] (aH _);have zp:IntKind.i64.wrap (p9 (fL (l.take k))+(z7 l[k] : Int))=p9 (fL (l.take (k+1))):=by rw [Bb,← zf l k dm]
   obtain ⟨p,hp⟩ : ∃ p,p=l[k]:=⟨_,rfl⟩;rw [← hp] at c1 c2 zp AM;have HZ:=ab (fun W=>uE p W AM.1 AM.2)
   obtain ⟨x,hx⟩ : ∃ x,x=p9 (fL (l.take k)):=⟨_,rfl⟩;obtain ⟨y,hy⟩ : ∃ y,y=p9 (fL (l.take (k+1))):=⟨_,rfl⟩;obtain ⟨z,hz⟩ : ∃ z,z=z7 p:=⟨_,rfl⟩;rw [← hx,← hy,← hz] at zp;rw [← hx];rw [← hz] at HZ;have HY:=ab hy;have dS:(k:Int)<(n:Int):=by omega
   have HB:=ab (Below.next bO (ai wr (.cells #[.string p.1,.string p.2] 52)));clear hp hx hy hz HC f1 f2 bO AM;go_wp2_with fail;refine (HZ.out _).mono ?_
   rintro e w1 ⟨rfl,aP⟩;have bQ:=ab (Below.next HB.out aP);clear aP HB HZ c1 c2;go_wp2;go_roundw
   case rel=>exact ⟨k+1,by omega,by go_num,by rw [← HY.out],bQ.out⟩
   case measure=>simp [intOf];omega
  ·have dj:l.take k=l:=by rw [aq];have:=HN.out;omega
   rw [dj];have HB:=ab bO;have dS:¬ (k:Int)<(n:Int):=by omega
   obtain ⟨x,hx⟩ : ∃ x,x=p9 (fL l):=⟨_,rfl⟩;rw [← hx];have HX:=ab hx;clear HC bO dj hx;go_wp2;go_ret;exact ⟨by rw [← HX.out];rfl,HB.out⟩
namespace B
abbrev Lk:=ByteArray × Int
def yQ(p:Lk):Nat:=7+p.1.size
def jL(l:List Lk):Nat:=6+(l.map yQ).sum
def fX(n:Int):Bool:=decide (2≤n∧n<1048576)
def gz(p:Lk):Bool:=decide (1≤p.1.size∧p.1.size≤255∧2≤p.2∧p.2<1048576)
theorem lA{p:Lk}(h:gz p=true):1≤p.1.size∧p.1.size≤255∧2≤p.2∧p.2<1048576:=by simpa [gz] using h
def nO(l:List Lk):Prop:=∀ i (h:i+1<l.length),cX l[i].1 l[i+1].1=true
instance (l:List Lk):Decidable (nO l):=decidable_of_iff (∀ i:Fin l.length,∀ h:i.1+1<l.length,cX l[i.1].1 l[i.1+1].1=true) ⟨fun h i hi=>h ⟨i,by omega⟩ hi,fun h i hi=>h i.1 hi⟩
def kids(f:Int)(l:List Lk):List Int:=f::l.map (·.2)
theorem se(f:Int)(l:List Lk):(kids f l).length=l.length+1:=by simp [kids]
theorem Bg:jL []=6:=rfl
theorem Gb(a b:List Lk):jL (a++b)+6=jL a+jL b:=by simp [jL];omega
theorem ot(p:Lk)(l:List Lk):jL (p::l)=yQ p+jL l:=by simp [jL];omega
theorem zg(l:List Lk)(k:Nat)(h:k<l.length):jL (l.take (k+1))=jL (l.take k)+yQ l[k]:=by
 have e:=Gb (l.take k) [l[k]];rw [az h];have:jL [l[k]]=yQ l[k]+6:=by rw [ot,Bg]
 omega
theorem rz(l:List Lk):7*l.length+6≤jL l:=by
 induction l with
 | nil=>simp [jL]
 | cons p l ih=>rw [ot,List.length_cons];unfold yQ;omega
theorem RY{l:List Lk}(h:l.all gz=true):jL l≤262*l.length+6:=by
 induction l with
 | nil=>simp [jL]
 | cons p l ih =>
  simp only [List.all_cons,cF] at h;have h1:=lA h.1;have h2:=ih h.2;rw [ot,List.length_cons];unfold yQ;omega
def nB(f:Int)(l:List Lk)(root:Bool):Option Nat :=
 if l=[] then some 3
 else if (fX f && l.all gz)=false then some 0
 else if ¬ nO l then some 11
 else if ¬ (kids f l).Nodup then some 4
 else if 4072<jL l then some 2
 else if root=false∧jL l<1777 then some 3
 else none
theorem jV{f:Int}{l:List Lk}{root:Bool}(h:nB f l root=none):l≠[]∧fX f=true∧(∀ p ∈ l,gz p=true)∧nO l∧(kids f l).Nodup∧jL l≤4072∧(root=false→1777≤jL l):=by
 unfold nB at h;split at h
 ·cases h
 ·rename_i h0
  split at h
  ·cases h
  ·rename_i h1
   split at h
   ·cases h
   ·rename_i h2
    split at h
    ·cases h
    ·rename_i h3
     split at h
     ·cases h
     ·rename_i h4
      split at h
      ·cases h
      ·rename_i h5
       have Jo:fX f=true∧l.all gz=true:=by
        cases hc:fX f <;> cases ha:l.all gz <;> simp_all
       refine ⟨h0,Jo.1,List.all_eq_true.1 Jo.2,Classical.not_not.1 h2,Classical.not_not.1 h3,by omega,fun hr=>?_⟩
       rcases a7 (jL l) 1777 with h' | h'
       ·exact absurd ⟨hr,h'⟩ h5
       ·exact h'
def dI(l:List Lk)(i:Nat)(p:Lk):List Lk:=l.take i++p::l.drop i
def cH(l:List Lk)(i:Nat):List Lk:=l.take i++l.drop (i+1)
def jc(a:List Lk)(key:ByteArray)(f:Int)(b:List Lk):List Lk:=a++(key,f)::b
def bm(l:List Lk):List Value:=l.flatMap fun p=>[.string p.1,.int .i64 p.2]
theorem ep(p:Lk)(l:List Lk):bm (p::l) = .string p.1::.int .i64 p.2::bm l:=by simp [bm]
theorem dh(a b:List Lk):bm (a++b)=bm a++bm b:=by simp [bm]
theorem aR(l:List Lk):(bm l).length=l.length*2:=by
 induction l with
 | nil=>rfl
 | cons p l ih=>rw [ep];simp [ih];omega
theorem gI(l:List Lk):∀ j (h:j<l.length),(bm l)[j*2]?=some (.string l[j].1)∧(bm l)[j*2+1]?=some (.int .i64 l[j].2):=by
 induction l with
 | nil=>intro j h;simp at h
 | cons p l ih =>
  intro j h;rw [ep];cases j with
  | zero=>exact ⟨rfl,rfl⟩
  | succ j =>
   have:=ih j (by simpa using h)
   rw [show (j+1)*2=j*2+1+1 by omega]
   simpa using this
theorem fU(l:List Lk):∀ u ∈ bm l,u.oneCell'=true:=by
 intro u hu;simp only [bm,ma] at hu;obtain ⟨p,_,h⟩:=hu;simp at h
 rcases h with rfl | rfl <;> rfl
theorem lQ:(prog.info? 179).map (fun i=>(i.zero,i.size,i.bytes))=some (some (.agg #[.string ByteArray.empty,.int .i64 0]),2,24):=by kernel_rfl
def UX(l:List Lk):Prop:=∀ p ∈ l,p.1.size≤140737488355328
def cV(w:World)(v:Value)(l:List Lk):Prop:=∃ a cap,v = .slice a l.length cap∧l.length≤cap∧(a=none→cap=0) ∧
 ∀ j (h:j<l.length),∃ g o,a=some ⟨g,o,none⟩∧w.cell? ⟨g,o+j*2,none⟩=some (.string l[j].1)∧w.cell? ⟨g,o+j*2+1,none⟩=some (.int .i64 l[j].2)
theorem cV.below{w w':World}{v:Value}{l:List Lk}(h:cV w v l)(hb:Below w.heap.size w w'):cV w' v l:=by
 obtain ⟨a,cap,rfl,hle,hn,hc⟩:=h;refine ⟨a,cap,rfl,hle,hn,fun j hj=>?_⟩
 obtain ⟨g,o,ha,h1,h2⟩:=hc j hj;exact ⟨g,o,ha,(hb.cell (p:=⟨g,o+j*2,none⟩) (World.block_lt_of_cell? w _ h1)).trans h1,(hb.cell (p:=⟨g,o+j*2+1,none⟩) (World.block_lt_of_cell? w _ h2)).trans h2⟩
theorem cV.form{w:World}{v:Value}{l:List Lk}(h:cV w v l):∃ a c,v = .slice a l.length c:=by
 obtain ⟨a,c,rfl,_⟩:=h;exact ⟨a,c,rfl⟩
theorem cV.rP{w:World}{base n:Nat}{v:Value}{l:List Lk}(h:w.ownsRow base 179 2 v n (bm l)):cV w v l:=by
 have hl:=h.1;rw [aR] at hl;have hl:l.length=n:=by omega
 rcases h.2 with ⟨rfl,hn⟩ | ⟨g,cap,cur,rfl,hb,hg,Cn,sQ,fs,mX⟩
 ·have h0:l.length=0:=by omega
  exact ⟨none,0,by rw [h0],by omega,fun _=>rfl,fun j hj=>by omega⟩
 ·refine ⟨some ⟨g,0,none⟩,cap,by rw [hl],by omega,fun h=>(by cases h),fun j hj=>⟨g,0,rfl,?_,?_⟩⟩
  ·rw [Nat.zero_add,h.cellAt (j*2) (by omega)];exact (gI l j hj).1
  ·rw [Nat.zero_add,h.cellAt (j*2+1) (by omega)];exact (gI l j hj).2
theorem cV.take{w:World}{a:Option Addr}{n m cap:Nat}{l:List Lk}(h:cV w (.slice a n cap) l)(hm:m≤n):cV w (.slice a m cap) (l.take m):=by
 obtain ⟨a',eP,he,hle,hn,hc⟩:=h;cases he;refine ⟨a,cap,by rw [ag,a8 hm],by rw [ag];omega,hn,fun j hj=>?_⟩
 rw [ag] at hj;obtain ⟨g,o,ha,h1,h2⟩:=hc j (by omega)
 exact ⟨g,o,ha,by rw [bD];exact h1,by rw [bD];exact h2⟩
theorem cV.nil(w:World):cV w (.slice none 0 0) []:=⟨none,0,rfl,aj _,fun _=>rfl,fun j h=>by simp at h⟩
def b7(w:World)(base:Nat)(v:Value)(l:List Lk):Prop:=w.ownsRow base 179 2 v l.length (bm l)
theorem b7.at{w:World}{base:Nat}{v:Value}{l:List Lk}(h:b7 w base v l):cV w v l:=cV.rP h
theorem b7.form{w:World}{base:Nat}{v:Value}{l:List Lk}(h:b7 w base v l):∃ a c,v = .slice a l.length c:=h.at.form
theorem b7.below{w w':World}{base:Nat}{v:Value}{l:List Lk}(h:b7 w base v l)(hb:Below w.heap.size w w'):b7 w' base v l:=by
 refine ⟨h.1,?_⟩;rcases h.2 with h' | ⟨g,cap,cur,h',h1,h2,hr⟩
 ·exact .inl h'
 ·refine .inr ⟨g,cap,cur,h',h1,?_,hr⟩;have hg:g<w.heap.size:=by
   rcases a7 g w.heap.size with h' | h'
   ·exact h'
   ·rw [aY h'] at h2;cases h2
  rw [hb.block g hg];exact h2
theorem b7.mono{w:World}{b b2:Nat}{v:Value}{l:List Lk}(h:b7 w b v l)(hb:b2≤b):b7 w b2 v l:=by
 refine ⟨h.1,?_⟩;rcases h.2 with h' | ⟨g,cap,cur,h',h1,hr⟩
 ·exact .inl h'
 ·exact .inr ⟨g,cap,cur,h',al hb h1,hr⟩
theorem b7.nil(w:World)(base:Nat):b7 w base (.slice none 0 0) []:=World.ownsRow_nil _ _ _ _
theorem fo(base:Nat)(v s:Value)(xs us:List Lk)(w:World)(aE:b7 w base v xs)(hs:cV w s us)(hb:(xs.length+us.length)*24≤140737488355328)(dy:base≤w.heap.size):∃ a' eP w',(Builtin.append_ #[148,148] 148 #[v,s]).run prog w = .ok (.slice a' (xs.length+us.length) eP) w'∧b7 w' base (.slice a' (xs.length+us.length) eP) (xs++us)∧w.grownBy w' v.ownBlock:=by
 obtain ⟨i0,hi,hz,cx,kU⟩:=info_parts lQ;obtain ⟨a,cap,rfl,hle,qN,hc⟩:=hs;have MO:∃ a' c',v = .slice a' xs.length c':=aE.form;unfold b7 at aE ⊢;rw [ae,dh];cases a with
 | none =>
  have h0:us=[]:=by
   cases us with
   | nil=>rfl
   | cons u r=>obtain ⟨g,o,he,_⟩:=hc 0 (by simp);cases he
  subst h0;rw [qN rfl];have hr:=run_append_owned_none (P:=prog) w base 148 148 179 i0 2 underlying148 hi v xs.length (bm xs) aE;obtain ⟨a',c',rfl⟩:=MO;exact ⟨a',c',w,hr,by simpa [bm] using aE,⟨rfl,rfl,rfl,aj _,fun _ _ _=>rfl⟩⟩
 | some ad =>
  obtain ⟨v',w',hr,gk,AQ,_⟩:=run_append_own (P:=prog) w base 148 148 179 i0 _ 2 24 underlying148 hi hz cx kU rfl (by decide) v xs.length (bm xs) aE ad us.length cap (bm us) (aR us) (fun j u hj=>by
   have l6:=(List.getElem?_eq_some_iff.1 hj).1;rw [aR] at l6;obtain ⟨g,o,he,c1,c2⟩:=hc (j / 2) (by omega)
   cases he;have hg:=gI us (j / 2) (by omega)
   rw [bB];rcases bW j with hm | hm
   ·have e:j / 2*2=j:=by omega
    rw [e] at hg c1;rw [hg.1] at hj;cases hj;exact c1
   ·have e:j / 2*2+1=j:=by omega
    rw [dM,e] at c2;rw [e] at hg;rw [hg.2] at hj;cases hj;exact c2) (fU us) (by unfold maxLen;omega) hb dy
  have hf:∃ a' c',v' = .slice a' (xs.length+us.length) c':=by
   rcases gk.2 with ⟨rfl,h0⟩ | ⟨g,cap,cur,rfl,_⟩
   ·exact ⟨none,0,by rw [h0]⟩
   ·exact ⟨_,_,rfl⟩
  obtain ⟨a',c',rfl⟩:=hf;exact ⟨a',c',w',hr,gk,AQ⟩
theorem b7.dn{w:World}{base:Nat}{v:Value}{l:List Lk}(h:b7 w base v l):∀ k,v.ownBlock=some k→base≤k∧k<w.heap.size:=World.ownsRow.lt h
theorem vN(w:World)(p:Lk)(t:TypeId):cV (w.alloc (.cells #[.string p.1,.int .i64 p.2] t)) (.slice (some ⟨w.heap.size,0,none⟩) 1 1) [p]:=by
 have hb:=bN w #[.string p.1,.int .i64 p.2] t;refine ⟨_,_,rfl,aj _,fun h=>(by cases h),fun j hj=>⟨_,_,rfl,?_,?_⟩⟩
 ·have:j=0:=by simpa using hj
  subst this;exact hb.2 0 (by simp)
 ·have:j=0:=by simpa using hj
  subst this;exact hb.2 1 (by simp)
theorem X7(w:World)(a:Option Addr)(n cap m:Nat)(hm:m≤cap):(Instr.sliceAt 148 (.slice a n cap) none (some (.int .i64 (m:Int))) none).run prog w = .ok (.slice a m cap) w:=by
 rw [run_sliceAt_slice (h:=underlying148),run_slice_h (ht:=underlying148) (h0:=by omega) (h2:=by omega)]
 have hz:(sizeOf (prog.elem 148)).run prog w = .ok 2 w:=by kernel_rfl
 rw [hz];simp [Result.andThen,sliced,Addr.add]
theorem cV.drop{w:World}{a:Option Addr}{n m cap:Nat}{l:List Lk}(h:cV w (.slice a n cap) l)(hm:m≤n):∃ a',cV w (.slice a' (n - m) (cap - m)) (l.drop m)∧∀ w',(Instr.sliceAt 148 (.slice a n cap) (some (.int .i64 (m:Int))) none none).run prog w' = .ok (.slice a' (n - m) (cap - m)) w':=by
 obtain ⟨a',eP,he,hle,hn,hc⟩:=h;cases he;refine ⟨if cap=m then a else a.map (·.add (m*2)),⟨_,_,by rw [ao],by rw [ao];omega,fun ha=>?_,fun j hj=>?_⟩,fun w'=>?_⟩
 ·split at ha
  ·omega
  ·cases a with
   | none=>have:=hn rfl;omega
   | some x=>cases ha
 ·rw [ao] at hj;obtain ⟨g,o,ha,h1,h2⟩:=hc (m+j) (by omega)
  subst ha;refine ⟨g,o+m*2,?_,?_,?_⟩
  ·rw [if_neg (by omega)];simp [bB]
  ·rw [dd,show o+m*2+j*2=o+(m+j)*2 by omega];exact h1
  ·rw [dd,show o+m*2+j*2+1=o+(m+j)*2+1 by omega];exact h2
 ·rw [run_sliceAt_slice (h:=underlying148),run_slice_l (ht:=underlying148) (h0:=by omega) (h1:=by omega)]
  have hz:(sizeOf (prog.elem 148)).run prog w' = .ok 2 w':=by kernel_rfl
  rw [hz];simp [Result.andThen,sliced]
end B
end Go.Proofs.YtihmgigfkmofnaaGreatDoor
