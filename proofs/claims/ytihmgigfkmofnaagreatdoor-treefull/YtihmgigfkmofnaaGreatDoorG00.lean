import Derived.Test.YtihmgigfkmofnaaGreatDoorProg
import Derived.WalkKit
import Derived.WalkSpells
import Derived.WalkLawsBesides
import Derived.Deep.AppendLies
import Derived.BigQuiet
import Derived.KernelRfl
import Derived.Laws.IdiomStrings
import Derived.Lib.AppendZeros
import Derived.Test.YtihmgigfkmofnaaGreatDoorA0
set_option maxHeartbeats 1000000
set_option maxRecDepth 20000
open Go.Proofs.Tryz
namespace Go.Proofs.YtihmgigfkmofnaaGreatDoor
open Go.RowKit
def eb(l:List UInt8):List Value:=l.map (fun c=>Value.int .u8 (c.toNat:Int))
theorem aZ(l:List UInt8):(eb l).length=l.length:=by simp [eb]
theorem jH(a b:List UInt8):eb (a++b)=eb a++eb b:=by simp [eb]
theorem iD(l:List UInt8)(j:Nat)(h:j<l.length):(eb l)[j]?=some (.int .u8 (l[j].toNat:Int)):=by simp [eb,h]
theorem qX(l:List UInt8):∀ u ∈ eb l,u.oneCell'=true:=by
 intro u hu;simp only [eb,List.mem_map] at hu;obtain ⟨c,_,rfl⟩:=hu;rfl
theorem bsize(s:ByteArray):s.data.toList.length=s.size:=by simp
theorem Tryz.info5:(prog.info? 5).map (fun i=>(i.zero,i.size,i.bytes))=some (some (.int .u8 0),1,1):=by kernel_rfl
def ee(l:List ByteArray)(i:Nat):List UInt8:=(l.take i).flatMap (fun c=>c.data.toList)
def fx(l:List ByteArray)(i:Nat):Nat:=2*l.length+(ee l i).length
def dW(l:List ByteArray):Nat:=fx l l.length
def G9(e:Nat):UInt8:=UInt8.ofNat (e / 256)
def FE(e:Nat):UInt8:=UInt8.ofNat (e % 256)
def fZ(l:List ByteArray):Nat→List UInt8
 | 0=>[]
 | i+1=>fZ l i++[G9 (fx l (i+1)),FE (fx l (i+1))]
def jy(l:List ByteArray):List UInt8:=fZ l l.length++ee l l.length++List.replicate (4072 - dW l) 0
def gV(l:List ByteArray)(i:Nat):List UInt8:=fZ l i++List.replicate (2*(l.length - i)) 0++ee l i++List.replicate (4072 - fx l i) 0
theorem uF(l:List ByteArray):ee l 0=[]:=by simp [ee]
theorem uG(l:List ByteArray)(i:Nat)(h:i<l.length):ee l (i+1)=ee l i++l[i].data.toList:=by
 unfold ee;rw [ax h,aR];simp
theorem pC(l:List ByteArray):fx l 0=2*l.length:=by simp [fx,uF]
theorem mE(l:List ByteArray)(i:Nat)(h:i<l.length):fx l (i+1)=fx l i+l[i].size:=by
 unfold fx;rw [uG l i h,ae,bsize];omega
theorem tF(l:List ByteArray)(i:Nat):∀ j,i≤j→j≤l.length→fx l i≤fx l j:=by
 intro j TH;induction j with
 | zero =>
  intro _;have:i=0:=by omega
  subst this;exact aj _
 | succ j ih =>
  intro hj;by_cases h:i=j+1
  ·subst h;exact aj _
  ·have h1:=ih (by omega) (by omega)
   have h2:=mE l j (by omega)
   omega
theorem dS(l:List ByteArray)(i:Nat):(fZ l i).length=2*i:=by
 induction i with
 | zero=>rfl
 | succ i ih=>simp [fZ,ih];omega
theorem rI(l:List ByteArray)(h:dW l≤4072):(jy l).length=4072:=by
 have e:dW l=2*l.length+(ee l l.length).length:=rfl;simp only [jy,ae,bA,dS];omega
theorem E8(l:List ByteArray)(h:dW l≤4072):gV l 0=List.replicate 4072 0:=by
 have e:dW l=2*l.length+(ee l l.length).length:=rfl;unfold gV;rw [uF,pC,fZ,List.nil_append,List.append_nil,List.replicate_append_replicate];congr 1;omega
theorem H5(l:List ByteArray):gV l l.length=jy l:=by
 simp [gV,jy,dW]
theorem vW{l:List ByteArray}(h:dW l≤4072){i:Nat}(hi:i≤l.length):fx l i≤4072:=ar (tF l i l.length hi (aj _)) h
theorem TT(l:List ByteArray)(i:Nat):2*l.length≤fx l i:=by unfold fx;omega
theorem Hz(l:List ByteArray)(i:Nat)(h:dW l≤4072)(hi:i≤l.length):(gV l i).length=4072:=by
 have:=vW h hi;have e:fx l i=2*l.length+(ee l i).length:=rfl;simp only [gV,ae,bA,dS];omega
theorem AS(e:Nat)(h:e≤4072):(G9 e).toNat=e / 256:=by
 simp [G9];omega
theorem Az(e:Nat):(FE e).toNat=e % 256:=by
 simp [FE]
def Ad(b:List UInt8)(i:Nat):Nat:=(b.getD (2*i) 0).toNat*256+(b.getD (2*i+1) 0).toNat
def lu(b:List UInt8)(n:Nat):Nat→Nat
 | 0=>2*n
 | i+1=>Ad b i
def MF(b:List UInt8)(n:Nat):Prop:=(n≤2036∧b.length=4072)∧(∀ i,i<n→lu b n i≤lu b n (i+1)∧lu b n (i+1)≤4072)∧∀ j,lu b n n≤j→j<4072→b.getD j 0=0
def yD(b:List UInt8)(n i:Nat):List UInt8:=(b.drop (lu b n i)).take (lu b n (i+1) - lu b n i)
def bY(b:List UInt8)(n:Nat):List ByteArray:=(List.range n).map fun i=>⟨(yD b n i).toArray⟩
theorem gk(b:List UInt8)(n:Nat):(bY b n).length=n:=by simp [bY]
theorem nD(b:List UInt8)(n i:Nat)(h:i<(bY b n).length):(bY b n)[i].data.toList=yD b n i:=by simp [bY]
theorem C8(l:List ByteArray)(n:Nat):∀ i,i<n→(fZ l n)[2*i]?=some (G9 (fx l (i+1)))∧(fZ l n)[2*i+1]?=some (FE (fx l (i+1))):=by
 induction n with
 | zero=>intro i h;omega
 | succ n ih =>
  intro i h;simp only [fZ];by_cases hi:i<n
  ·have:=ih i hi;rw [bD (by rw [dS];omega),bD (by rw [dS];omega)]
   exact this
  ·have:i=n:=by omega
   subst this;rw [bf (by rw [dS];omega),bf (by rw [dS];omega),dS]
   simp
theorem NZ(l:List ByteArray)(h:dW l≤4072)(i:Nat)(hi:i<l.length):Ad (jy l) i=fx l (i+1):=by
 have hg:=C8 l l.length i hi;have hl:=dS l l.length;have h1:=vW h (show i+1≤l.length by omega)
 unfold Ad jy;rw [aE,aE,ay,bD (by omega),bD (by omega),hg.1,hg.2]
 simp only [jA];rw [AS _ h1,Az];omega
theorem oN(l:List ByteArray)(h:dW l≤4072):∀ i,i≤l.length→lu (jy l) l.length i=fx l i
 | 0,_=>by rw [pC];rfl
 | i+1,hi=>NZ l h i (by omega)
theorem Hh(l:List ByteArray)(i:Nat)(h:i<l.length):ee l l.length=ee l i++(l[i].data.toList++(l.drop (i+1)).flatMap (fun c=>c.data.toList)):=by
 unfold ee;rw [al (aj _)];have hd:l.drop i=l[i]::l.drop (i+1):=a7 h;have hs:l.flatMap (fun c=>c.data.toList)=(l.take i).flatMap (fun c=>c.data.toList)++(l.drop i).flatMap (fun c=>c.data.toList):=by rw [← aR,aH]
 rw [hs,hd,List.flatMap_cons]
theorem qy(l:List ByteArray)(h:dW l≤4072):MF (jy l) l.length:=by
 have e:dW l=2*l.length+(ee l l.length).length:=rfl;refine ⟨⟨by omega,rI l h⟩,fun i hi=>?_,fun j hj h'=>?_⟩
 ·rw [oN l h i (by omega),oN l h (i+1) (by omega)]
  exact ⟨tF l i (i+1) (by omega) (by omega),vW h (by omega)⟩
 ·rw [oN l h _ (aj _)] at hj;have lY:dW l≤j:=hj;unfold jy;rw [aE,bf (by rw [ae,dS];omega)]
  rw [List.getElem?_replicate];split <;> rfl
theorem Ph(l:List ByteArray)(h:dW l≤4072)(i:Nat)(hi:i<l.length):yD (jy l) l.length i=l[i].data.toList:=by
 unfold yD;rw [oN l h i (by omega),oN l h (i+1) (by omega),mE l i hi]
 unfold jy;rw [Hh l i hi,← ay,ay (fZ l l.length++ee l i)];have e:fx l i=(fZ l l.length++ee l i).length:=by rw [ae,dS];rfl
 rw [im (by omega),e,List.drop_length,List.nil_append,ay]
 rw [aG (by rw [bsize];omega),al (by rw [bsize];omega)]
theorem A5(l:List ByteArray)(h:dW l≤4072):bY (jy l) l.length=l:=by
 refine ma (gk _ _) (fun i h1 h2=>?_)
 have:=nD (jy l) l.length i h1;rw [Ph l h i h2] at this;have:(bY (jy l) l.length)[i].data=l[i].data:=Array.toList_inj.1 this;exact congrArg ByteArray.mk this
theorem JC{b:List UInt8}{n:Nat}(h:MF b n):∀ i,i≤n→lu b n i≤4072
 | 0,_=>by have:=h.1.1;simp only [lu];omega
 | i+1,hi=>(h.2.1 i (by omega)).2
theorem Mj{b:List UInt8}{n:Nat}(h:MF b n)(i:Nat)(hi:i<n):(yD b n i).length=lu b n (i+1) - lu b n i:=by
 have h1:=JC h (i+1) (by omega)
 unfold yD;rw [ag,ao,h.1.2];omega
abbrev Pr:=ByteArray × ByteArray
def z6(p:Pr):Nat:=5+p.1.size+p.2.size
def fY(l:List Pr):Nat:=(l.map z6).sum
def cN(p:Pr):Bool:=decide (1≤p.1.size∧p.1.size≤255∧p.2.size≤700)
theorem eS{p:Pr}(h:cN p=true):1≤p.1.size∧p.1.size≤255∧p.2.size≤700:=by simpa [cN] using h
def cQ(a b:ByteArray):Bool:=Op.bytesLess a.toList b.toList
def gX(l:List Pr):Prop:=∀ i (h:i+1<l.length),cQ l[i].1 l[i+1].1=true
theorem q7:fY []=0:=rfl
theorem oa(p:Pr)(l:List Pr):fY (p::l)=z6 p+fY l:=by simp [fY]
theorem iH(a b:List Pr):fY (a++b)=fY a+fY b:=by simp [fY]
theorem zh(l:List Pr)(k:Nat)(h:k<l.length):fY (l.take (k+1))=fY (l.take k)+z6 l[k]:=by
 rw [ax h,iH];simp [fY]
theorem iE(l:List Pr):5*l.length≤fY l:=by
 induction l with
 | nil=>simp
 | cons p l ih=>rw [oa,List.length_cons];unfold z6;omega
theorem B7(x:List UInt8):Op.bytesLess x x=false:=by
 induction x with
 | nil=>rfl
 | cons a x ih=>simp [Op.bytesLess,ih]
theorem uR:∀ (x y z:List UInt8),Op.bytesLess x y=true→Op.bytesLess y z=true→Op.bytesLess x z=true
 | _,[],_,h,_=>by simp [Op.bytesLess] at h
 | _,_::_,[],_,h=>by simp [Op.bytesLess] at h
 | [],_::_,_::_,_,_=>by simp [Op.bytesLess]
 | a::x,b::y,c::z,h1,h2=>by
  simp only [Op.bytesLess,Bool.or_eq_true,decide_eq_true_eq,bU,beq_iff_eq] at *;rcases h1 with h1 | ⟨rfl,h1⟩
  ·rcases h2 with h2 | ⟨rfl,h2⟩
   ·exact .inl (UInt8.lt_trans h1 h2)
   ·exact .inl h1
  ·rcases h2 with h2 | ⟨rfl,h2⟩
   ·exact .inl h2
   ·exact .inr ⟨rfl,uR x y z h1 h2⟩
theorem uS:∀ (x y:List UInt8),Op.bytesLess x y=false→Op.bytesLess y x=false→x=y
 | [],[],_,_=>rfl
 | [],_::_,h,_=>by simp [Op.bytesLess] at h
 | _::_,[],_,h=>by simp [Op.bytesLess] at h
 | a::x,b::y,h1,h2=>by
  simp only [Op.bytesLess,Bool.or_eq_false_iff,decide_eq_false_iff_not,Bool.and_eq_false_imp,beq_iff_eq] at *;have Cv:a=b:=by
   have:=UInt8.not_lt.1 h1.1;have:=UInt8.not_lt.1 h2.1;exact UInt8.le_antisymm ‹_› ‹_›
  subst Cv;rw [uS x y (h1.2 rfl) (h2.2 rfl)]
theorem nk(a:ByteArray):cQ a a=false:=B7 _
theorem dh{a b c:ByteArray}(h1:cQ a b=true)(h2:cQ b c=true):cQ a c=true:=uR _ _ _ h1 h2
theorem ig{x y:ByteArray}(h:x.data.toList=y.data.toList):x=y:=by
 have:x.data=y.data:=Array.toList_inj.1 h;exact congrArg ByteArray.mk this
theorem mu{a b:ByteArray}(h1:cQ a b=false)(h2:cQ b a=false):a=b:=by
 have:=uS _ _ h1 h2;rw [ByteArray.toList_eq,ByteArray.toList_eq] at this;exact ig this
theorem mw{a b:ByteArray}(h:cQ a b=true):cQ b a=false:=by
 cases h':cQ b a
 ·rfl
 ·have:=dh h h';rw [nk] at this;cases this
theorem gX.lt{l:List Pr}(h:gX l)(i:Nat):∀ j (hj:j<l.length) (TH:i<j),cQ (l[i]'(by omega)).1 l[j].1=true:=by
 intro j;induction j with
 | zero=>intro _ h;omega
 | succ j ih =>
  intro hj TH;by_cases he:i=j
  ·subst he;exact h i hj
  ·exact dh (ih (by omega) (by omega)) (h j hj)
theorem Dh:gX []:=fun i h=>by simp at h
theorem gX.take{l:List Pr}(h:gX l)(k:Nat):gX (l.take k):=fun i hi=>by
 rw [ag] at hi;simp only [bF];exact h i (by omega)
theorem gX.drop{l:List Pr}(h:gX l)(k:Nat):gX (l.drop k):=fun i hi=>by
 rw [ao] at hi;simp only [cV];exact h (k+i) (by omega)
theorem Kx{l:List Pr}(p:Pr):gX (l++[p])↔gX l∧∀ (h:0<l.length),cQ (l[l.length - 1]'(by omega)).1 p.1=true:=by
 constructor
 ·intro h;refine ⟨fun i hi=>?_,fun h0=>?_⟩
  ·have:=h i (by simp;omega)
   rwa [aJ (by omega),aJ (by omega)] at this
  ·have:=h (l.length - 1) (by simp;omega)
   rw [aJ (by omega)] at this
   have e:(l++[p])[l.length - 1+1]'(by simp;omega)=p:=by
    simp only [show l.length - 1+1=l.length by omega];simp
   rwa [e] at this
 ·rintro ⟨h1,h2⟩ i hi;simp only [ae,aQ] at hi;by_cases he:i+1<l.length
  ·rw [aJ (by omega),aJ (by omega)]
   exact h1 i he
  ·have e:i=l.length - 1:=by omega
   have h0:0<l.length:=by omega
   rw [aJ (by omega)]
   have e2:(l++[p])[i+1]'(by simp;omega)=p:=by
    simp only [show i+1=l.length by omega];simp
   rw [e2];simp only [e];exact h2 h0
instance (l:List Pr):Decidable (gX l):=decidable_of_iff (∀ i:Fin l.length,∀ h:i.1+1<l.length,cQ l[i.1].1 l[i.1+1].1=true) ⟨fun h i hi=>h ⟨i,by omega⟩ hi,fun h i hi=>h i.1 hi⟩
def zI(l:List Pr)(root:Bool):Option Nat :=
 if l.all cN=false then some 0
 else if ¬ gX l then some 11
 else if 4072<fY l then some 2
 else if l=[]∨root=false∧fY l<1556 then some 3
 else none
theorem sd{l:List Pr}{root:Bool}(h:zI l root=none):(∀ p ∈ l,cN p=true)∧gX l∧fY l≤4072∧l≠[]∧(root=false→1556≤fY l):=by
 unfold zI at h;split at h
 ·cases h
 ·rename_i h1
  split at h
  ·cases h
  ·rename_i h2
   split at h
   ·cases h
   ·rename_i h3
    split at h
    ·cases h
    ·rename_i h4
     refine ⟨fun p hp=>?_,Classical.not_not.1 h2,by omega,fun e=>h4 (.inl e),fun hr=>?_⟩
     ·have:l.all cN=true:=by cases h:l.all cN <;> simp_all
      exact List.all_eq_true.1 this p hp
     ·rcases a8 (fY l) 1556 with h' | h'
      ·exact absurd (.inr ⟨hr,h'⟩) h4
      ·exact h'
def aP(l:List Pr)(key:ByteArray):Nat:=l.findIdx (fun p=>!cQ p.1 key)
def bg(l:List Pr)(key:ByteArray):Bool:=match l[aP l key]? with | some p=>decide (p.1=key) | none=>false
def dd(l:List Pr)(key:ByteArray):Nat:=if bg l key then aP l key+1 else aP l key
def fu(l:List Pr)(key value:ByteArray):List Pr:=l.take (aP l key)++(key,value)::l.drop (dd l key)
def fX(l:List Pr)(key:ByteArray):List Pr:=l.take (aP l key)++l.drop (dd l key)
theorem cD(l:List Pr)(key:ByteArray):aP l key≤l.length:=List.findIdx_le_length
theorem lS(l:List Pr)(key:ByteArray)(j:Nat)(h:j<aP l key)(hj:j<l.length):cQ l[j].1 key=true:=by
 have:=List.not_of_lt_findIdx h;simpa using this
theorem rY(l:List Pr)(key:ByteArray)(h:aP l key<l.length):cQ l[aP l key].1 key=false:=by
 have:=List.findIdx_getElem (xs:=l) (p:=fun q:Pr=>!cQ q.1 key) (w:=h)
 simp only [Bool.not_eq_true'] at this;exact this
theorem rX{l:List Pr}{key:ByteArray}{k:Nat}(hk:k<l.length)(h1:∀ j (hj:j<k),cQ (l[j]'(by omega)).1 key=true)(h2:cQ l[k].1 key=false):aP l key=k:=by
 rcases Nat.lt_trichotomy (aP l key) k with h | h | h
 ·have:=rY l key (by omega)
  rw [h1 _ h] at this;cases this
 ·exact h
 ·have:=lS l key k h hk;rw [h2] at this;cases this
theorem qH{l:List Pr}{key:ByteArray}(h1:∀ j (hj:j<l.length),cQ l[j].1 key=true):aP l key=l.length:=by
 rcases a8 (aP l key) l.length with h | h
 ·have:=rY l key h;rw [h1 _ h] at this;cases this
 ·have:=cD l key;omega
theorem pB{l:List Pr}{key:ByteArray}(h:aP l key<l.length):bg l key=decide (l[aP l key].1=key):=by
 unfold bg;rw [af h]
theorem oL{l:List Pr}{key:ByteArray}(h:¬ aP l key<l.length):bg l key=false:=by
 unfold bg;rw [bB (by omega)]
theorem gz{l:List Pr}{key:ByteArray}(h:bg l key=true):aP l key<l.length:=by
 rcases a8 (aP l key) l.length with h' | h'
 ·exact h'
 ·rw [oL (by omega)] at h;cases h
theorem jQ(l:List Pr)(key:ByteArray):dd l key≤l.length:=by
 unfold dd;split
 ·rename_i h;exact gz h
 ·exact cD _ _
theorem eW(l:List Pr)(key:ByteArray):aP l key≤dd l key:=by
 unfold dd;split <;> omega
def Boxed(b:Nat)(cs:List Value)(w:World):Prop:=b<w.heap.size∧∀ j (h:j<cs.length),w.cell? ⟨b,j,none⟩=some cs[j]
theorem Boxed.below{b:Nat}{cs:List Value}{w w':World}(h:Boxed b cs w)(hb:Below w.heap.size w w'):Boxed b cs w' :=
 ⟨aq h.1 hb.size,fun j hj=>(hb.cell (p:=⟨b,j,none⟩) h.1).trans (h.2 j hj)⟩
theorem bM(w:World)(cs:Array Value)(t:TypeId):Boxed w.heap.size cs.toList (w.alloc (.cells cs t)):=by
 refine ⟨by simp,fun j hj=>?_⟩
 have h:(w.alloc (.cells cs t)).heap[w.heap.size]?=some (.cells cs t (0,0)):=heap_alloc_new w _;rw [cell_of_row _ w.heap.size j cs t (0,0) h];simp only [Array.length_toList] at hj;simp [hj]
theorem ai(w:World)(o:Obj):Below w.heap.size w (w.alloc o):=(Below.refl _ _).alloc (aj _) o
theorem Below.next{a b c:World}(h:Below a.heap.size a b)(k:Below b.heap.size b c):Below a.heap.size a c:=h.trans (k.mono h.size)
theorem IQ{k:IntKind}{a b:Int}(h:a=b):Ending.returned (.int k a) = .returned (.int k b):=by rw [h]
theorem aA{B:Nat}{a w:World}(h:Below B a w)(n:Nat):Below B a (w.drewN n):=⟨h.os,h.tape,h.output,h.size,h.block⟩
theorem ab{p:Prop}(h:p):Hid p:=h
def nG(w:World)(v:Value)(us:List Value):Prop:=∃ a cap,v = .slice a us.length cap∧us.length≤cap∧(a=none→cap=0)∧∀ j u,us[j]?=some u→∃ g o,a=some ⟨g,o,none⟩∧w.cell? ⟨g,o+j,none⟩=some u
theorem nG.below{w w':World}{v:Value}{us:List Value}(h:nG w v us)(hb:Below w.heap.size w w'):nG w' v us:=by
 obtain ⟨a,cap,rfl,hle,hn,hc⟩:=h;refine ⟨a,cap,rfl,hle,hn,fun j u hj=>?_⟩
 obtain ⟨g,o,ha,bm⟩:=hc j u hj;exact ⟨g,o,ha,(hb.cell (p:=⟨g,o+j,none⟩) (World.block_lt_of_cell? w _ bm)).trans bm⟩
theorem gd{w:World}{base e n:Nat}{v:Value}{us:List Value}(h:w.ownsRow base e 1 v n us):nG w v us:=by
 have hl:=h.1;rw [Nat.mul_one] at hl;rcases h.2 with ⟨rfl,hn⟩ | ⟨g,cap,cur,rfl,hb,hg,BQ,sB,fI,mf⟩
 ·have h0:us.length=0:=by omega
  exact ⟨none,0,by rw [h0],by omega,fun _=>rfl,fun j u hj=>by rw [List.length_eq_zero_iff.1 h0] at hj;simp at hj⟩
 ·refine ⟨some ⟨g,0,none⟩,cap,by rw [hl],by omega,fun h=>(by cases h),fun j u hj=>⟨g,0,rfl,?_⟩⟩
  have lY:=(List.getElem?_eq_some_iff.1 hj).1;rw [Nat.zero_add,h.cellAt j (by omega)];exact hj
theorem nG.take{w:World}{a:Option Addr}{n m cap:Nat}{us:List Value}(h:nG w (.slice a n cap) us)(hm:m≤n):nG w (.slice a m cap) (us.take m):=by
 obtain ⟨a',eY,he,hle,hn,hc⟩:=h;cases he;refine ⟨a,cap,by rw [ag,a6 hm],by rw [ag];omega,hn,fun j u hj=>hc j u ?_⟩
 rw [cJ] at hj;split at hj
 ·exact hj
 ·cases hj
theorem bt(b o c:Nat):(⟨b,o,none⟩ : Addr).add c=⟨b,o+c,none⟩:=by
 unfold Addr.add;split
 ·rename_i h;rw [h,Nat.add_zero]
 ·rfl
theorem nF(t e:TypeId)(z:Value)(bytes:Nat)(aad:(prog.info? e).map (fun i=>(i.zero,i.size,i.bytes))=some (some z,1,bytes))(ht:prog.underlying t=some (.slice e))(mU:z.cells.size=1)(base n:Nat)(v:Value)(xs:List Value)(w:World)(aF:w.ownsRow base e 1 v n xs)(s:Value)(us:List Value)(hs:nG w s us)(h1:∀ u ∈ us,u.oneCell'=true)(hb:(n+us.length)*bytes≤140737488355328)(aM:1≤bytes)(dx:base≤w.heap.size):∃ a' eY w',(Builtin.append_ #[t,t] t #[v,s]).run prog w = .ok (.slice a' (n+us.length) eY) w'∧w'.ownsRow base e 1 (.slice a' (n+us.length) eY) (n+us.length) (xs++us)∧w.grownBy w' v.ownBlock:=by
 obtain ⟨i0,hi,hz,b8,kP⟩:=info_parts aad;obtain ⟨a,cap,rfl,hle,qD,hc⟩:=hs;cases a with
 | none =>
  have h0:us=[]:=by
   cases us with
   | nil=>rfl
   | cons u r=>obtain ⟨g,o,he,_⟩:=hc 0 u rfl;cases he
  subst h0;rw [qD rfl];have hr:=run_append_owned_none (P:=prog) w base t t e i0 1 ht hi v n xs aF;have hf:∃ a' c',v = .slice a' n c':=by
   rcases aF.2 with ⟨rfl,rfl⟩ | ⟨g,cap,cur,rfl,_⟩
   ·exact ⟨_,_,rfl⟩
   ·exact ⟨_,_,rfl⟩
  obtain ⟨a',c',rfl⟩:=hf;exact ⟨a',c',w,hr,by rw [List.append_nil];exact aF,⟨rfl,rfl,rfl,aj _,fun _ _ _=>rfl⟩⟩
 | some ad =>
  have hB:(n+us.length)*1≤(n+us.length)*bytes:=Nat.mul_le_mul_left _ aM;obtain ⟨v',w',hr,gu,AT,_⟩:=run_append_own (P:=prog) w base t t e i0 z 1 bytes ht hi hz b8 kP mU (by decide) v n xs aF ad us.length cap us (by rw [Nat.mul_one]) (fun j u hj=>by
   obtain ⟨g,o,he,bm⟩:=hc j u hj;cases he;rw [bt];exact bm) h1 (by unfold maxLen;omega) hb dx
  have hf:∃ a' c',v' = .slice a' (n+us.length) c':=by
   rcases gu.2 with ⟨rfl,h0⟩ | ⟨g,cap,cur,rfl,_⟩
   ·exact ⟨none,0,by rw [h0]⟩
   ·exact ⟨_,_,rfl⟩
  obtain ⟨a',c',rfl⟩:=hf;exact ⟨a',c',w',hr,gu,AT⟩
theorem wpList_append_run{ops:Array Oper}{rest:List Oper}{o:Oper}{a:Act}{w:World}{Q:Exit→Act→World→Prop}(t:TypeId)(nK:o.guard=none)(d x:Operand)
  (ho:o.op = .call { callee:=.builtin .append,args:=#[d,x],argTypes:=#[t,t] }) (zr:o.type=t) (vd vx:Value) (hd:a.eval d=vd) (hx:a.eval x=vx) (v:Value) (w':World)
  (bq:(Builtin.append_ #[t,t] t #[vd,vx]).run prog w = .ok v w') (h:wpList prog ops Q rest (a.put o.dst v) w'):wpList prog ops Q (o::rest) a w :=
 wpList_plain nK fun _ hK=>by
  unfold Oper.wp;simp [execOp,ho,resolve,invoke,builtin,hd,hx,zr,bq,Result.andThen]
  exact hK _ _ h
def ints(l:List Int):List Value:=l.map (Value.int .i64)
theorem j9(l:List Int):(ints l).length=l.length:=by simp [ints]
theorem Pp(l:List Int)(j:Nat)(h:j<l.length):(ints l)[j]?=some (.int .i64 l[j]):=by simp [ints,h]
theorem oC(a b:List Int):ints (a++b)=ints a++ints b:=by simp [ints]
theorem info3:(prog.info? 3).map (fun i=>(i.zero,i.size,i.bytes))=some (some (.int .i64 0),1,8):=by kernel_rfl
def iI(l:List Pr):List Value:=l.flatMap fun p=>[.string p.1,.string p.2]
theorem Dr(p:Pr)(l:List Pr):iI (p::l) = .string p.1::.string p.2::iI l:=by simp [iI]
theorem xj(a b:List Pr):iI (a++b)=iI a++iI b:=by simp [iI]
theorem eQ(l:List Pr):(iI l).length=l.length*2:=by
 induction l with
 | nil=>rfl
 | cons p l ih=>rw [Dr];simp [ih];omega
theorem vF(l:List Pr):∀ j (h:j<l.length),(iI l)[j*2]?=some (.string l[j].1)∧(iI l)[j*2+1]?=some (.string l[j].2):=by
 induction l with
 | nil=>intro j h;simp at h
 | cons p l ih =>
  intro j h;rw [Dr];cases j with
  | zero=>exact ⟨rfl,rfl⟩
  | succ j =>
   have:=ih j (by simpa using h)
   rw [show (j+1)*2=j*2+1+1 by omega]
   simpa using this
theorem SC(l:List Pr):∀ u ∈ iI l,u.oneCell'=true:=by
 intro u hu;simp only [iI,l9] at hu;obtain ⟨p,_,h⟩:=hu;simp at h
 rcases h with rfl | rfl <;> rfl
theorem Jh:(prog.info? 52).map (fun i=>(i.zero,i.size,i.bytes))=some (some (.agg #[.string ByteArray.empty,.string ByteArray.empty]),2,32):=by kernel_rfl
def Un(l:List Pr):Prop:=∀ p ∈ l,p.1.size≤140737488355328∧p.2.size≤140737488355328
def gM(w:World)(v:Value)(l:List Pr):Prop:=∃ a cap,v = .slice a l.length cap∧l.length≤cap∧(a=none→cap=0) ∧
 ∀ j (h:j<l.length),∃ g o,a=some ⟨g,o,none⟩∧w.cell? ⟨g,o+j*2,none⟩=some (.string l[j].1)∧w.cell? ⟨g,o+j*2+1,none⟩=some (.string l[j].2)
theorem gM.below{w w':World}{v:Value}{l:List Pr}(h:gM w v l)(hb:Below w.heap.size w w'):gM w' v l:=by
 obtain ⟨a,cap,rfl,hle,hn,hc⟩:=h;refine ⟨a,cap,rfl,hle,hn,fun j hj=>?_⟩
 obtain ⟨g,o,ha,h1,h2⟩:=hc j hj;exact ⟨g,o,ha,(hb.cell (p:=⟨g,o+j*2,none⟩) (World.block_lt_of_cell? w _ h1)).trans h1,(hb.cell (p:=⟨g,o+j*2+1,none⟩) (World.block_lt_of_cell? w _ h2)).trans h2⟩
theorem gM.form{w:World}{v:Value}{l:List Pr}(h:gM w v l):∃ a c,v = .slice a l.length c:=by
 obtain ⟨a,c,rfl,_⟩:=h;exact ⟨a,c,rfl⟩
theorem gM.rB{w:World}{base n:Nat}{v:Value}{l:List Pr}(h:w.ownsRow base 52 2 v n (iI l)):gM w v l:=by
 have hl:=h.1;rw [eQ] at hl;have hl:l.length=n:=by omega
 rcases h.2 with ⟨rfl,hn⟩ | ⟨g,cap,cur,rfl,hb,hg,BQ,sB,fI,mf⟩
 ·have h0:l.length=0:=by omega
  exact ⟨none,0,by rw [h0],by omega,fun _=>rfl,fun j hj=>by omega⟩
 ·refine ⟨some ⟨g,0,none⟩,cap,by rw [hl],by omega,fun h=>(by cases h),fun j hj=>⟨g,0,rfl,?_,?_⟩⟩
  ·rw [Nat.zero_add,h.cellAt (j*2) (by omega)];exact (vF l j hj).1
  ·rw [Nat.zero_add,h.cellAt (j*2+1) (by omega)];exact (vF l j hj).2
theorem gM.take{w:World}{a:Option Addr}{n m cap:Nat}{l:List Pr}(h:gM w (.slice a n cap) l)(hm:m≤n):gM w (.slice a m cap) (l.take m):=by
 obtain ⟨a',eY,he,hle,hn,hc⟩:=h;cases he;refine ⟨a,cap,by rw [ag,a6 hm],by rw [ag];omega,hn,fun j hj=>?_⟩
 rw [ag] at hj;obtain ⟨g,o,ha,h1,h2⟩:=hc j (by omega)
 exact ⟨g,o,ha,by rw [bF];exact h1,by rw [bF];exact h2⟩
theorem gM.nil(w:World):gM w (.slice none 0 0) []:=⟨none,0,rfl,aj _,fun _=>rfl,fun j h=>by simp at h⟩
def pV(n:Nat):Int:=IntKind.i64.wrap (n:Int)
theorem Be(a b:Nat):IntKind.i64.wrap (pV a+(b:Int))=pV (a+b):=by
 unfold pV;rw [IntKind.wrap_i64,IntKind.wrap_i64,IntKind.wrap_i64];omega
theorem kR{n:Nat}(h:n≤4611686018427387904):pV n=(n:Int):=by
 unfold pV;rw [IntKind.wrap_i64];omega
theorem uk(p:Pr)(w:World)(h1:p.1.size≤140737488355328)(h2:p.2.size≤140737488355328):Calls prog 201 #[.agg #[.string p.1,.string p.2]] w fun e w'=>e = .returned (.int .i64 (z6 p:Int))∧Below w.heap.size w w':=by
 have fi:=ai w (.cells #[.string p.1,.string p.2] 52);have vR:IntKind.i64.wrap (5+(p.1.size:Int))=5+(p.1.size:Int):=by rw [IntKind.wrap_i64];omega
 have GY:IntKind.i64.wrap (5+(p.1.size:Int)+(p.2.size:Int))=(z6 p:Int):=by rw [IntKind.wrap_i64];unfold z6;omega
 go_enter func201,ntmps201;go_wp2;go_ret;exact ⟨rfl,fi⟩
theorem Ay(v:Value)(l:List Pr)(w:World)(cO:Un l)(hm:l.length≤140737488355328)(hr:gM w v l):Calls prog 161 #[v] w fun e w'=>e = .returned (.int .i64 (pV (fY l)))∧Below w.heap.size w w':=by
 obtain ⟨a,cap,rfl,cT,_,hc⟩:=hr;have HC:=ab hc;obtain ⟨n,hn⟩ : ∃ n,n=l.length:=⟨_,rfl⟩;rw [← hn] at hm ⊢;have HN:=ab hn;have pF:=ab cO;clear hc hn cT cO;go_enter func161,ntmps161;go_wp2;go_loopw [3,8] (fun r i wr=>∃ k:Nat,k≤n∧i = .int .i64 k∧r = .int .i64 (pV (fY (l.take k)))∧Below w.heap.size w wr) (fun _ i _=>n - (intOf i).toNat)
 case atStart=>exact ⟨0,aB _,rfl,rfl,Below.refl _ _⟩
 case round =>
  obtain ⟨k,hk,rfl,rfl,bO⟩:=hrel;by_cases bK:k<n
  ·have de:k<l.length:=by have:=HN.out;omega
   obtain ⟨g,o,rfl,f1,f2⟩:=HC.out k de;have c1:wr.cell? ⟨g,o+k*2,none⟩=some (.string l[k].1):=(bO.cell (p:=⟨g,o+k*2,none⟩) (World.block_lt_of_cell? w _ f1)).trans f1;have c2:wr.cell? ⟨g,o+k*2+1,none⟩=some (.string l[k].2):=(bO.cell (p:=⟨g,o+k*2+1,none⟩) (World.block_lt_of_cell? w _ f2)).trans f2;have AQ:=pF.out l[k] (aI _);have zq:IntKind.i64.wrap (pV (fY (l.take k))+(z6 l[k] : Int))=pV (fY (l.take (k+1))):=by rw [Be,← zh l k de]
   obtain ⟨p,hp⟩ : ∃ p,p=l[k]:=⟨_,rfl⟩;rw [← hp] at c1 c2 zq AQ;have HZ:=ab (fun W=>uk p W AQ.1 AQ.2)
   obtain ⟨x,hx⟩ : ∃ x,x=pV (fY (l.take k)):=⟨_,rfl⟩;obtain ⟨y,hy⟩ : ∃ y,y=pV (fY (l.take (k+1))):=⟨_,rfl⟩;obtain ⟨z,hz⟩ : ∃ z,z=z6 p:=⟨_,rfl⟩;rw [← hx,← hy,← hz] at zq;rw [← hx];rw [← hz] at HZ;have HY:=ab hy;have dK:(k:Int)<(n:Int):=by omega
   have HB:=ab (Below.next bO (ai wr (.cells #[.string p.1,.string p.2] 52)));clear hp hx hy hz HC f1 f2 bO AQ;go_wp2_with fail;refine (HZ.out _).mono ?_
   rintro e w1 ⟨rfl,aM⟩;have bN:=ab (Below.next HB.out aM);clear aM HB HZ c1 c2;go_wp2;go_roundw
   case rel=>exact ⟨k+1,by omega,by go_num,by rw [← HY.out],bN.out⟩
   case measure=>simp [intOf];omega
  ·have df:l.take k=l:=by rw [al];have:=HN.out;omega
   rw [df];have HB:=ab bO;have dK:¬ (k:Int)<(n:Int):=by omega
   obtain ⟨x,hx⟩ : ∃ x,x=pV (fY l):=⟨_,rfl⟩;rw [← hx];have HX:=ab hx;clear HC bO df hx;go_wp2;go_ret;exact ⟨by rw [← HX.out];rfl,HB.out⟩
namespace B
abbrev Lk:=ByteArray × Int
def yT(p:Lk):Nat:=7+p.1.size
def jT(l:List Lk):Nat:=6+(l.map yT).sum
def gj(n:Int):Bool:=decide (2≤n∧n<1048576)
def gB(p:Lk):Bool:=decide (1≤p.1.size∧p.1.size≤255∧2≤p.2∧p.2<1048576)
theorem ll{p:Lk}(h:gB p=true):1≤p.1.size∧p.1.size≤255∧2≤p.2∧p.2<1048576:=by simpa [gB] using h
def nM(l:List Lk):Prop:=∀ i (h:i+1<l.length),cQ l[i].1 l[i+1].1=true
instance (l:List Lk):Decidable (nM l):=decidable_of_iff (∀ i:Fin l.length,∀ h:i.1+1<l.length,cQ l[i.1].1 l[i.1+1].1=true) ⟨fun h i hi=>h ⟨i,by omega⟩ hi,fun h i hi=>h i.1 hi⟩
def kids(f:Int)(l:List Lk):List Int:=f::l.map (·.2)
theorem rN(f:Int)(l:List Lk):(kids f l).length=l.length+1:=by simp [kids]
theorem IB:jT []=6:=rfl
theorem Gd(a b:List Lk):jT (a++b)+6=jT a+jT b:=by simp [jT];omega
theorem oc(p:Lk)(l:List Lk):jT (p::l)=yT p+jT l:=by simp [jT];omega
theorem zi(l:List Lk)(k:Nat)(h:k<l.length):jT (l.take (k+1))=jT (l.take k)+yT l[k]:=by
 have e:=Gd (l.take k) [l[k]];rw [ax h];have:jT [l[k]]=yT l[k]+6:=by rw [oc,IB]
 omega
theorem q9(l:List Lk):7*l.length+6≤jT l:=by
 induction l with
 | nil=>simp [jT]
 | cons p l ih=>rw [oc,List.length_cons];unfold yT;omega
theorem Sj{l:List Lk}(h:l.all gB=true):jT l≤262*l.length+6:=by
 induction l with
 | nil=>simp [jT]
 | cons p l ih =>
  simp only [List.all_cons,bU] at h;have h1:=ll h.1;have h2:=ih h.2;rw [oc,List.length_cons];unfold yT;omega
def nB(f:Int)(l:List Lk)(root:Bool):Option Nat :=
 if l=[] then some 3
 else if (gj f && l.all gB)=false then some 0
 else if ¬ nM l then some 11
 else if ¬ (kids f l).Nodup then some 4
 else if 4072<jT l then some 2
 else if root=false∧jT l<1777 then some 3
 else none
theorem kV{f:Int}{l:List Lk}{root:Bool}(h:nB f l root=none):l≠[]∧gj f=true∧(∀ p ∈ l,gB p=true)∧nM l∧(kids f l).Nodup∧jT l≤4072∧(root=false→1777≤jT l):=by
 unfold nB at h;split at h
 ·cases h
 ·rename_i h0
  split at h
  ·cases h
  ·rename_i h1
   split at h
   ·cases h
   ·rename_i h2
    split at h
    ·cases h
    ·rename_i h3
     split at h
     ·cases h
     ·rename_i h4
      split at h
      ·cases h
      ·rename_i h5
       have Jw:gj f=true∧l.all gB=true:=by
        cases hc:gj f <;> cases ha:l.all gB <;> simp_all
       refine ⟨h0,Jw.1,List.all_eq_true.1 Jw.2,Classical.not_not.1 h2,Classical.not_not.1 h3,by omega,fun hr=>?_⟩
       rcases a8 (jT l) 1777 with h' | h'
       ·exact absurd ⟨hr,h'⟩ h5
       ·exact h'
def dJ(l:List Lk)(i:Nat)(p:Lk):List Lk:=l.take i++p::l.drop i
def cA(l:List Lk)(i:Nat):List Lk:=l.take i++l.drop (i+1)
def iU(a:List Lk)(key:ByteArray)(f:Int)(b:List Lk):List Lk:=a++(key,f)::b
def bh(l:List Lk):List Value:=l.flatMap fun p=>[.string p.1,.int .i64 p.2]
theorem eE(p:Lk)(l:List Lk):bh (p::l) = .string p.1::.int .i64 p.2::bh l:=by simp [bh]
theorem cZ(a b:List Lk):bh (a++b)=bh a++bh b:=by simp [bh]
theorem aT(l:List Lk):(bh l).length=l.length*2:=by
 induction l with
 | nil=>rfl
 | cons p l ih=>rw [eE];simp [ih];omega
theorem gJ(l:List Lk):∀ j (h:j<l.length),(bh l)[j*2]?=some (.string l[j].1)∧(bh l)[j*2+1]?=some (.int .i64 l[j].2):=by
 induction l with
 | nil=>intro j h;simp at h
 | cons p l ih =>
  intro j h;rw [eE];cases j with
  | zero=>exact ⟨rfl,rfl⟩
  | succ j =>
   have:=ih j (by simpa using h)
   rw [show (j+1)*2=j*2+1+1 by omega]
   simpa using this
theorem gh(l:List Lk):∀ u ∈ bh l,u.oneCell'=true:=by
 intro u hu;simp only [bh,l9] at hu;obtain ⟨p,_,h⟩:=hu;simp at h
 rcases h with rfl | rfl <;> rfl
theorem lO:(prog.info? 179).map (fun i=>(i.zero,i.size,i.bytes))=some (some (.agg #[.string ByteArray.empty,.int .i64 0]),2,24):=by kernel_rfl
def Vu(l:List Lk):Prop:=∀ p ∈ l,p.1.size≤140737488355328
def di(w:World)(v:Value)(l:List Lk):Prop:=∃ a cap,v = .slice a l.length cap∧l.length≤cap∧(a=none→cap=0) ∧
 ∀ j (h:j<l.length),∃ g o,a=some ⟨g,o,none⟩∧w.cell? ⟨g,o+j*2,none⟩=some (.string l[j].1)∧w.cell? ⟨g,o+j*2+1,none⟩=some (.int .i64 l[j].2)
theorem di.below{w w':World}{v:Value}{l:List Lk}(h:di w v l)(hb:Below w.heap.size w w'):di w' v l:=by
 obtain ⟨a,cap,rfl,hle,hn,hc⟩:=h;refine ⟨a,cap,rfl,hle,hn,fun j hj=>?_⟩
 obtain ⟨g,o,ha,h1,h2⟩:=hc j hj;exact ⟨g,o,ha,(hb.cell (p:=⟨g,o+j*2,none⟩) (World.block_lt_of_cell? w _ h1)).trans h1,(hb.cell (p:=⟨g,o+j*2+1,none⟩) (World.block_lt_of_cell? w _ h2)).trans h2⟩
theorem di.form{w:World}{v:Value}{l:List Lk}(h:di w v l):∃ a c,v = .slice a l.length c:=by
 obtain ⟨a,c,rfl,_⟩:=h;exact ⟨a,c,rfl⟩
theorem di.rB{w:World}{base n:Nat}{v:Value}{l:List Lk}(h:w.ownsRow base 179 2 v n (bh l)):di w v l:=by
 have hl:=h.1;rw [aT] at hl;have hl:l.length=n:=by omega
 rcases h.2 with ⟨rfl,hn⟩ | ⟨g,cap,cur,rfl,hb,hg,BQ,sB,fI,mf⟩
 ·have h0:l.length=0:=by omega
  exact ⟨none,0,by rw [h0],by omega,fun _=>rfl,fun j hj=>by omega⟩
 ·refine ⟨some ⟨g,0,none⟩,cap,by rw [hl],by omega,fun h=>(by cases h),fun j hj=>⟨g,0,rfl,?_,?_⟩⟩
  ·rw [Nat.zero_add,h.cellAt (j*2) (by omega)];exact (gJ l j hj).1
  ·rw [Nat.zero_add,h.cellAt (j*2+1) (by omega)];exact (gJ l j hj).2
theorem di.take{w:World}{a:Option Addr}{n m cap:Nat}{l:List Lk}(h:di w (.slice a n cap) l)(hm:m≤n):di w (.slice a m cap) (l.take m):=by
 obtain ⟨a',eY,he,hle,hn,hc⟩:=h;cases he;refine ⟨a,cap,by rw [ag,a6 hm],by rw [ag];omega,hn,fun j hj=>?_⟩
 rw [ag] at hj;obtain ⟨g,o,ha,h1,h2⟩:=hc j (by omega)
 exact ⟨g,o,ha,by rw [bF];exact h1,by rw [bF];exact h2⟩
theorem di.nil(w:World):di w (.slice none 0 0) []:=⟨none,0,rfl,aj _,fun _=>rfl,fun j h=>by simp at h⟩
def b7(w:World)(base:Nat)(v:Value)(l:List Lk):Prop:=w.ownsRow base 179 2 v l.length (bh l)
theorem b7.at{w:World}{base:Nat}{v:Value}{l:List Lk}(h:b7 w base v l):di w v l:=di.rB h
theorem b7.form{w:World}{base:Nat}{v:Value}{l:List Lk}(h:b7 w base v l):∃ a c,v = .slice a l.length c:=h.at.form
theorem b7.below{w w':World}{base:Nat}{v:Value}{l:List Lk}(h:b7 w base v l)(hb:Below w.heap.size w w'):b7 w' base v l:=by
 refine ⟨h.1,?_⟩;rcases h.2 with h' | ⟨g,cap,cur,h',h1,h2,hr⟩
 ·exact .inl h'
 ·refine .inr ⟨g,cap,cur,h',h1,?_,hr⟩;have hg:g<w.heap.size:=by
   rcases a8 g w.heap.size with h' | h'
   ·exact h'
   ·rw [aY h'] at h2;cases h2
  rw [hb.block g hg];exact h2
theorem b7.mono{w:World}{b b2:Nat}{v:Value}{l:List Lk}(h:b7 w b v l)(hb:b2≤b):b7 w b2 v l:=by
 refine ⟨h.1,?_⟩;rcases h.2 with h' | ⟨g,cap,cur,h',h1,hr⟩
 ·exact .inl h'
 ·exact .inr ⟨g,cap,cur,h',ar hb h1,hr⟩
theorem b7.nil(w:World)(base:Nat):b7 w base (.slice none 0 0) []:=World.ownsRow_nil _ _ _ _
theorem fo(base:Nat)(v s:Value)(xs us:List Lk)(w:World)(aF:b7 w base v xs)(hs:di w s us)(hb:(xs.length+us.length)*24≤140737488355328)(dx:base≤w.heap.size):∃ a' eY w',(Builtin.append_ #[148,148] 148 #[v,s]).run prog w = .ok (.slice a' (xs.length+us.length) eY) w'∧b7 w' base (.slice a' (xs.length+us.length) eY) (xs++us)∧w.grownBy w' v.ownBlock:=by
 obtain ⟨i0,hi,hz,b8,kP⟩:=info_parts lO;obtain ⟨a,cap,rfl,hle,qD,hc⟩:=hs;have M0:∃ a' c',v = .slice a' xs.length c':=aF.form;unfold b7 at aF ⊢;rw [ae,cZ];cases a with
 | none =>
  have h0:us=[]:=by
   cases us with
   | nil=>rfl
   | cons u r=>obtain ⟨g,o,he,_⟩:=hc 0 (by simp);cases he
  subst h0;rw [qD rfl];have hr:=run_append_owned_none (P:=prog) w base 148 148 179 i0 2 underlying148 hi v xs.length (bh xs) aF;obtain ⟨a',c',rfl⟩:=M0;exact ⟨a',c',w,hr,by simpa [bh] using aF,⟨rfl,rfl,rfl,aj _,fun _ _ _=>rfl⟩⟩
 | some ad =>
  obtain ⟨v',w',hr,gu,AT,_⟩:=run_append_own (P:=prog) w base 148 148 179 i0 _ 2 24 underlying148 hi hz b8 kP rfl (by decide) v xs.length (bh xs) aF ad us.length cap (bh us) (aT us) (fun j u hj=>by
   have lY:=(List.getElem?_eq_some_iff.1 hj).1;rw [aT] at lY;obtain ⟨g,o,he,c1,c2⟩:=hc (j / 2) (by omega)
   cases he;have hg:=gJ us (j / 2) (by omega)
   rw [bt];rcases bV j with hm | hm
   ·have e:j / 2*2=j:=by omega
    rw [e] at hg c1;rw [hg.1] at hj;cases hj;exact c1
   ·have e:j / 2*2+1=j:=by omega
    rw [dt,e] at c2;rw [e] at hg;rw [hg.2] at hj;cases hj;exact c2) (gh us) (by unfold maxLen;omega) hb dx
  have hf:∃ a' c',v' = .slice a' (xs.length+us.length) c':=by
   rcases gu.2 with ⟨rfl,h0⟩ | ⟨g,cap,cur,rfl,_⟩
   ·exact ⟨none,0,by rw [h0]⟩
   ·exact ⟨_,_,rfl⟩
  obtain ⟨a',c',rfl⟩:=hf;exact ⟨a',c',w',hr,gu,AT⟩
theorem b7.dF{w:World}{base:Nat}{v:Value}{l:List Lk}(h:b7 w base v l):∀ k,v.ownBlock=some k→base≤k∧k<w.heap.size:=World.ownsRow.lt h
theorem vM(w:World)(p:Lk)(t:TypeId):di (w.alloc (.cells #[.string p.1,.int .i64 p.2] t)) (.slice (some ⟨w.heap.size,0,none⟩) 1 1) [p]:=by
 have hb:=bM w #[.string p.1,.int .i64 p.2] t;refine ⟨_,_,rfl,aj _,fun h=>(by cases h),fun j hj=>⟨_,_,rfl,?_,?_⟩⟩
 ·have:j=0:=by simpa using hj
  subst this;exact hb.2 0 (by simp)
 ·have:j=0:=by simpa using hj
  subst this;exact hb.2 1 (by simp)
theorem YK(w:World)(a:Option Addr)(n cap m:Nat)(hm:m≤cap):(Instr.sliceAt 148 (.slice a n cap) none (some (.int .i64 (m:Int))) none).run prog w = .ok (.slice a m cap) w:=by
 rw [run_sliceAt_slice (h:=underlying148),run_slice_h (ht:=underlying148) (h0:=by omega) (h2:=by omega)]
 have hz:(sizeOf (prog.elem 148)).run prog w = .ok 2 w:=by kernel_rfl
 rw [hz];simp [Result.andThen,sliced,Addr.add]
theorem di.drop{w:World}{a:Option Addr}{n m cap:Nat}{l:List Lk}(h:di w (.slice a n cap) l)(hm:m≤n):∃ a',di w (.slice a' (n - m) (cap - m)) (l.drop m)∧∀ w',(Instr.sliceAt 148 (.slice a n cap) (some (.int .i64 (m:Int))) none none).run prog w' = .ok (.slice a' (n - m) (cap - m)) w':=by
 obtain ⟨a',eY,he,hle,hn,hc⟩:=h;cases he;refine ⟨if cap=m then a else a.map (·.add (m*2)),⟨_,_,by rw [ao],by rw [ao];omega,fun ha=>?_,fun j hj=>?_⟩,fun w'=>?_⟩
 ·split at ha
  ·omega
  ·cases a with
   | none=>have:=hn rfl;omega
   | some x=>cases ha
 ·rw [ao] at hj;obtain ⟨g,o,ha,h1,h2⟩:=hc (m+j) (by omega)
  subst ha;refine ⟨g,o+m*2,?_,?_,?_⟩
  ·rw [if_neg (by omega)];simp [bt]
  ·rw [cV,show o+m*2+j*2=o+(m+j)*2 by omega];exact h1
  ·rw [cV,show o+m*2+j*2+1=o+(m+j)*2+1 by omega];exact h2
 ·rw [run_sliceAt_slice (h:=underlying148),run_slice_l (ht:=underlying148) (h0:=by omega) (h1:=by omega)]
  have hz:(sizeOf (prog.elem 148)).run prog w' = .ok 2 w':=by kernel_rfl
  rw [hz];simp [Result.andThen,sliced]
end B
end Go.Proofs.YtihmgigfkmofnaaGreatDoor
