import Derived.Test.YtihmgigfkmofnaaGreatDoorG00
import Derived.Maps.OwnSet
import Derived.Maps.RangeWalk
import Derived.Maps.Ext
import Derived.Lib.BufferWrite
import Derived.ChangeKeysEq
import Derived.Deep.MidRow
import Derived.Deep.WholeRow
import Derived.Laws.CopyOwn
import Derived.Deep.RegionHeld3
import Derived.Deep.QuietTactic
set_option maxHeartbeats 400000
set_option maxRecDepth 100000
open Go.Proofs.Tryz
namespace Go.Proofs.YtihmgigfkmofnaaGreatDoor
namespace S.V
open Go.RowKit
theorem Tryz.info5:(prog.info? 5).map (fun i=>(i.zero,i.size,i.bytes))=some (some (.int .u8 0),1,1):=by kernel_rfl
structure gH where
 ix:Int
 kG:ByteArray
structure Mu where
 ix:Int
 kind:Int
 cut:Int
 junk:ByteArray
structure E7 where
 after:Int
 fates:List Mu
structure bq where
 size:Int
 eD:List gH
 aV:List gH
 eO:List E7
 dead:Bool
 nr:Int
 nw:Int
 ns:Int
def bl(t:ByteArray):List UInt8:=t.data.toList
def Gm(l:List UInt8):ByteArray:=⟨l.toArray⟩
theorem tn(l:List UInt8):bl (Gm l)=l:=by simp [bl,Gm]
theorem Gl(t:ByteArray):Gm (bl t)=t:=by simp [bl,Gm]
theorem jI(t:ByteArray):(bl t).length=t.size:=by simp [bl]
theorem om(l:List UInt8):(Gm l).size=l.length:=by rw [← jI,tn]
theorem BN{s t:ByteArray}(h:bl s=bl t):s=t:=by rw [← Gl s,h,Gl]
def fA(n:Nat):List UInt8:=List.replicate n 0
theorem jz(n:Nat):(fA n).length=n:=by simp [fA]
def pW:ByteArray:=Gm (fA 512)
theorem sA:pW.size=512:=by rw [pW,om,jz]
def uV(t:ByteArray):Bool:=decide (bl t=fA t.size)
def pad(t:ByteArray):ByteArray:=Gm (bl t++fA (512 - t.size))
theorem Da(t:ByteArray)(h:t.size≤512):(pad t).size=512:=by rw [pad,om,ae,jI,jz];omega
theorem N0(t:ByteArray)(h:t.size=512):pad t=t:=by
 unfold pad;rw [h];simp [fA,Gl]
def jx(i:Int)(l:List gH):List gH:=l.filter fun x=>decide (x.ix≠i)
def qn(x:gH):List gH→List gH
 | []=>[x]
 | y::r=>if x.ix<y.ix then x::y::r else y::qn x r
def qW(l:List gH)(i:Int)(t:ByteArray):List gH:=if uV t then jx i l else qn ⟨i,t⟩ (jx i l)
def fx(l:List gH)(i:Int):ByteArray:=match l.find? (fun x=>decide (x.ix=i)) with | some x=>x.kG | none=>pW
def ep:List gH→Int→Option Nat
 | [],_=>none
 | x::r,i=>match ep r i with | some k=>some (k+1) | none=>if x.ix=i then some 0 else none
def gd(d:bq)(i:Int):ByteArray:=match ep d.aV i with | some k=>((d.aV[k]?).map gH.kG).getD pW | none=>fx d.eD i
def oG(n lo hi:Int):Int:=if n<lo then lo else if n > hi then hi else n
def aal(c:Int):Nat:=(oG c 0 512).toNat
def X6(d:ByteArray)(f:Mu):ByteArray:=Gm (((bl d).take (aal f.cut)++bl f.junk++fA 512).take 512)
def Yn(aV eD:List gH)(f:Mu):List gH:=match aV[f.ix.toNat]? with
 | some x=>if f.kind=2 then qW eD x.ix x.kG else if f.kind=3 then qW eD x.ix (X6 x.kG f) else eD
 | none=>eD
def A4(aV:List gH):List Int→List gH→List Mu→List gH
 | _,eD,[]=>eD
 | seen,eD,f::r=>if f.ix<0∨(aV.length:Int)≤f.ix∨f.ix ∈ seen then A4 aV seen eD r else A4 aV (f.ix::seen) (Yn aV eD f) r
def bq.kill(d:bq)(l:List Mu):bq:={ d with eD:=A4 d.aV [] d.eD l,aV:=[],dead:=true }
def bq.done(d:bq):bq × Nat:=match d.eO with
 | []=>(d,0)
 | a::r=>if 0<a.after then ({ d with eO:={ a with after:=a.after - 1 }::r },0) else ({ d with eO:=r }.kill a.fates,8)
def chunk(s:Int)(p:List UInt8)(i:Nat):gH:=⟨s+i,Gm ((p.drop (i*512)).take 512)⟩
def chunks(s:Int)(p:List UInt8)(n:Nat):List gH:=(List.range n).map (chunk s p)
theorem uw(s:Int)(p:List UInt8)(n:Nat):chunks s p (n+1)=chunks s p n++[chunk s p n]:=by simp [chunks,List.range_succ]
theorem xW(s:Int)(p:List UInt8)(n:Nat):(chunks s p n).length=n:=by simp [chunks]
def bq.fits(d:bq)(s n:Int):Bool:=decide (0≤s∧0≤n∧s≤d.size - n)
def bq.write(d:bq)(s:Int)(p:List UInt8):bq × Nat :=
 if d.dead then (d,8)
 else if p.length=0∨p.length % 512≠0∨d.fits s (p.length / 512:Nat)=false then (d,1)
 else bq.done { d with aV:=d.aV++chunks s p (p.length / 512),nw:=wrap64 (d.nw+(p.length / 512:Nat)) }
def gJ(eD aV:List gH):List gH:=aV.foldl (fun l x=>qW l x.ix x.kG) eD
def bq.sync(d:bq):bq × Nat :=
 if d.dead then (d,8)
 else bq.done { d with eD:=gJ d.eD d.aV,aV:=[],ns:=wrap64 (d.ns+1) }
def iM(d:bq)(s:Int)(n:Nat):List UInt8:=(List.range n).flatMap fun i:Nat=>bl (gd d (s+(i:Int)))
theorem wE(d:bq)(s:Int)(n:Nat):iM d s (n+1)=iM d s n++bl (gd d (s+n)):=by simp [iM,List.range_succ,List.flatMap_append]
def bq.read(d:bq)(s n:Int):bq × List UInt8 × Nat :=
 if d.dead then (d,[],8)
 else if d.fits s n=false then (d,[],1)
 else if 1024<n then (d,[],3)
 else ({ d with nr:=wrap64 (d.nr+n) },iM d s n.toNat,0)
def iE(n:Int):bq:=⟨oG n 0 8388615,[],[],[],false,0,0,0⟩
structure rU(size:Int)(x:gH):Prop where
 lo:0≤x.ix
 hi:x.ix<size
 len:x.kG.size=512
structure bq.Ok(d:bq):Prop where
 s0:0≤d.size
 s1:d.size≤8388615
 eD:∀ x ∈ d.eD,rU d.size x∧uV x.kG=false
 rise:d.eD.Pairwise fun x y=>x.ix<y.ix
 aV:∀ x ∈ d.aV,rU d.size x
 eO:∀ a ∈ d.eO,0≤a.after∧a.after<9223372036854775808
theorem ph{i:Int}{l:List gH}{x:gH}(h:x ∈ jx i l):x ∈ l∧x.ix≠i:=by simpa [jx] using h
theorem xz{x y:gH}:∀ {l:List gH},y ∈ qn x l→y=x∨y ∈ l
 | [],h=>by simp [qn] at h;exact .inl h
 | z::r,h=>by
  unfold qn at h;split at h
  ·simpa using h
  ·rcases List.mem_cons.1 h with e | h'
   ·exact .inr (by simp [e])
   ·rcases xz h' with e | e
    ·exact .inl e
    ·exact .inr (by simp [e])
theorem Aj{x:gH}:∀ {l:List gH},l.Pairwise (fun x y=>x.ix<y.ix)→(∀ y ∈ l,y.ix≠x.ix)→(qn x l).Pairwise fun x y=>x.ix<y.ix
 | [],_,_=>by simp [qn]
 | z::r,h,hn=>by
  obtain ⟨h1,h2⟩:=List.pairwise_cons.1 h;unfold qn;split
  ·rename_i bN
   exact List.pairwise_cons.2 ⟨fun y hy=>by
    rcases List.mem_cons.1 hy with e | hy
    ·rw [e];exact bN
    ·exact Int.lt_trans bN (h1 y hy),h⟩
  ·rename_i Bw
   have hz:=hn z (by simp)
   refine List.pairwise_cons.2 ⟨fun y hy=>?_,Aj h2 fun y hy=>hn y (by simp [hy])⟩
   rcases xz hy with e | e
   ·rw [e];omega
   ·exact h1 y e
theorem RY{size:Int}{l:List gH}{i:Int}{t:ByteArray}(h:∀ x ∈ l,rU size x∧uV x.kG=false)(hr:l.Pairwise fun x y=>x.ix<y.ix)(hi:rU size ⟨i,t⟩):(∀ x ∈ qW l i t,rU size x∧uV x.kG=false)∧(qW l i t).Pairwise fun x y=>x.ix<y.ix:=by
 have hd:(jx i l).Pairwise fun x y=>x.ix<y.ix:=hr.sublist List.filter_sublist
 unfold qW;cases hz:uV t
 ·refine ⟨fun x hx=>?_,Aj hd fun y hy=>(ph hy).2⟩
  rcases xz hx with e | e
  ·rw [e];exact ⟨hi,hz⟩
  ·exact h x (ph e).1
 ·exact ⟨fun x hx=>h x (ph hx).1,hd⟩
theorem Qd{size s:Int}{p:List UInt8}{n:Nat}(h0:0≤s)(h1:s≤size - n)(hp:p.length=n*512){i:Nat}(hi:i<n):rU size (chunk s p i):=by
 refine ⟨by simp only [chunk];omega,by simp only [chunk];omega,?_⟩
 rw [chunk,om,ag,ao,hp];omega
theorem Kx(n:Int):(iE n).Ok:=by
 refine ⟨?_,?_,by simp [iE],by simp [iE],by simp [iE],by simp [iE]⟩
 ·simp only [iE,oG];split <;> (try split) <;> omega
 ·simp only [iE,oG];split <;> (try split) <;> omega
theorem rC{size:Int}{l:List gH}(h:∀ x ∈ l,rU size x∧uV x.kG=false)(i:Int):(fx l i).size=512:=by
 unfold fx;cases hf:l.find? (fun x=>decide (x.ix=i)) with
 | none=>exact sA
 | some x=>exact (h x (List.mem_of_find?_eq_some hf)).1.len
theorem kK:∀ {l:List gH} {i:Int} {k:Nat},ep l i=some k→k<l.length
 | [],_,_,h=>by simp [ep] at h
 | x::r,i,k,h=>by
  unfold ep at h;cases hr:ep r i with
  | some j =>
   rw [hr] at h;simp only [Option.some.injEq] at h;have:=kK hr;simp
   omega
  | none =>
   rw [hr] at h;simp only [] at h;split at h
   ·simp only [Option.some.injEq] at h;simp;omega
   ·cases h
theorem yK{d:bq}(h:d.Ok)(i:Int):(gd d i).size=512:=by
 unfold gd;cases hk:ep d.aV i with
 | none=>exact rC h.eD i
 | some k =>
  have bN:=kK hk;simp only [af bN,j7,lP];exact (h.aV _ (aG bN)).len
theorem oT{d:bq}(h:d.Ok)(s:Int):∀ n,(iM d s n).length=n*512
 | 0=>by simp [iM]
 | n+1=>by rw [wE,ae,oT h s n,jI,yK h];omega
theorem lA(l:List gH)(x:gH)(i:Int):ep (l++[x]) i=if x.ix=i then some l.length else ep l i:=by
 induction l with
 | nil=>simp [ep]
 | cons y r ih =>
  simp only [List.cons_append,ep,ih];by_cases h:x.ix=i
  ·simp [h]
  ·simp [h]
open Go.Maps
def arr(t:ByteArray):Value:=.agg (dS (bl t)).toArray
theorem Ik:∀ {a b:List UInt8},dS a=dS b→a=b
 | [],[],_=>rfl
 | [],_::_,h=>by simp [dS] at h
 | _::_,[],h=>by simp [dS] at h
 | x::a,y::b,h=>by
  simp only [dS,List.map_cons,List.cons.injEq,Value.int.injEq,true_and] at h;have e:x=y:=UInt8.toNat_inj.1 (by omega)
  rw [e,Ik h.2]
theorem TG{s t:ByteArray}(h:arr s=arr t):s=t:=by
 simp only [arr,Value.agg.injEq] at h;exact BN (Ik (by simpa using congrArg Array.toList h))
open Classical in
noncomputable def sJ (v:Value):Option (DataW Unit × List MemPlace):=if h:∃ t:ByteArray,t.size=512∧v=arr t then some (.lit (.string (bl h.choose)),[]) else none
theorem wg{t:ByteArray}(h:t.size=512):sJ (arr t)=some (.lit (.string (bl t)),[]):=by
 have hx:∃ s:ByteArray,s.size=512∧arr t=arr s:=⟨t,h,rfl⟩;unfold sJ;rw [dif_pos hx,TG hx.choose_spec.2.symm]
theorem NG{v:Value}{y:DataW Unit × List MemPlace}(h:sJ v=some y):∃ t:ByteArray,t.size=512∧v=arr t∧y=(.lit (.string (bl t)),[]):=by
 unfold sJ at h;split at h
 ·rename_i hx
  exact ⟨hx.choose,hx.choose_spec.1,hx.choose_spec.2,(Option.some.inj h).symm⟩
 ·cases h
theorem DP:Keyed prog 3:=int_keyed underlying3
theorem kwf{i:Int}(h0:0≤i)(h1:i<9223372036854775808):(Lit.int .i64 i).wf=true:=WalkArith.wf_i64 (by omega)
theorem Sx{i:Int}(h0:0≤i)(h1:i<9223372036854775808):keyOf prog 3 (.int .i64 i)=some (.int .i64 i):=keyOf_int_mk underlying3 (kwf h0 h1)
def mn(l:List gH):DataW Unit:=.map (l.map fun x=>(.int .i64 x.ix,.lit (.string (bl x.kG))))
theorem uv(i:Int)(l:List gH):(l.map fun x=>((.int .i64 x.ix,.lit (.string (bl x.kG))):Lit × DataW Unit)).filter (fun p=>!p.1.sameKey (.int .i64 i))=(jx i l).map fun x=>(.int .i64 x.ix,.lit (.string (bl x.kG))):=by
 induction l with
 | nil=>rfl
 | cons x r ih =>
  have e:(Lit.int .i64 x.ix).sameKey (.int .i64 i)=decide (x.ix=i):=by simp [Lit.sameKey]
  have e2:jx i (x::r)=if x.ix=i then jx i r else x::jx i r:=by
   by_cases h:x.ix=i
   ·simp [jx,h]
   ·simp [jx,h]
  rw [List.map_cons,List.filter_cons,ih,e2,e];by_cases h:x.ix=i
  ·simp [h]
  ·simp [h]
theorem PZ(i:Int)(t:ByteArray)(l:List gH):DataW.insert ((.int .i64 i,.lit (.string (bl t))):Lit × DataW Unit) (l.map fun x=>(.int .i64 x.ix,.lit (.string (bl x.kG))))=(qn ⟨i,t⟩ l).map fun x=>(.int .i64 x.ix,.lit (.string (bl x.kG))):=by
 induction l with
 | nil=>rfl
 | cons x r ih =>
  simp only [List.map_cons,DataW.insert,qn,Lit.before];by_cases h:i<x.ix
  ·simp [h]
  ·simp [h,ih]
theorem PY(i:Int)(t:ByteArray)(l:List gH):(mn l).put (.int .i64 i) (.lit (.string (bl t)))=mn (qn ⟨i,t⟩ (jx i l)):=by
 show DataW.map (DataW.insert _ (List.filter _ _))=_
 rw [uv,PZ];rfl
theorem P1(i:Int)(l:List gH):(mn l).del (.int .i64 i)=mn (jx i l):=by
 show DataW.map (List.filter _ _)=_
 rw [uv];rfl
theorem P0(i:Int)(l:List gH):Maps.has (mn l) (.int .i64 i)=l.any fun x=>decide (x.ix=i):=by
 show List.any _ _=_
 rw [List.any_map];congr 1
 funext x
 simp [Lit.sameKey]
theorem Tk(i:Int)(l:List gH)(z:DataW Unit):(mn l).atKey (.int .i64 i) z=match l.find? (fun x=>decide (x.ix=i)) with | some x=>.lit (.string (bl x.kG)) | none=>z:=by
 have e:((fun p:Lit × DataW Unit=>p.1.sameKey (.int .i64 i)) ∘ fun x:gH=>((.int .i64 x.ix,.lit (.string (bl x.kG))):Lit × DataW Unit))=fun x:gH=>decide (x.ix=i):=by
  funext x;simp [Lit.sameKey]
 unfold mn DataW.atKey;simp only [List.find?_map,e];cases l.find? fun x=>decide (x.ix=i) <;> rfl
theorem xR(w:World)(d:Nat)(xs ys:Array Value)(f g:Nat→Nat):∀ is:List Nat,(∀ i ∈ is,xs[i]?=some (.int .u8 (f i:Int))∧ys[i]?=some (.int .u8 (g i:Int))) →
  (Op.eqItems (d+1) 5 1 xs ys is).run prog w = .ok (is.all fun i=>f i == g i) w
 | [],_=>by simp [Op.eqItems]
 | i::is,h=>by
  obtain ⟨h1,h2⟩:=h i (by simp)
  have ih:=xR w d xs ys f g is fun j hj=>h j (by simp [hj])
  have p1:=run_part_plain (P:=prog) w (e:=5) (by kernel_rfl) h1
  have p2:=run_part_plain (P:=prog) w (e:=5) (by kernel_rfl) h2
  have p3:=run_equalIn_int (P:=prog) w d 5 .u8 .u8 (f i) (g i) underlying5;simp only [Op.eqItems,Sem.run_bind,Nat.mul_one,p1,p2,p3,Result.andThen_ok];by_cases e:f i=g i
  ·simp [e,ih]
  ·have:((f i:Int) == (g i:Int))=false:=by simp;omega
   simp [this,e]
theorem TH(x y:List UInt8)(n:Nat)(hx:x.length=n)(hy:y.length=n):(∀ i,i<n→(x.getD i 0).toNat=(y.getD i 0).toNat)↔x=y:=by
 constructor
 ·intro e;refine lR (by omega) fun i h1 h2=>?_
  have:=e i (by omega)
  simp only [aJ,af h1,af h2,lP] at this;exact UInt8.toNat_inj.1 this
 ·intro e i _;rw [e]
theorem He:prog.cellsOf 5=1:=by kernel_rfl
theorem FG:prog.underlying 144=some (.array 512 5):=by kernel_rfl
theorem adq:(prog.info? 5).isSome=true:=by kernel_rfl
theorem Wz(w:World)(x y:List UInt8)(hx:x.length=512)(hy:y.length=512):(binOp .eql 144 (.agg (dS x).toArray) (.agg (dS y).toArray)).run prog w = .ok (.bool (decide (x=y))) w:=by
 obtain ⟨i5,h5⟩:=Option.isSome_iff_exists.1 adq;have h:=run_equalIn_array (P:=prog) w 9999 (dS x).toArray (dS y).toArray FG h5;rw [He,xR w 9998 _ _ (fun i=>(x.getD i 0).toNat) (fun i=>(y.getD i 0).toNat) (List.range 512) (fun i hi=>by
  have hi:=List.mem_range.1 hi;constructor
  ·simp [dS,show i<x.length by omega]
  ·simp [dS,show i<y.length by omega])] at h
 rw [run_eql_struct,h,Result.andThen_ok];generalize hn:512=n at *;have e0:((List.range n).all fun i=>(x.getD i 0).toNat == (y.getD i 0).toNat)=decide (x=y):=by
  rw [ke];simp only [lS,List.mem_range,beq_iff_eq,decide_eq_true_eq];exact TH x y n hx hy
 rw [e0]
theorem zc:zeroCells144=(dS (fA 512)).toArray:=by kernel_rfl
theorem AZ:(prog.info? 144).map (·.size)=some 512:=by kernel_rfl
theorem tO:(prog.info? 5).map (·.size)=some 1:=by kernel_rfl
theorem zi(l:List UInt8):Lib.byteCells l=dS l:=rfl
theorem X2(k n:Nat):(dS (fA n)).drop k=dS (fA (n - k)):=by
 rw [dS,dS,fA,fA,oJ,oJ,nA]
theorem X0(t:ByteArray):(zeroCells144.toList.take 0++Lib.byteCells t.data.toList++zeroCells144.toList.drop (0+t.size)).toArray=(dS (bl (pad t))).toArray:=by
 rw [zc,List.take_zero,List.nil_append,Nat.zero_add,X2,pad,tn,jA];rfl
theorem X3(t:ByteArray)(w:World)(ht:t.size≤512):∃ w2,(Builtin.copy_ #[145,9] 3 #[.slice (some ⟨w.heap.size,0,none⟩) 512 512,.string t]).run prog (w.alloc (.cells zeroCells144 144)) = .ok (goInt t.size) w2∧w2.heap[w.heap.size]?=some (.cells (dS (bl (pad t))).toArray 144 (0,0))∧Below w.heap.size w w2:=by
 have me:=heap_alloc_new w (.cells zeroCells144 144);have b7:zeroCells144.size=512:=by rw [zc,List.size_toArray,aY,jz]
 have bn:=Lib.run_copy_row_string (P:=prog) (w.alloc (.cells zeroCells144 144)) 145 9 3 5 w.heap.size 0 512 512 t _ 144 underlying145 tO me ht (by rw [b7];omega)
 rw [X0] at bn;exact ⟨_,bn,setRow_heap _ w.heap.size _ _ 144 _ me,below_setRow (ai w _) (aj _) _⟩
theorem XZ(w2:World)(g:Nat)(t:ByteArray)(ht:t.size=512)(h:w2.heap[g]?=some (.cells (dS (bl t)).toArray 144 (0,0))):(Instr.loadAt 144 (.pointer (some ⟨g,0,none⟩))).run prog w2 = .ok (arr t) w2:=by
 simp only [Instr.loadAt,Instr.sureAddr,Sem.run_bind,Sem.run_pure,Result.andThen_ok];exact run_loadVar_row (P:=prog) w2 g 144 144 _ _ _ h FG rfl (by rw [AZ,List.size_toArray,aY,jI,ht])
theorem Vi(w:World)(x y:Operand)(t:ByteArray):(eqGuard .eql 144 x y (arr t) (.agg zeroCells144)).run prog w = .ok () w:=run_eqGuard_agg w .eql 144 x y _ _ (by kernel_rfl)
theorem zeq(w:World)(t:ByteArray)(ht:t.size=512):(binOp .eql 144 (arr t) (.agg zeroCells144)).run prog w = .ok (.bool (uV t)) w:=by
 rw [zc,arr,Wz w _ _ (by rw [jI];exact ht) (jz 512),uV,ht]
theorem nP{P:Program}{ops:Array Oper}{rest:List Oper}{op:Oper}{a:Act}{w:World}{Q:Exit→Act→World→Prop}(nx:op.guard=none)(ty:TypeId)(x:Operand)(ho:op.op = .load ty x)(p v:Value)(hx:a.eval x=p)(bn:(Instr.loadAt ty p).run P w = .ok v w)(h:wpList P ops Q rest (a.put op.dst v) w):wpList P ops Q (op::rest) a w :=
 wpList_plain nx fun _ hK=>by
  unfold Oper.wp execOp;simp only [ho,hx,Sem.run_bind,bn,Result.andThen_ok,Sem.run_pure];exact hK _ _ h
theorem KD(b mb n:Nat)(i:Int)(t:ByteArray)(l:List gH)(w:World)(c1:w.cell? ⟨b,1,none⟩=some (.map (some mb)))(aE:w.ownsMap prog 3 sJ mb n (mn l))(ht:t.size≤512)(h0:0≤i)(h1:i<9223372036854775808)(hn:n<maxLen):Calls prog 42 #[.pointer (some ⟨b,0,none⟩),.int .i64 i,.string t] w fun e w'=>e = .returned (.tuple #[])∧w'.ownsMap prog 3 sJ mb (n+1) (mn (qW l i (pad t)))∧w.grownBy w' (some mb):=by
 obtain ⟨w2,yz,aU,jX⟩:=X3 t w ht;have j6:=Da t ht;have hld:=XZ w2 w.heap.size (pad t) j6 aU;have heq:=fun w=>zeq w (pad t) j6
 have nx:=fun w x y=>Vi w x y (pad t)
 have yZ:w.grownBy w2 (some mb):=⟨jX.os,jX.tape,jX.output,jX.size,fun k hk _=>jX.block k hk⟩
 have lD:=aE.kept (row:=none) ⟨jX.os,jX.tape,jX.output,jX.size,fun k hk _=>jX.block k hk⟩ (by simp)
 have c2:w2.cell? ⟨b,1,none⟩=some (.map (some mb)):=(jX.cell (p:=⟨b,1,none⟩) (World.block_lt_of_cell? w _ c1)).trans c1;have HS:Hid (qW l i (pad t)=if uV (pad t) then jx i l else qn ⟨i,pad t⟩ (jx i l)):=(rfl:qW l i (pad t)=_)
 have hR:=wg j6;obtain ⟨w3,Us,O7,qo⟩:=lD.drew.store DP underlying138 hn (Sx h0 h1) hR;have Uv:w2.rangeAt w.heap.size 0 (dS (bl (pad t))):=fun j u hu=>by
  rw [cell_of_row _ _ _ _ _ _ aU,Nat.zero_add];simpa using hu
 have hlen:(prog.info? 144).map (·.size)=some (dS (bl (pad t))).length:=by rw [AZ,aY,jI,j6]
 have UH:w2.grownBy w3 (some mb):=⟨qo.grown.os,qo.grown.tape,qo.grown.output,qo.grown.size,qo.grown.block⟩;have Ca:b≠mb:=fun e=>by
  obtain ⟨es,ck,hb,_⟩:=lD;rw [e,World.cell?,hb] at c2;cases c2
 have c3:w3.cell? ⟨b,1,none⟩=some (.map (some mb)):=(World.cell?_of_block (a:=⟨b,1,none⟩) (qo.grown.block b (World.block_lt_of_cell? _ _ c2) (by simpa using Ca))).trans c2
 have yV:w.heap.size≠mb:=fun e=>by have:=aE.lt;omega
 have YU:w3.rangeAt w.heap.size 0 (dS (bl (pad t))):=fun j u hu=>(World.cell?_of_block (a:=⟨w.heap.size,0+j,none⟩) (qo.grown.block w.heap.size (World.block_lt_of_cell? _ _ (Uv j u hu)) (by simpa using yV))).trans (Uv j u hu)
 unfold arr at hld heq nx hR Us;obtain ⟨cs,fH⟩ : ∃ cs,cs=dS (bl (pad t)):=⟨_,rfl⟩;obtain ⟨p,hp⟩ : ∃ p,p=pad t:=⟨_,rfl⟩;rw [← fH] at hld hR Us Uv hlen YU;simp only [← fH] at heq nx;rw [← hp] at HS hR O7 ⊢;simp only [← hp] at heq;rw [PY] at O7;have Yz:=FG;clear aE c1 j6 hp fH aU;go_enter func42,ntmps42;cases hz:uV p
 ·rw [hz] at heq;go_wp2_with (first | (refine nP rfl 144 _ rfl _ _ rfl hld ?_))
  go_region_held3 (fun w'=>w'.cell? ⟨b,1,none⟩=some (.map (some mb))∧w'.rangeAt w.heap.size 0 cs) (first | exact ⟨c2,Uv⟩ | exact ⟨c3,YU⟩ | go_keep) (fail)
  go_end0
  refine ⟨rfl,?_,yZ.andThen UH (fun j hj=>.inr (by simpa using hj))⟩
  rw [HS.out,hz];exact O7
 ·rw [hz] at heq;go_wp2_with (first | (refine nP rfl 144 _ rfl _ _ rfl hld ?_) | (at_delete;refine wpList_delete_own _ rfl _ _ 138 3 rfl 144 DP underlying138 _ mb n _ rfl lD _ _ rfl (Sx h0 h1) ?_;intro w4 D0 VN))
  go_frame
  try simp only [Exit.inBlock,Exit.then]
  refine bodyPost_ret (results_none rfl _ _ _) rfl ?_
  rw [P1] at D0;refine ⟨rfl,?_,yZ.andThen VN.grown (fun j hj=>.inr (by simpa using hj))⟩
  rw [HS.out,hz];exact D0.mono (Nat.le_succ _)
end S.V
end Go.Proofs.YtihmgigfkmofnaaGreatDoor
namespace Go.Proofs.YtihmgigfkmofnaaGreatDoor
namespace S.V
open Go.RowKit
def ig(A:Nat→Addr)(n:Nat):Value:=if n=0 then .nilIface else .iface 360 (.pointer (some (A (n - 1))))
open Go.Maps
def fC(l:List gH):List Value:=l.flatMap fun x=>[.int .i64 x.ix,.string x.kG]
def Lx(l:List Mu):List Value:=l.flatMap fun f=>[.int .i64 f.ix,.int .i64 f.kind,.int .i64 f.cut,.string f.junk]
theorem yL(x:gH)(l:List gH):fC (x::l) = .int .i64 x.ix::.string x.kG::fC l:=rfl
theorem A6(l m:List gH):fC (l++m)=fC l++fC m:=by simp [fC]
theorem mO:∀ (l:List gH) (i:Nat) (h:i<l.length),(fC l)[i*2]?=some (.int .i64 l[i].ix)∧(fC l)[i*2+1]?=some (.string l[i].kG)
 | [],_,h=>absurd h (by simp)
 | x::r,0,_=>⟨rfl,rfl⟩
 | x::r,i+1,h=>by
  have ih:=mO r i (by simpa using h)
  rw [yL,show (i+1)*2=i*2+1+1 by omega]
  simpa using ih
structure Step(F F':Nat→Prop)(w w':World):Prop where
 os:w'.os=w.os
 tape:w'.tape=w.tape
 output:w'.output=w.output
 size:w.heap.size≤w'.heap.size
 block:∀ k,k<w.heap.size→¬ F k→w'.heap[k]?=w.heap[k]?
 sub:∀ k,F' k→F k∨w.heap.size≤k
theorem Step.refl(F:Nat→Prop)(w:World):Step F F w w:=⟨rfl,rfl,rfl,aj _,fun _ _ _=>rfl,fun _ h=>.inl h⟩
theorem Step.trans{F G H:Nat→Prop}{a b c:World}(h:Step F G a b)(k:Step G H b c):Step F H a c :=
 ⟨k.os.trans h.os,k.tape.trans h.tape,k.output.trans h.output,ar h.size k.size,fun i hi hn=>(k.block i (aq hi h.size) (fun hg=>(h.sub i hg).elim hn (by omega))).trans (h.block i hi hn),
  fun i hi=>(k.sub i hi).elim (fun hg=>h.sub i hg) (fun hs=>.inr (ar h.size hs))⟩
theorem Step.bw{F:Nat→Prop}{w w':World}(h:Below w.heap.size w w'):Step F F w w':=⟨h.os,h.tape,h.output,h.size,fun k hk _=>h.block k hk,fun _ h=>.inl h⟩
theorem Step.below{F F':Nat→Prop}{w w':World}{base:Nat}(h:Step F F' w w')(hF:∀ k,F k→base≤k)(hb:base≤w.heap.size):Below base w w' :=
 ⟨h.os,h.tape,h.output,h.size,fun k hk=>h.block k (aq hk hb) (fun hf=>by have:=hF k hf;omega)⟩
theorem Step.Dj{F:Nat→Prop}{w w':World}{r:Option Nat}(h:w.grownBy w' r)(hr:∀ j,r=some j→F j∨w.heap.size≤j):Step F F w w' :=
 ⟨h.os,h.tape,h.output,h.size,fun k hk hn=>h.block k hk (fun e=>(hr k e.symm).elim hn (by omega)),fun _ h=>.inl h⟩
theorem Step.cell{F F':Nat→Prop}{w w':World}(h:Step F F' w w'){a:Addr}{v:Value}(hc:w.cell? a=some v)(hn:¬ F a.block):w'.cell? a=some v :=
 (World.cell?_of_block (a:=a) (h.block a.block (World.block_lt_of_cell? w a hc) hn)).trans hc
theorem below_drewN{B:Nat}{a w:World}(h:Below B a w)(n:Nat):Below B a (w.drewN n):=⟨h.os,h.tape,h.output,h.size,h.block⟩
theorem eJ{w:World}{base e size n:Nat}{v:Value}{xs:List Value}(h:w.ownsRow base e size v n xs)(k:Nat)(hk:v.ownBlock=some k):base≤k∧k<w.heap.size∧∃ cur,w.heap[k]?=some (.cells cur e (0,0)):=by
 rcases h.2 with ⟨h',_⟩ | ⟨g,cap,cur,h',hb,hg,_⟩
 ·rw [h'] at hk;simp [Value.ownBlock] at hk
 ·rw [h'] at hk;simp only [Value.ownBlock,Option.some.injEq] at hk;subst hk;exact ⟨hb,(Array.getElem?_eq_some_iff.1 hg).1,cur,hg⟩
theorem ff{w w':World}{b e size n:Nat}{v:Value}{xs:List Value}(ho:w.ownsRow b e size v n xs)(hb:∀ g,v.ownBlock=some g→w'.heap[g]?=w.heap[g]?):w'.ownsRow b e size v n xs:=by
 refine ⟨ho.1,?_⟩;rcases ho.2 with h' | ⟨g,cap,cur,h',h1,hg,hr⟩
 ·exact .inl h'
 ·exact .inr ⟨g,cap,cur,h',h1,(hb g (by rw [h'];rfl)).trans hg,hr⟩
theorem sL{w:World}{base e size:Nat}{v:Value}{n:Nat}{xs:List Value}{g cap:Nat}(h:w.ownsRow base e size v n xs)(hv:v = .slice (some ⟨g,0,none⟩) n cap)(i:Nat)(u:Value)(hu:xs[i]?=some u):w.cell? ⟨g,i,none⟩=some u:=by
 rcases h.2 with ⟨h',_⟩ | ⟨g',eS,cur,h',_,hg,_,_,_,ht⟩
 ·rw [h'] at hv;cases hv
 ·rw [h'] at hv;cases hv;rw [cell_of_row _ g i cur e (0,0) hg];rw [← ht,cH] at hu;split at hu
  ·simpa using hu
  ·cases hu
theorem gX{w:World}{base e size n:Nat}{v:Value}{xs:List Value}(h:w.ownsRow base e size v n xs):∃ a c,v = .slice a n c∧(0<n→∃ g,a=some ⟨g,0,none⟩):=by
 rcases h.2 with ⟨h',h0⟩ | ⟨g,cap,cur,h',_⟩
 ·exact ⟨none,0,by rw [h',h0],fun h=>by omega⟩
 ·exact ⟨_,cap,h',fun _=>⟨g,rfl⟩⟩
theorem dZ{w:World}{P:Program}{k:TypeId}{R:Value→Option (DataW Unit × List MemPlace)}{m n g:Nat}{D:DataW Unit}{cur:Array Value}{e:TypeId}{fr:Nat × Nat}(h:w.ownsMap P k R m n D)(hg:w.heap[g]?=some (.cells cur e fr)):g≠m:=fun he=>by
 obtain ⟨es,ck,hb,_⟩:=h;rw [he,hb] at hg;cases hg
theorem dG{w w':World}{P:Program}{k:TypeId}{R:Value→Option (DataW Unit × List MemPlace)}{m n:Nat}{D:DataW Unit}(h:w.ownsMap P k R m n D)(hb:w'.heap[m]?=w.heap[m]?):w'.ownsMap P k R m n D:=by
 obtain ⟨es,ck,h1,r⟩:=h;exact ⟨es,ck,hb.trans h1,r⟩
theorem yM{w:World}{P:Program}{k:TypeId}{R:Value→Option (DataW Unit × List MemPlace)}{m n:Nat}{D:DataW Unit}(h:w.ownsMap P k R m n D):w.ownsMap P k R m (Maps.size D) D:=by
 obtain ⟨es,ck,h1,F,h2,rfl⟩:=h;refine ⟨es,ck,h1,F,?_,rfl⟩;simp [Maps.size,length_sorted]
theorem LH(l:List gH):Maps.size (mn l)=l.length:=by simp [Maps.size,mn]
def qK(w:World)(F:Nat→Prop)(v:Value)(l:List E7):Prop :=
 (l=[]∧v = .slice none 0 0)∨∃ g off cap cur,∃ fv:List Value,v = .slice (some ⟨g,off,none⟩) l.length cap∧F g∧w.heap[g]?=some (.cells cur 214 (0,0))∧l.length≤cap∧cap≤maxLen∧off+cap*2≤cur.size∧fv.length=l.length ∧
  ∀ i (h:i<l.length) (h':i<fv.length),cur[off+i*2]?=some (.int .i64 l[i].after)∧cur[off+i*2+1]?=some fv[i]∧w.ownsRow 0 303 4 fv[i] l[i].fates.length (Lx l[i].fates)∧∀ k,fv[i].ownBlock=some k→F k
def TM(D:DataW Unit)(l:List gH):Prop:=∀ i:Int,Maps.has D (.int .i64 i)=(ep l i).isSome∧∀ k,ep l i=some k→D.atKey (.int .i64 i) (.lit (.int .i64 0)) = .lit (.int .i64 (k:Int))
def jj(d:bq)(mb nb:Nat)(pv av:Value):Array Value:=#[.int .i64 d.size,.map (some mb),pv,.map (some nb),av,.bool d.dead,.int .i64 d.nr,.int .i64 d.nw,.int .i64 d.ns]
structure cU(w:World)(b:Nat)(F:Nat→Prop)(d:bq)(mb nb:Nat)(pv av:Value)(Dn:DataW Unit):Prop where
 dr:w.heap[b]?=some (.cells (jj d mb nb pv av) 142 (0,0))
 fb:F b
 fm:F mb
 fn:F nb
 ne:mb≠nb
 mapD:w.ownsMap prog 3 sJ mb d.eD.length (mn d.eD)
 rq:w.ownsMap prog 3 (plainElem prog 3) nb d.aV.length Dn
 new:TM Dn d.aV
 aV:w.ownsRow 0 93 2 pv d.aV.length (fC d.aV)
 pf:∀ g,pv.ownBlock=some g→F g
 eO:qK w F av d.eO
 ok:d.Ok
 lt:∀ i,F i→i<w.heap.size
def cJ(w:World)(b:Nat)(F:Nat→Prop)(d:bq):Prop:=∃ mb nb pv av Dn,cU w b F d mb nb pv av Dn
theorem qK.block{w w':World}{F:Nat→Prop}{v:Value}{l:List E7}(h:qK w F v l)(hb:∀ k cur,w.heap[k]?=some (.cells cur 214 (0,0))∨w.heap[k]?=some (.cells cur 303 (0,0))→F k→w'.heap[k]?=w.heap[k]?):qK w' F v l:=by
 rcases h with h | ⟨g,off,cap,cur,fv,h1,h2,h3,h4,h5,h6,h7,h8⟩
 ·exact .inl h
 ·refine .inr ⟨g,off,cap,cur,fv,h1,h2,(hb g cur (.inl h3) h2).trans h3,h4,h5,h6,h7,fun i h h'=>?_⟩
  obtain ⟨k1,k2,k3,k4⟩:=h8 i h h';refine ⟨k1,k2,ff k3 fun k hk=>?_,k4⟩
  obtain ⟨_,_,c,hc⟩:=eJ k3 k hk;exact hb k c (.inr hc) (k4 k hk)
theorem qK.imp{w:World}{F G:Nat→Prop}{v:Value}{l:List E7}(h:qK w F v l)(hf:∀ k,F k→G k):qK w G v l:=by
 rcases h with h | ⟨g,off,cap,cur,fv,h1,h2,h3,h4,h5,h6,h7,h8⟩
 ·exact .inl h
 ·exact .inr ⟨g,off,cap,cur,fv,h1,hf g h2,h3,h4,h5,h6,h7,fun i h h'=>⟨(h8 i h h').1,(h8 i h h').2.1,(h8 i h h').2.2.1,fun k hk=>hf k ((h8 i h h').2.2.2 k hk)⟩⟩
theorem cJ.ok{w:World}{b:Nat}{F:Nat→Prop}{d:bq}(h:cJ w b F d):d.Ok:=by obtain ⟨_,_,_,_,_,h⟩:=h;exact h.ok
theorem cJ.lt{w:World}{b:Nat}{F:Nat→Prop}{d:bq}(h:cJ w b F d):∀ i,F i→i<w.heap.size:=by obtain ⟨_,_,_,_,_,h⟩:=h;exact h.lt
theorem cJ.fb{w:World}{b:Nat}{F:Nat→Prop}{d:bq}(h:cJ w b F d):F b:=by obtain ⟨_,_,_,_,_,h⟩:=h;exact h.fb
theorem cJ.keep{w w':World}{b:Nat}{F G G':Nat→Prop}{d:bq}(h:cJ w b F d)(hs:Step G G' w w')(hn:∀ k,F k→¬ G k):cJ w' b F d:=by
 obtain ⟨mb,nb,pv,av,Dn,h⟩:=h;have hb:∀ k,F k→w'.heap[k]?=w.heap[k]?:=fun k hk=>hs.block k (h.lt k hk) (hn k hk)
 exact ⟨mb,nb,pv,av,Dn,(hb b h.fb).trans h.dr,h.fb,h.fm,h.fn,h.ne,dG h.mapD (hb mb h.fm),dG h.rq (hb nb h.fn),h.new,ff h.aV (fun g hg=>hb g (h.pf g hg)),h.pf,
  h.eO.block (fun k _ _ hk=>hb k hk),h.ok,fun i hi=>aq (h.lt i hi) hs.size⟩
theorem cJ.below{w w':World}{b:Nat}{F:Nat→Prop}{d:bq}(h:cJ w b F d)(hs:Below w.heap.size w w'):cJ w' b F d :=
 h.keep (Step.bw (F:=fun _=>False) hs) (fun _ _ h=>h)
theorem cU.cell{w:World}{b:Nat}{F:Nat→Prop}{d:bq}{mb nb:Nat}{pv av:Value}{Dn:DataW Unit}(h:cU w b F d mb nb pv av Dn)(j:Nat):w.cell? ⟨b,j,none⟩=(jj d mb nb pv av)[j]?:=cell_of_row w b j _ _ _ h.dr
theorem cU.frozen{w:World}{b:Nat}{F:Nat→Prop}{d:bq}{mb nb:Nat}{pv av:Value}{Dn:DataW Unit}(h:cU w b F d mb nb pv av Dn)(j:Nat):w.frozen? ⟨b,j,none⟩=false:=by
 unfold World.frozen?;rw [show w.heap[(⟨b,j,none⟩ : Addr).block]?=_ from h.dr]
 simp
theorem CR:∀ (l:List gH) (lo hi:Int),lo≤hi→(∀ x ∈ l,lo≤x.ix∧x.ix<hi)→l.Pairwise (fun x y=>x.ix<y.ix)→(l.length:Int)≤hi - lo
 | [],lo,hi,h0,_,_=>by simp;omega
 | x::r,lo,hi,h0,h,hp=>by
  obtain ⟨h1,h2⟩:=List.pairwise_cons.1 hp;have hx:=h x (by simp)
  have ih:=CR r (x.ix+1) hi (by omega) (fun y hy=>⟨by have:=h1 y hy;omega,(h y (by simp [hy])).2⟩) h2
  simp only [List.length_cons];omega
theorem bq.Ok.Tj{d:bq}(h:d.Ok):d.eD.length≤8388615:=by
 have:=CR d.eD 0 d.size h.s0 (fun x hx=>⟨(h.eD x hx).1.lo,(h.eD x hx).1.hi⟩) h.rise
 have:=h.s1;omega
structure mC(base:Nat)(A:Nat→Addr)(w:World):Prop where
 arg:w.cell? ⟨0,0,none⟩=some (.iface 360 (.pointer (some (A 0))))
 many:w.cell? ⟨2,0,none⟩=some (.iface 360 (.pointer (some (A 2))))
 dead:w.cell? ⟨7,0,none⟩=some (.iface 360 (.pointer (some (A 7))))
 lo:0<base∧2<base∧7<base
 size:base≤w.heap.size
theorem mC.keep{base:Nat}{A:Nat→Addr}{w w':World}(h:mC base A w)(hb:Below base w w'):mC base A w' :=
 ⟨(World.cell?_of_block (a:=⟨0,0,none⟩) (hb.block _ h.lo.1)).trans h.arg,(World.cell?_of_block (a:=⟨2,0,none⟩) (hb.block _ h.lo.2.1)).trans h.many,(World.cell?_of_block (a:=⟨7,0,none⟩) (hb.block _ h.lo.2.2)).trans h.dead,h.lo,ar h.size hb.size⟩
theorem mC.step{base:Nat}{A:Nat→Addr}{w w':World}{F F':Nat→Prop}(h:mC base A w)(hs:Step F F' w w')(hF:∀ k,F k→base≤k):mC base A w':=h.keep (hs.below hF h.size)
theorem Step.ge{F F':Nat→Prop}{w w':World}{base:Nat}(h:Step F F' w w')(hF:∀ k,F k→base≤k)(hb:base≤w.heap.size):∀ k,F' k→base≤k:=fun k hk=>(h.sub k hk).elim (hF k) (fun h'=>ar hb h')
theorem Dk:TM (.map []) []:=fun i=>⟨rfl,fun k h=>by simp [ep] at h⟩
theorem Be(w:World)(n s:Int)(hs:oG n 0 8388615=s):∃ b F,Ending.returned (Value.pointer (some ⟨w.heap.size+1+1,0,none⟩)) = .returned (.pointer (some ⟨b,0,none⟩))∧cJ (((w.alloc (.map #[] 0)).alloc (.map #[] 0)).alloc (.cells #[.int .i64 s,.map (some w.heap.size),.slice none 0 0,.map (some (w.heap.size+1)),.slice none 0 0,.bool false,.int .i64 0,.int .i64 0,.int .i64 0] 142)) b F (iE n)∧Below w.heap.size w (((w.alloc (.map #[] 0)).alloc (.map #[] 0)).alloc (.cells #[.int .i64 s,.map (some w.heap.size),.slice none 0 0,.map (some (w.heap.size+1)),.slice none 0 0,.bool false,.int .i64 0,.int .i64 0,.int .i64 0] 142))∧∀ k,F k→w.heap.size≤k:=by
 have fK:=World.ownsMap_made (H:=Unit) w prog 3 sJ;have lq:=World.ownsMap_made (H:=Unit) (w.alloc (.map #[] 0)) prog 3 (plainElem prog 3);refine ⟨w.heap.size+1+1,fun k=>w.heap.size≤k∧k<w.heap.size+3,rfl,⟨w.heap.size,w.heap.size+1,.slice none 0 0,.slice none 0 0,.map [],?_,?_,?_,?_,by omega,?_,?_,Dk,World.ownsRow_nil _ _ _ _,fun g hg=>by simp [Value.ownBlock] at hg,.inl ⟨rfl,rfl⟩,Kx n,?_⟩,?_,fun k hk=>hk.1⟩
 ·have h:=heap_alloc_new ((w.alloc (.map #[] 0)).alloc (.map #[] 0)) (.cells #[.int .i64 s,.map (some w.heap.size),.slice none 0 0,.map (some (w.heap.size+1)),.slice none 0 0,.bool false,.int .i64 0,.int .i64 0,.int .i64 0] 142);simp only [World.size_alloc] at h;rw [h];simp only [jj,iE,hs]
 ·omega
 ·omega
 ·omega
 ·exact ((fK.alloc _).alloc _)
 ·have:=lq.alloc (.cells #[.int .i64 s,.map (some w.heap.size),.slice none 0 0,.map (some (w.heap.size+1)),.slice none 0 0,.bool false,.int .i64 0,.int .i64 0,.int .i64 0] 142);simp only [World.size_alloc] at this;exact this
 ·intro i hi;simp;omega
 ·exact (((ai w _).alloc (by simp) _).alloc (by simp;omega) _)
theorem vo(n:Int)(w:World):Calls prog 38 #[.int .i64 n] w fun e w'=>∃ b F,e = .returned (.pointer (some ⟨b,0,none⟩))∧cJ w' b F (iE n)∧Below w.heap.size w w'∧∀ k,F k→w.heap.size≤k:=by
 have B5:=@run_makeMap prog;go_enter func38,ntmps38;go_wp2_with fail
 ·go_ret;obtain ⟨b,F,h1,h2⟩:=Be w n 0 (by unfold oG;rw [if_pos (by omega)])
  exact ⟨b,h1,F,h2⟩
 ·go_ret;obtain ⟨b,F,h1,h2⟩:=Be w n 8388615 (by unfold oG;rw [if_neg (by omega),if_pos (by omega)])
  exact ⟨b,h1,F,h2⟩
 ·go_ret;obtain ⟨b,F,h1,h2⟩:=Be w n n (by unfold oG;rw [if_neg (by omega),if_neg (by omega)])
  exact ⟨b,h1,F,h2⟩
theorem qV(b:Nat)(F:Nat→Prop)(d:bq)(w:World)(h:cJ w b F d):Calls prog 133 #[.pointer (some ⟨b,0,none⟩)] w fun e w'=>e = .returned (.int .i64 d.size)∧w=w':=by
 obtain ⟨mb,nb,pv,av,Dn,h⟩:=h;have c0:w.cell? ⟨b,0,none⟩=some (.int .i64 d.size):=h.cell 0;clear h;go_enter func133,ntmps133;go_wp2;go_ret;exact ⟨rfl,rfl⟩
theorem cU.set{w:World}{b:Nat}{F:Nat→Prop}{d d':bq}{mb nb:Nat}{pv av:Value}{Dn:DataW Unit}(h:cU w b F d mb nb pv av Dn)(j:Nat)(u:Value)(hc:(jj d mb nb pv av).setIfInBounds j u=jj d' mb nb pv av)(hd:d'.eD=d.eD)(hp:d'.aV=d.aV)(ha:d'.eO=d.eO)(ho:d'.Ok):cU (w.setCell ⟨b,j,none⟩ u) b F d' mb nb pv av Dn∧Step F F w (w.setCell ⟨b,j,none⟩ u):=by
 have fj:Step F F w (w.setCell ⟨b,j,none⟩ u):=⟨rfl,rfl,rfl,by simp [World.setCell],fun k _ hn=>Below.heap_setCell w ⟨b,j,none⟩ u k (fun e=>hn (by rw [e];exact h.fb)),fun _ h=>.inl h⟩
 have dE:∀ k,k≠b→(w.setCell ⟨b,j,none⟩ u).heap[k]?=w.heap[k]?:=fun k hk=>Below.heap_setCell w ⟨b,j,none⟩ u k hk
 have yS:∀ k cur e,w.heap[k]?=some (.cells cur e (0,0))→e≠142→k≠b:=fun k cur e hk he hb=>by
  rw [hb,h.dr] at hk;simp only [Option.some.injEq,Obj.cells.injEq] at hk;exact he hk.2.1.symm
 refine ⟨⟨?_,h.fb,h.fm,h.fn,h.ne,?_,?_,by rw [hp];exact h.new,?_,h.pf,?_,ho,fun i hi=>by simpa [World.setCell] using h.lt i hi⟩,fj⟩
 ·unfold World.setCell;simp only [dI,if_true];rw [h.dr];simp only [j7,Option.some.injEq];rw [← hc];rfl
 ·rw [hd];exact dG h.mapD (dE mb (dZ h.mapD h.dr).symm)
 ·rw [hp];exact dG h.rq (dE nb (dZ h.rq h.dr).symm)
 ·rw [hp];exact ff h.aV fun g hg=>by
   obtain ⟨_,_,cur,uT⟩:=eJ h.aV g hg;exact dE g (yS g cur _ uT (by decide))
 ·rw [ha];exact h.eO.block fun k cur hk _=>by
   rcases hk with hk | hk
   ·exact dE k (yS k cur _ hk (by decide))
   ·exact dE k (yS k cur _ hk (by decide))
theorem Ap(b:Nat)(F:Nat→Prop)(d:bq)(s n:Int)(w:World)(h:cJ w b F d)(hn:n<9223372036854775808):Calls prog 41 #[.pointer (some ⟨b,0,none⟩),.int .i64 s,.int .i64 n] w fun e w'=>e = .returned (.bool (d.fits s n))∧w=w':=by
 obtain ⟨mb,nb,pv,av,Dn,h⟩:=h;have c0:w.cell? ⟨b,0,none⟩=some (.int .i64 d.size):=h.cell 0;have s0:=h.ok.s0;have s1:=h.ok.s1;obtain ⟨sz,b7⟩ : ∃ sz,sz=d.size:=⟨_,rfl⟩;rw [← b7] at c0 s0 s1;have HF:Hid (d.fits s n=decide (0≤s∧0≤n∧s≤sz - n)):=(by rw [b7];rfl:d.fits s n=_)
 clear h b7;go_enter func41,ntmps41;by_cases g1:0≤s
 ·by_cases g2:0≤n
  ·have Bz:decide (0≤s)=true:=decide_eq_true g1;have Ld:decide (0≤n)=true:=decide_eq_true g2;go_wp2;go_ret;refine ⟨?_,rfl⟩;rw [HF.out];simp [g1,g2]
  ·have Bz:decide (0≤s)=true:=decide_eq_true g1;have Ld:decide (0≤n)=false:=decide_eq_false g2;go_wp2;go_ret;refine ⟨?_,rfl⟩;rw [HF.out,decide_eq_false (by omega)]
   rfl
 ·have Bz:decide (0≤s)=false:=decide_eq_false g1;go_wp2;go_ret;refine ⟨?_,rfl⟩;rw [HF.out,decide_eq_false (by omega)]
  rfl
theorem cU.aak{w w':World}{b:Nat}{F:Nat→Prop}{d:bq}{mb nb n:Nat}{pv av:Value}{Dn:DataW Unit}(h:cU w b F d mb nb pv av Dn){l:List gH}(hm:w'.ownsMap prog 3 sJ mb n (mn l))(hg:w.grownBy w' (some mb))(ho:{ d with eD:=l }.Ok) :
  cU w' b F { d with eD:=l } mb nb pv av Dn∧Step F F w w':=by
 have dE:∀ k,k<w.heap.size→k≠mb→w'.heap[k]?=w.heap[k]?:=fun k hk hn=>hg.block k hk (fun e=>hn (Option.some.inj e))
 have hc:∀ k (cur:Array Value) (e:TypeId),w.heap[k]?=some (Obj.cells cur e (0,0))→w'.heap[k]?=w.heap[k]?:=fun k cur e hk=>dE k (Array.getElem?_eq_some_iff.1 hk).1 (dZ h.mapD hk)
 refine ⟨⟨(hc b _ _ h.dr).trans h.dr,h.fb,h.fm,h.fn,h.ne,?_,dG h.rq (dE nb h.rq.lt h.ne.symm),h.new,ff h.aV fun g hg=>?_,h.pf,h.eO.block fun k cur hk _=>?_,ho,fun i hi=>aq (h.lt i hi) hg.size⟩,Step.Dj hg fun j hj=>.inl (by rw [← Option.some.inj hj];exact h.fm)⟩
 ·have:=yM hm;rwa [LH] at this
 ·obtain ⟨_,_,cur,uT⟩:=eJ h.aV g hg;exact hc g cur _ uT
 ·rcases hk with hk | hk
  ·exact hc k cur _ hk
  ·exact hc k cur _ hk
theorem qw{w w':World}{m:Nat}{a:Addr}{v:Value}(hg:w.grownBy w' (some m))(hc:w.cell? a=some v)(hn:a.block≠m):w'.cell? a=some v :=
 (World.cell?_of_block (a:=a) (hg.block a.block (World.block_lt_of_cell? w a hc) (fun e=>hn (Option.some.inj e)))).trans hc
theorem oC{w w':World}{r:Option Nat}(h:Below w.heap.size w w'):w.grownBy w' r:=⟨h.os,h.tape,h.output,h.size,fun k hk _=>h.block k hk⟩
theorem cU.step{w w':World}{b:Nat}{F:Nat→Prop}{d:bq}{mb nb:Nat}{pv av:Value}{Dn:DataW Unit}(h:cU w b F d mb nb pv av Dn)(hg:w.grownBy w' (some mb)):Step F F w w' :=
 Step.Dj hg fun j hj=>.inl (by rw [← Option.some.inj hj];exact h.fm)
theorem Gq{w:World}{b:Nat}{F:Nat→Prop}{d:bq}{mb nb:Nat}{pv av:Value}{Dn:DataW Unit}(h:cU w b F d mb nb pv av Dn)(i:Int)(t:ByteArray)(ht:t.size≤512)(h0:0≤i)(h1:i<d.size):Calls prog 42 #[.pointer (some ⟨b,0,none⟩),.int .i64 i,.string t] w fun e w'=>e = .returned (.tuple #[])∧cU w' b F { d with eD:=qW d.eD i (pad t) } mb nb pv av Dn∧w.grownBy w' (some mb):=by
 have hs:=h.ok.s1;have hl:=h.ok.Tj;obtain ⟨k1,k2⟩:=RY h.ok.eD h.ok.rise (i:=i) (t:=pad t) ⟨h0,h1,Da t ht⟩;refine (KD b mb d.eD.length i t d.eD w (h.cell 1) h.mapD ht h0 (by omega) (by unfold maxLen;omega)).mono ?_
 rintro e w' ⟨rfl,hm,hg⟩;exact ⟨rfl,(h.aak hm hg ⟨h.ok.s0,h.ok.s1,k1,k2,h.ok.aV,h.ok.eO⟩).1,hg⟩
theorem LI{w:World}{b:Nat}{F:Nat→Prop}{d:bq}{mb nb:Nat}{pv av:Value}{Dn:DataW Unit}(h:cU w b F d mb nb pv av Dn) :
  cJ (((w.setCell ⟨b,2,none⟩ (.slice none 0 0)).setCell ⟨b,3,none⟩ (.map (some w.heap.size))).alloc (.map #[] 0)) b (fun k=>F k∨k=w.heap.size) { d with aV:=[] } ∧
  Step F (fun k=>F k∨k=w.heap.size) w (((w.setCell ⟨b,2,none⟩ (.slice none 0 0)).setCell ⟨b,3,none⟩ (.map (some w.heap.size))).alloc (.map #[] 0)):=by
 have bN:=(Array.getElem?_eq_some_iff.1 h.dr).1;have b7:((w.setCell ⟨b,2,none⟩ (.slice none 0 0)).setCell ⟨b,3,none⟩ (.map (some w.heap.size))).heap.size=w.heap.size:=by simp [World.setCell]
 have Fm:∀ k,k<w.heap.size→(((w.setCell ⟨b,2,none⟩ (.slice none 0 0)).setCell ⟨b,3,none⟩ (.map (some w.heap.size))).alloc (.map #[] 0)).heap[k]?=((w.setCell ⟨b,2,none⟩ (.slice none 0 0)).setCell ⟨b,3,none⟩ (.map (some w.heap.size))).heap[k]?:=fun k hk =>
  (ai _ _).block k (by rw [b7];exact hk)
 have dE:∀ k,k<w.heap.size→k≠b→(((w.setCell ⟨b,2,none⟩ (.slice none 0 0)).setCell ⟨b,3,none⟩ (.map (some w.heap.size))).alloc (.map #[] 0)).heap[k]?=w.heap[k]?:=fun k hk hn=>by
  rw [Fm k hk,Below.heap_setCell _ ⟨b,3,none⟩ _ k hn,Below.heap_setCell _ ⟨b,2,none⟩ _ k hn]
 have yS:∀ k (cur:Array Value) (e:TypeId),w.heap[k]?=some (Obj.cells cur e (0,0))→e≠142→(((w.setCell ⟨b,2,none⟩ (.slice none 0 0)).setCell ⟨b,3,none⟩ (.map (some w.heap.size))).alloc (.map #[] 0)).heap[k]?=w.heap[k]?:=fun k cur e hk he=>dE k (Array.getElem?_eq_some_iff.1 hk).1 fun hb=>by
  rw [hb,h.dr] at hk;simp only [Option.some.injEq,Obj.cells.injEq] at hk;exact he hk.2.1.symm
 have me:=World.ownsMap_made (H:=Unit) ((w.setCell ⟨b,2,none⟩ (.slice none 0 0)).setCell ⟨b,3,none⟩ (.map (some w.heap.size))) prog 3 (plainElem prog 3);rw [b7] at me;refine ⟨⟨mb,w.heap.size,.slice none 0 0,av,.map [],?_,.inl h.fb,.inl h.fm,.inr rfl,?_,dG h.mapD (dE mb h.mapD.lt (dZ h.mapD h.dr).symm),me,Dk,World.ownsRow_nil _ _ _ _,fun g hg=>by simp [Value.ownBlock] at hg,?_,?_,?_⟩,?_⟩
 ·rw [Fm b bN];unfold World.setCell;simp only [dI,if_true];rw [h.dr];rfl
 ·have:=h.mapD.lt;omega
 ·exact (h.eO.block fun k cur hk _=>by
   rcases hk with hk | hk
   ·exact yS k cur _ hk (by decide)
   ·exact yS k cur _ hk (by decide)).imp fun k hk=>.inl hk
 ·exact ⟨h.ok.s0,h.ok.s1,h.ok.eD,h.ok.rise,by simp,h.ok.eO⟩
 ·intro i hi;simp only [World.size_alloc,b7];rcases hi with hi | hi
  ·have:=h.lt i hi;omega
  ·omega
 ·exact ⟨rfl,rfl,rfl,by simp only [World.size_alloc,b7];omega,fun k hk hn=>dE k hk fun e=>hn (by rw [e];exact h.fb),fun k hk=>hk.elim .inl (fun e=>.inr (by omega))⟩
theorem P3(b:Nat)(F:Nat→Prop)(d:bq)(w:World)(h:cJ w b F d):Calls prog 100 #[.pointer (some ⟨b,0,none⟩)] w fun e w'=>e = .returned (.tuple #[])∧cJ w' b (fun k=>F k∨k=w.heap.size) { d with aV:=[] }∧Step F (fun k=>F k∨k=w.heap.size) w w':=by
 obtain ⟨mb,nb,pv,av,Dn,h⟩:=h;have c2:w.cell? ⟨b,2,none⟩=some pv:=h.cell 2;have c3:w.cell? ⟨b,3,none⟩=some (.map (some nb)):=h.cell 3;have f2:=h.frozen 2;have f3:=h.frozen 3;have B5:=@run_makeMap prog;have bO:b<w.heap.size:=(Array.getElem?_eq_some_iff.1 h.dr).1;have aU:(w.setCell ⟨b,2,none⟩ (.slice none 0 0)).heap[b]?=some (.cells ((jj d mb nb pv av).setIfInBounds 2 (.slice none 0 0)) 142 (0,0)):=by
  unfold World.setCell;simp only [dI,if_true];rw [h.dr];rfl
 have bT:((w.setCell ⟨b,2,none⟩ (.slice none 0 0)).alloc (.map #[] 0)).heap[b]?=some (.cells ((jj d mb nb pv av).setIfInBounds 2 (.slice none 0 0)) 142 (0,0)) :=
  ((ai _ _).block b (by simpa [World.setCell] using bO)).trans aU
 have d3:((w.setCell ⟨b,2,none⟩ (.slice none 0 0)).alloc (.map #[] 0)).cell? ⟨b,3,none⟩=some (.map (some nb)):=by rw [cell_of_row _ _ _ _ _ _ bT];rfl
 have g3:((w.setCell ⟨b,2,none⟩ (.slice none 0 0)).alloc (.map #[] 0)).frozen? ⟨b,3,none⟩=false:=by
  unfold World.frozen?;rw [show ((w.setCell ⟨b,2,none⟩ (.slice none 0 0)).alloc (.map #[] 0)).heap[(⟨b,3,none⟩ : Addr).block]?=_ from bT]
  simp
 clear aU bT c3 f3;have HH:Hid _:=LI h;clear h;go_enter func100,ntmps100;go_wp2;go_end0
 exact ⟨rfl,HH.out⟩
end S.V
end Go.Proofs.YtihmgigfkmofnaaGreatDoor
