import Derived.Test.YtihmgigfkmofnaaGreatDoorG00
import Derived.Maps.OwnSet
import Derived.Maps.RangeWalk
import Derived.Maps.Ext
import Derived.Lib.BufferWrite
import Derived.ChangeKeysEq
import Derived.Deep.MidRow
import Derived.Deep.WholeRow
import Derived.Laws.CopyOwn
import Derived.Deep.RegionHeld3
import Derived.Deep.QuietTactic
set_option maxHeartbeats 400000
set_option maxRecDepth 100000
open Go.Proofs.Tryz
namespace Go.Proofs.YtihmgigfkmofnaaGreatDoor
namespace S.V
open Go.RowKit
theorem Tryz.info5:(prog.info? 5).map (fun i=>(i.zero,i.size,i.bytes))=some (some (.int .u8 0),1,1):=by kernel_rfl
structure gL where
 ix:Int
 lE:ByteArray
structure MC where
 ix:Int
 kind:Int
 cut:Int
 junk:ByteArray
structure Fy where
 after:Int
 fates:List MC
structure bq where
 size:Int
 eF:List gL
 aV:List gL
 eR:List Fy
 dead:Bool
 nr:Int
 nw:Int
 ns:Int
def bl(t:ByteArray):List UInt8:=t.data.toList
def GG(l:List UInt8):ByteArray:=⟨l.toArray⟩
theorem tZ(l:List UInt8):bl (GG l)=l:=by simp [bl,GG]
theorem GF(t:ByteArray):GG (bl t)=t:=by simp [bl,GG]
theorem jY(t:ByteArray):(bl t).length=t.size:=by simp [bl]
theorem oE(l:List UInt8):(GG l).size=l.length:=by rw [← jY,tZ]
theorem B5{s t:ByteArray}(h:bl s=bl t):s=t:=by rw [← GF s,h,GF]
def fC(n:Nat):List UInt8:=List.replicate n 0
theorem jJ(n:Nat):(fC n).length=n:=by simp [fC]
def qo:ByteArray:=GG (fC 512)
theorem sZ:qo.size=512:=by rw [qo,oE,jJ]
def vB(t:ByteArray):Bool:=decide (bl t=fC t.size)
def pad(t:ByteArray):ByteArray:=GG (bl t++fC (512 - t.size))
theorem Dy(t:ByteArray)(h:t.size≤512):(pad t).size=512:=by rw [pad,oE,ae,jY,jJ];omega
theorem Od(t:ByteArray)(h:t.size=512):pad t=t:=by
 unfold pad;rw [h];simp [fC,GF]
def jG(i:Int)(l:List gL):List gL:=l.filter fun x=>decide (x.ix≠i)
def qJ(x:gL):List gL→List gL
 | []=>[x]
 | y::r=>if x.ix<y.ix then x::y::r else y::qJ x r
def rB(l:List gL)(i:Int)(t:ByteArray):List gL:=if vB t then jG i l else qJ ⟨i,t⟩ (jG i l)
def fA(l:List gL)(i:Int):ByteArray:=match l.find? (fun x=>decide (x.ix=i)) with | some x=>x.lE | none=>qo
def ez:List gL→Int→Option Nat
 | [],_=>none
 | x::r,i=>match ez r i with | some k=>some (k+1) | none=>if x.ix=i then some 0 else none
def gd(d:bq)(i:Int):ByteArray:=match ez d.aV i with | some k=>((d.aV[k]?).map gL.lE).getD qo | none=>fA d.eF i
def oT(n lo hi:Int):Int:=if n<lo then lo else if n > hi then hi else n
def Z8(c:Int):Nat:=(oT c 0 512).toNat
def X4(d:ByteArray)(f:MC):ByteArray:=GG (((bl d).take (Z8 f.cut)++bl f.junk++fC 512).take 512)
def Yh(aV eF:List gL)(f:MC):List gL:=match aV[f.ix.toNat]? with
 | some x=>if f.kind=2 then rB eF x.ix x.lE else if f.kind=3 then rB eF x.ix (X4 x.lE f) else eF
 | none=>eF
def Bn(aV:List gL):List Int→List gL→List MC→List gL
 | _,eF,[]=>eF
 | seen,eF,f::r=>if f.ix<0∨(aV.length:Int)≤f.ix∨f.ix ∈ seen then Bn aV seen eF r else Bn aV (f.ix::seen) (Yh aV eF f) r
def bq.kill(d:bq)(l:List MC):bq:={ d with eF:=Bn d.aV [] d.eF l,aV:=[],dead:=true }
def bq.done(d:bq):bq × Nat:=match d.eR with
 | []=>(d,0)
 | a::r=>if 0<a.after then ({ d with eR:={ a with after:=a.after - 1 }::r },0) else ({ d with eR:=r }.kill a.fates,8)
def chunk(s:Int)(p:List UInt8)(i:Nat):gL:=⟨s+i,GG ((p.drop (i*512)).take 512)⟩
def chunks(s:Int)(p:List UInt8)(n:Nat):List gL:=(List.range n).map (chunk s p)
theorem uX(s:Int)(p:List UInt8)(n:Nat):chunks s p (n+1)=chunks s p n++[chunk s p n]:=by simp [chunks,List.range_succ]
theorem yr(s:Int)(p:List UInt8)(n:Nat):(chunks s p n).length=n:=by simp [chunks]
def bq.fits(d:bq)(s n:Int):Bool:=decide (0≤s∧0≤n∧s≤d.size - n)
def bq.write(d:bq)(s:Int)(p:List UInt8):bq × Nat :=
 if d.dead then (d,8)
 else if p.length=0∨p.length % 512≠0∨d.fits s (p.length / 512:Nat)=false then (d,1)
 else bq.done { d with aV:=d.aV++chunks s p (p.length / 512),nw:=wrap64 (d.nw+(p.length / 512:Nat)) }
def gN(eF aV:List gL):List gL:=aV.foldl (fun l x=>rB l x.ix x.lE) eF
def bq.sync(d:bq):bq × Nat :=
 if d.dead then (d,8)
 else bq.done { d with eF:=gN d.eF d.aV,aV:=[],ns:=wrap64 (d.ns+1) }
def iY(d:bq)(s:Int)(n:Nat):List UInt8:=(List.range n).flatMap fun i:Nat=>bl (gd d (s+(i:Int)))
theorem wX(d:bq)(s:Int)(n:Nat):iY d s (n+1)=iY d s n++bl (gd d (s+n)):=by simp [iY,List.range_succ,List.flatMap_append]
def bq.read(d:bq)(s n:Int):bq × List UInt8 × Nat :=
 if d.dead then (d,[],8)
 else if d.fits s n=false then (d,[],1)
 else if 1024<n then (d,[],3)
 else ({ d with nr:=wrap64 (d.nr+n) },iY d s n.toNat,0)
def iS(n:Int):bq:=⟨oT n 0 8388615,[],[],[],false,0,0,0⟩
structure sE(size:Int)(x:gL):Prop where
 lo:0≤x.ix
 hi:x.ix<size
 len:x.lE.size=512
structure bq.Ok(d:bq):Prop where
 s0:0≤d.size
 s1:d.size≤8388615
 eF:∀ x ∈ d.eF,sE d.size x∧vB x.lE=false
 rise:d.eF.Pairwise fun x y=>x.ix<y.ix
 aV:∀ x ∈ d.aV,sE d.size x
 eR:∀ a ∈ d.eR,0≤a.after∧a.after<9223372036854775808
theorem pL{i:Int}{l:List gL}{x:gL}(h:x ∈ jG i l):x ∈ l∧x.ix≠i:=by simpa [jG] using h
theorem xR{x y:gL}:∀ {l:List gL},y ∈ qJ x l→y=x∨y ∈ l
 | [],h=>by simp [qJ] at h;exact .inl h
 | z::r,h=>by
  unfold qJ at h;split at h
  ·simpa using h
  ·rcases List.mem_cons.1 h with e | h'
   ·exact .inr (by simp [e])
   ·rcases xR h' with e | e
    ·exact .inl e
    ·exact .inr (by simp [e])
theorem AI{x:gL}:∀ {l:List gL},l.Pairwise (fun x y=>x.ix<y.ix)→(∀ y ∈ l,y.ix≠x.ix)→(qJ x l).Pairwise fun x y=>x.ix<y.ix
 | [],_,_=>by simp [qJ]
 | z::r,h,hn=>by
  obtain ⟨h1,h2⟩:=List.pairwise_cons.1 h;unfold qJ;split
  ·rename_i bP
   exact List.pairwise_cons.2 ⟨fun y hy=>by
    rcases List.mem_cons.1 hy with e | hy
    ·rw [e];exact bP
    ·exact Int.lt_trans bP (h1 y hy),h⟩
  ·rename_i BO
   have hz:=hn z (by simp)
   refine List.pairwise_cons.2 ⟨fun y hy=>?_,AI h2 fun y hy=>hn y (by simp [hy])⟩
   rcases xR hy with e | e
   ·rw [e];omega
   ·exact h1 y e
theorem Sb{size:Int}{l:List gL}{i:Int}{t:ByteArray}(h:∀ x ∈ l,sE size x∧vB x.lE=false)(hr:l.Pairwise fun x y=>x.ix<y.ix)(hi:sE size ⟨i,t⟩):(∀ x ∈ rB l i t,sE size x∧vB x.lE=false)∧(rB l i t).Pairwise fun x y=>x.ix<y.ix:=by
 have hd:(jG i l).Pairwise fun x y=>x.ix<y.ix:=hr.sublist List.filter_sublist
 unfold rB;cases hz:vB t
 ·refine ⟨fun x hx=>?_,AI hd fun y hy=>(pL hy).2⟩
  rcases xR hx with e | e
  ·rw [e];exact ⟨hi,hz⟩
  ·exact h x (pL e).1
 ·exact ⟨fun x hx=>h x (pL hx).1,hd⟩
theorem Qs{size s:Int}{p:List UInt8}{n:Nat}(h0:0≤s)(h1:s≤size - n)(hp:p.length=n*512){i:Nat}(hi:i<n):sE size (chunk s p i):=by
 refine ⟨by simp only [chunk];omega,by simp only [chunk];omega,?_⟩
 rw [chunk,oE,ag,ao,hp];omega
theorem KK(n:Int):(iS n).Ok:=by
 refine ⟨?_,?_,by simp [iS],by simp [iS],by simp [iS],by simp [iS]⟩
 ·simp only [iS,oT];split <;> (try split) <;> omega
 ·simp only [iS,oT];split <;> (try split) <;> omega
theorem sd{size:Int}{l:List gL}(h:∀ x ∈ l,sE size x∧vB x.lE=false)(i:Int):(fA l i).size=512:=by
 unfold fA;cases hf:l.find? (fun x=>decide (x.ix=i)) with
 | none=>exact sZ
 | some x=>exact (h x (List.mem_of_find?_eq_some hf)).1.len
theorem kX:∀ {l:List gL} {i:Int} {k:Nat},ez l i=some k→k<l.length
 | [],_,_,h=>by simp [ez] at h
 | x::r,i,k,h=>by
  unfold ez at h;cases hr:ez r i with
  | some j =>
   rw [hr] at h;simp only [Option.some.injEq] at h;have:=kX hr;simp
   omega
  | none =>
   rw [hr] at h;simp only [] at h;split at h
   ·simp only [Option.some.injEq] at h;simp;omega
   ·cases h
theorem zh{d:bq}(h:d.Ok)(i:Int):(gd d i).size=512:=by
 unfold gd;cases hk:ez d.aV i with
 | none=>exact sd h.eF i
 | some k =>
  have bP:=kX hk;simp only [af bP,kC,l9];exact (h.aV _ (aH bP)).len
theorem pz{d:bq}(h:d.Ok)(s:Int):∀ n,(iY d s n).length=n*512
 | 0=>by simp [iY]
 | n+1=>by rw [wX,ae,pz h s n,jY,zh h];omega
theorem lP(l:List gL)(x:gL)(i:Int):ez (l++[x]) i=if x.ix=i then some l.length else ez l i:=by
 induction l with
 | nil=>simp [ez]
 | cons y r ih =>
  simp only [List.cons_append,ez,ih];by_cases h:x.ix=i
  ·simp [h]
  ·simp [h]
open Go.Maps
def arr(t:ByteArray):Value:=.agg (dW (bl t)).toArray
theorem Iu:∀ {a b:List UInt8},dW a=dW b→a=b
 | [],[],_=>rfl
 | [],_::_,h=>by simp [dW] at h
 | _::_,[],h=>by simp [dW] at h
 | x::a,y::b,h=>by
  simp only [dW,List.map_cons,List.cons.injEq,Value.int.injEq,true_and] at h;have e:x=y:=UInt8.toNat_inj.1 (by omega)
  rw [e,Iu h.2]
theorem TP{s t:ByteArray}(h:arr s=arr t):s=t:=by
 simp only [arr,Value.agg.injEq] at h;exact B5 (Iu (by simpa using congrArg Array.toList h))
open Classical in
noncomputable def tl (v:Value):Option (DataW Unit × List MemPlace):=if h:∃ t:ByteArray,t.size=512∧v=arr t then some (.lit (.string (bl h.choose)),[]) else none
theorem wN{t:ByteArray}(h:t.size=512):tl (arr t)=some (.lit (.string (bl t)),[]):=by
 have hx:∃ s:ByteArray,s.size=512∧arr t=arr s:=⟨t,h,rfl⟩;unfold tl;rw [dif_pos hx,TP hx.choose_spec.2.symm]
theorem NP{v:Value}{y:DataW Unit × List MemPlace}(h:tl v=some y):∃ t:ByteArray,t.size=512∧v=arr t∧y=(.lit (.string (bl t)),[]):=by
 unfold tl at h;split at h
 ·rename_i hx
  exact ⟨hx.choose,hx.choose_spec.1,hx.choose_spec.2,(Option.some.inj h).symm⟩
 ·cases h
theorem Ea:Keyed prog 3:=int_keyed underlying3
theorem kwf{i:Int}(h0:0≤i)(h1:i<9223372036854775808):(Lit.int .i64 i).wf=true:=WalkArith.wf_i64 (by omega)
theorem SK{i:Int}(h0:0≤i)(h1:i<9223372036854775808):keyOf prog 3 (.int .i64 i)=some (.int .i64 i):=keyOf_int_mk underlying3 (kwf h0 h1)
def mH(l:List gL):DataW Unit:=.map (l.map fun x=>(.int .i64 x.ix,.lit (.string (bl x.lE))))
theorem uW(i:Int)(l:List gL):(l.map fun x=>((.int .i64 x.ix,.lit (.string (bl x.lE))):Lit × DataW Unit)).filter (fun p=>!p.1.sameKey (.int .i64 i))=(jG i l).map fun x=>(.int .i64 x.ix,.lit (.string (bl x.lE))):=by
 induction l with
 | nil=>rfl
 | cons x r ih =>
  have e:(Lit.int .i64 x.ix).sameKey (.int .i64 i)=decide (x.ix=i):=by simp [Lit.sameKey]
  have e2:jG i (x::r)=if x.ix=i then jG i r else x::jG i r:=by
   by_cases h:x.ix=i
   ·simp [jG,h]
   ·simp [jG,h]
  rw [List.map_cons,List.filter_cons,ih,e2,e];by_cases h:x.ix=i
  ·simp [h]
  ·simp [h]
theorem Qf(i:Int)(t:ByteArray)(l:List gL):DataW.insert ((.int .i64 i,.lit (.string (bl t))):Lit × DataW Unit) (l.map fun x=>(.int .i64 x.ix,.lit (.string (bl x.lE))))=(qJ ⟨i,t⟩ l).map fun x=>(.int .i64 x.ix,.lit (.string (bl x.lE))):=by
 induction l with
 | nil=>rfl
 | cons x r ih =>
  simp only [List.map_cons,DataW.insert,qJ,Lit.before];by_cases h:i<x.ix
  ·simp [h]
  ·simp [h,ih]
theorem Qe(i:Int)(t:ByteArray)(l:List gL):(mH l).put (.int .i64 i) (.lit (.string (bl t)))=mH (qJ ⟨i,t⟩ (jG i l)):=by
 show DataW.map (DataW.insert _ (List.filter _ _))=_
 rw [uW,Qf];rfl
theorem Qh(i:Int)(l:List gL):(mH l).del (.int .i64 i)=mH (jG i l):=by
 show DataW.map (List.filter _ _)=_
 rw [uW];rfl
theorem Qg(i:Int)(l:List gL):Maps.has (mH l) (.int .i64 i)=l.any fun x=>decide (x.ix=i):=by
 show List.any _ _=_
 rw [List.any_map];congr 1
 funext x
 simp [Lit.sameKey]
theorem Tw(i:Int)(l:List gL)(z:DataW Unit):(mH l).atKey (.int .i64 i) z=match l.find? (fun x=>decide (x.ix=i)) with | some x=>.lit (.string (bl x.lE)) | none=>z:=by
 have e:((fun p:Lit × DataW Unit=>p.1.sameKey (.int .i64 i)) ∘ fun x:gL=>((.int .i64 x.ix,.lit (.string (bl x.lE))):Lit × DataW Unit))=fun x:gL=>decide (x.ix=i):=by
  funext x;simp [Lit.sameKey]
 unfold mH DataW.atKey;simp only [List.find?_map,e];cases l.find? fun x=>decide (x.ix=i) <;> rfl
theorem ym(w:World)(d:Nat)(xs ys:Array Value)(f g:Nat→Nat):∀ is:List Nat,(∀ i ∈ is,xs[i]?=some (.int .u8 (f i:Int))∧ys[i]?=some (.int .u8 (g i:Int))) →
  (Op.eqItems (d+1) 5 1 xs ys is).run prog w = .ok (is.all fun i=>f i == g i) w
 | [],_=>by simp [Op.eqItems]
 | i::is,h=>by
  obtain ⟨h1,h2⟩:=h i (by simp)
  have ih:=ym w d xs ys f g is fun j hj=>h j (by simp [hj])
  have p1:=run_part_plain (P:=prog) w (e:=5) (by kernel_rfl) h1
  have p2:=run_part_plain (P:=prog) w (e:=5) (by kernel_rfl) h2
  have p3:=run_equalIn_int (P:=prog) w d 5 .u8 .u8 (f i) (g i) underlying5;simp only [Op.eqItems,Sem.run_bind,Nat.mul_one,p1,p2,p3,Result.andThen_ok];by_cases e:f i=g i
  ·simp [e,ih]
  ·have:((f i:Int) == (g i:Int))=false:=by simp;omega
   simp [this,e]
theorem TQ(x y:List UInt8)(n:Nat)(hx:x.length=n)(hy:y.length=n):(∀ i,i<n→(x.getD i 0).toNat=(y.getD i 0).toNat)↔x=y:=by
 constructor
 ·intro e;refine mc (by omega) fun i h1 h2=>?_
  have:=e i (by omega)
  simp only [aK,af h1,af h2,l9] at this;exact UInt8.toNat_inj.1 this
 ·intro e i _;rw [e]
theorem Ht:prog.cellsOf 5=1:=by kernel_rfl
theorem F7:prog.underlying 144=some (.array 512 5):=by kernel_rfl
theorem ac1:(prog.info? 5).isSome=true:=by kernel_rfl
theorem Wz(w:World)(x y:List UInt8)(hx:x.length=512)(hy:y.length=512):(binOp .eql 144 (.agg (dW x).toArray) (.agg (dW y).toArray)).run prog w = .ok (.bool (decide (x=y))) w:=by
 obtain ⟨i5,h5⟩:=Option.isSome_iff_exists.1 ac1;have h:=run_equalIn_array (P:=prog) w 9999 (dW x).toArray (dW y).toArray F7 h5;rw [Ht,ym w 9998 _ _ (fun i=>(x.getD i 0).toNat) (fun i=>(y.getD i 0).toNat) (List.range 512) (fun i hi=>by
  have hi:=List.mem_range.1 hi;constructor
  ·simp [dW,show i<x.length by omega]
  ·simp [dW,show i<y.length by omega])] at h
 rw [run_eql_struct,h,Result.andThen_ok];generalize hn:512=n at *;have e0:((List.range n).all fun i=>(x.getD i 0).toNat == (y.getD i 0).toNat)=decide (x=y):=by
  rw [kG];simp only [me,List.mem_range,beq_iff_eq,decide_eq_true_eq];exact TQ x y n hx hy
 rw [e0]
theorem zc:zeroCells144=(dW (fC 512)).toArray:=by kernel_rfl
theorem Bj:(prog.info? 144).map (·.size)=some 512:=by kernel_rfl
theorem uz:(prog.info? 5).map (·.size)=some 1:=by kernel_rfl
theorem zM(l:List UInt8):Lib.byteCells l=dW l:=rfl
theorem X0(k n:Nat):(dW (fC n)).drop k=dW (fC (n - k)):=by
 rw [dW,dW,fC,fC,oX,oX,nP]
theorem XY(t:ByteArray):(zeroCells144.toList.take 0++Lib.byteCells t.data.toList++zeroCells144.toList.drop (0+t.size)).toArray=(dW (bl (pad t))).toArray:=by
 rw [zc,List.take_zero,List.nil_append,Nat.zero_add,X0,pad,tZ,jK];rfl
theorem X1(t:ByteArray)(w:World)(ht:t.size≤512):∃ w2,(Builtin.copy_ #[145,9] 3 #[.slice (some ⟨w.heap.size,0,none⟩) 512 512,.string t]).run prog (w.alloc (.cells zeroCells144 144)) = .ok (goInt t.size) w2∧w2.heap[w.heap.size]?=some (.cells (dW (bl (pad t))).toArray 144 (0,0))∧Below w.heap.size w w2:=by
 have mx:=heap_alloc_new w (.cells zeroCells144 144);have cx:zeroCells144.size=512:=by rw [zc,List.size_toArray,a6,jJ]
 have bg:=Lib.run_copy_row_string (P:=prog) (w.alloc (.cells zeroCells144 144)) 145 9 3 5 w.heap.size 0 512 512 t _ 144 underlying145 uz mx ht (by rw [cx];omega)
 rw [XY] at bg;exact ⟨_,bg,setRow_heap _ w.heap.size _ _ 144 _ mx,below_setRow (ai w _) (aj _) _⟩
theorem XX(w2:World)(g:Nat)(t:ByteArray)(ht:t.size=512)(h:w2.heap[g]?=some (.cells (dW (bl t)).toArray 144 (0,0))):(Instr.loadAt 144 (.pointer (some ⟨g,0,none⟩))).run prog w2 = .ok (arr t) w2:=by
 simp only [Instr.loadAt,Instr.sureAddr,Sem.run_bind,Sem.run_pure,Result.andThen_ok];exact run_loadVar_row (P:=prog) w2 g 144 144 _ _ _ h F7 rfl (by rw [Bj,List.size_toArray,a6,jY,ht])
theorem Vf(w:World)(x y:Operand)(t:ByteArray):(eqGuard .eql 144 x y (arr t) (.agg zeroCells144)).run prog w = .ok () w:=run_eqGuard_agg w .eql 144 x y _ _ (by kernel_rfl)
theorem zeq(w:World)(t:ByteArray)(ht:t.size=512):(binOp .eql 144 (arr t) (.agg zeroCells144)).run prog w = .ok (.bool (vB t)) w:=by
 rw [zc,arr,Wz w _ _ (by rw [jY];exact ht) (jJ 512),vB,ht]
theorem oe{P:Program}{ops:Array Oper}{rest:List Oper}{op:Oper}{a:Act}{w:World}{Q:Exit→Act→World→Prop}(nM:op.guard=none)(ty:TypeId)(x:Operand)(ho:op.op = .load ty x)(p v:Value)(hx:a.eval x=p)(bg:(Instr.loadAt ty p).run P w = .ok v w)(h:wpList P ops Q rest (a.put op.dst v) w):wpList P ops Q (op::rest) a w :=
 wpList_plain nM fun _ hK=>by
  unfold Oper.wp execOp;simp only [ho,hx,Sem.run_bind,bg,Result.andThen_ok,Sem.run_pure];exact hK _ _ h
theorem KP(b mb n:Nat)(i:Int)(t:ByteArray)(l:List gL)(w:World)(c1:w.cell? ⟨b,1,none⟩=some (.map (some mb)))(aE:w.ownsMap prog 3 tl mb n (mH l))(ht:t.size≤512)(h0:0≤i)(h1:i<9223372036854775808)(hn:n<maxLen):Calls prog 42 #[.pointer (some ⟨b,0,none⟩),.int .i64 i,.string t] w fun e w'=>e = .returned (.tuple #[])∧w'.ownsMap prog 3 tl mb (n+1) (mH (rB l i (pad t)))∧w.grownBy w' (some mb):=by
 obtain ⟨w2,yV,aO,kt⟩:=X1 t w ht;have kB:=Dy t ht;have hld:=XX w2 w.heap.size (pad t) kB aO;have heq:=fun w=>zeq w (pad t) kB
 have nM:=fun w x y=>Vf w x y (pad t)
 have zE:w.grownBy w2 (some mb):=⟨kt.os,kt.tape,kt.output,kt.size,fun k hk _=>kt.block k hk⟩
 have lT:=aE.kept (row:=none) ⟨kt.os,kt.tape,kt.output,kt.size,fun k hk _=>kt.block k hk⟩ (by simp)
 have c2:w2.cell? ⟨b,1,none⟩=some (.map (some mb)):=(kt.cell (p:=⟨b,1,none⟩) (World.block_lt_of_cell? w _ c1)).trans c1;have HS:Hid (rB l i (pad t)=if vB (pad t) then jG i l else qJ ⟨i,pad t⟩ (jG i l)):=(rfl:rB l i (pad t)=_)
 have hR:=wN kB;obtain ⟨w3,Uu,Pl,qK⟩:=lT.drew.store Ea underlying138 hn (SK h0 h1) hR;have Ux:w2.rangeAt w.heap.size 0 (dW (bl (pad t))):=fun j u hu=>by
  rw [cell_of_row _ _ _ _ _ _ aO,Nat.zero_add];simpa using hu
 have hlen:(prog.info? 144).map (·.size)=some (dW (bl (pad t))).length:=by rw [Bj,a6,jY,kB]
 have UH:w2.grownBy w3 (some mb):=⟨qK.grown.os,qK.grown.tape,qK.grown.output,qK.grown.size,qK.grown.block⟩;have Cs:b≠mb:=fun e=>by
  obtain ⟨es,ck,hb,_⟩:=lT;rw [e,World.cell?,hb] at c2;cases c2
 have c3:w3.cell? ⟨b,1,none⟩=some (.map (some mb)):=(World.cell?_of_block (a:=⟨b,1,none⟩) (qK.grown.block b (World.block_lt_of_cell? _ _ c2) (by simpa using Cs))).trans c2
 have zu:w.heap.size≠mb:=fun e=>by have:=aE.lt;omega
 have YL:w3.rangeAt w.heap.size 0 (dW (bl (pad t))):=fun j u hu=>(World.cell?_of_block (a:=⟨w.heap.size,0+j,none⟩) (qK.grown.block w.heap.size (World.block_lt_of_cell? _ _ (Ux j u hu)) (by simpa using zu))).trans (Ux j u hu)
 unfold arr at hld heq nM hR Uu;obtain ⟨cs,fs⟩ : ∃ cs,cs=dW (bl (pad t)):=⟨_,rfl⟩;obtain ⟨p,hp⟩ : ∃ p,p=pad t:=⟨_,rfl⟩;rw [← fs] at hld hR Uu Ux hlen YL;simp only [← fs] at heq nM;rw [← hp] at HS hR Pl ⊢;simp only [← hp] at heq;rw [Qe] at Pl;have Yt:=F7;clear aE c1 kB hp fs aO;go_enter func42,ntmps42;cases hz:vB p
 ·rw [hz] at heq;go_wp2_with (first | (refine oe rfl 144 _ rfl _ _ rfl hld ?_))
  go_region_held3 (fun w'=>w'.cell? ⟨b,1,none⟩=some (.map (some mb))∧w'.rangeAt w.heap.size 0 cs) (first | exact ⟨c2,Ux⟩ | exact ⟨c3,YL⟩ | go_keep) (fail)
  go_end0
  refine ⟨rfl,?_,zE.andThen UH (fun j hj=>.inr (by simpa using hj))⟩
  rw [HS.out,hz];exact Pl
 ·rw [hz] at heq;go_wp2_with (first | (refine oe rfl 144 _ rfl _ _ rfl hld ?_) | (at_delete;refine wpList_delete_own _ rfl _ _ 138 3 rfl 144 Ea underlying138 _ mb n _ rfl lT _ _ rfl (SK h0 h1) ?_;intro w4 El VK))
  go_frame
  try simp only [Exit.inBlock,Exit.then]
  refine bodyPost_ret (results_none rfl _ _ _) rfl ?_
  rw [Qh] at El;refine ⟨rfl,?_,zE.andThen VK.grown (fun j hj=>.inr (by simpa using hj))⟩
  rw [HS.out,hz];exact El.mono (Nat.le_succ _)
end S.V
end Go.Proofs.YtihmgigfkmofnaaGreatDoor
namespace Go.Proofs.YtihmgigfkmofnaaGreatDoor
namespace S.V
open Go.RowKit
def iz(A:Nat→Addr)(n:Nat):Value:=if n=0 then .nilIface else .iface 360 (.pointer (some (A (n - 1))))
open Go.Maps
def fE(l:List gL):List Value:=l.flatMap fun x=>[.int .i64 x.ix,.string x.lE]
def LD(l:List MC):List Value:=l.flatMap fun f=>[.int .i64 f.ix,.int .i64 f.kind,.int .i64 f.cut,.string f.junk]
theorem zi(x:gL)(l:List gL):fE (x::l) = .int .i64 x.ix::.string x.lE::fE l:=rfl
theorem Bp(l m:List gL):fE (l++m)=fE l++fE m:=by simp [fE]
theorem nk:∀ (l:List gL) (i:Nat) (h:i<l.length),(fE l)[i*2]?=some (.int .i64 l[i].ix)∧(fE l)[i*2+1]?=some (.string l[i].lE)
 | [],_,h=>absurd h (by simp)
 | x::r,0,_=>⟨rfl,rfl⟩
 | x::r,i+1,h=>by
  have ih:=nk r i (by simpa using h)
  rw [zi,show (i+1)*2=i*2+1+1 by omega]
  simpa using ih
structure Step(F F':Nat→Prop)(w w':World):Prop where
 os:w'.os=w.os
 tape:w'.tape=w.tape
 output:w'.output=w.output
 size:w.heap.size≤w'.heap.size
 block:∀ k,k<w.heap.size→¬ F k→w'.heap[k]?=w.heap[k]?
 sub:∀ k,F' k→F k∨w.heap.size≤k
theorem Step.refl(F:Nat→Prop)(w:World):Step F F w w:=⟨rfl,rfl,rfl,aj _,fun _ _ _=>rfl,fun _ h=>.inl h⟩
theorem Step.trans{F G H:Nat→Prop}{a b c:World}(h:Step F G a b)(k:Step G H b c):Step F H a c :=
 ⟨k.os.trans h.os,k.tape.trans h.tape,k.output.trans h.output,al h.size k.size,fun i hi hn=>(k.block i (ar hi h.size) (fun hg=>(h.sub i hg).elim hn (by omega))).trans (h.block i hi hn),
  fun i hi=>(k.sub i hi).elim (fun hg=>h.sub i hg) (fun hs=>.inr (al h.size hs))⟩
theorem Step.bA{F:Nat→Prop}{w w':World}(h:Below w.heap.size w w'):Step F F w w':=⟨h.os,h.tape,h.output,h.size,fun k hk _=>h.block k hk,fun _ h=>.inl h⟩
theorem Step.below{F F':Nat→Prop}{w w':World}{base:Nat}(h:Step F F' w w')(hF:∀ k,F k→base≤k)(hb:base≤w.heap.size):Below base w w' :=
 ⟨h.os,h.tape,h.output,h.size,fun k hk=>h.block k (ar hk hb) (fun hf=>by have:=hF k hf;omega)⟩
theorem Step.DF{F:Nat→Prop}{w w':World}{r:Option Nat}(h:w.grownBy w' r)(hr:∀ j,r=some j→F j∨w.heap.size≤j):Step F F w w' :=
 ⟨h.os,h.tape,h.output,h.size,fun k hk hn=>h.block k hk (fun e=>(hr k e.symm).elim hn (by omega)),fun _ h=>.inl h⟩
theorem Step.cell{F F':Nat→Prop}{w w':World}(h:Step F F' w w'){a:Addr}{v:Value}(hc:w.cell? a=some v)(hn:¬ F a.block):w'.cell? a=some v :=
 (World.cell?_of_block (a:=a) (h.block a.block (World.block_lt_of_cell? w a hc) hn)).trans hc
theorem below_drewN{B:Nat}{a w:World}(h:Below B a w)(n:Nat):Below B a (w.drewN n):=⟨h.os,h.tape,h.output,h.size,h.block⟩
theorem eA{w:World}{base e size n:Nat}{v:Value}{xs:List Value}(h:w.ownsRow base e size v n xs)(k:Nat)(hk:v.ownBlock=some k):base≤k∧k<w.heap.size∧∃ cur,w.heap[k]?=some (.cells cur e (0,0)):=by
 rcases h.2 with ⟨h',_⟩ | ⟨g,cap,cur,h',hb,hg,_⟩
 ·rw [h'] at hk;simp [Value.ownBlock] at hk
 ·rw [h'] at hk;simp only [Value.ownBlock,Option.some.injEq] at hk;subst hk;exact ⟨hb,(Array.getElem?_eq_some_iff.1 hg).1,cur,hg⟩
theorem eK{w w':World}{b e size n:Nat}{v:Value}{xs:List Value}(ho:w.ownsRow b e size v n xs)(hb:∀ g,v.ownBlock=some g→w'.heap[g]?=w.heap[g]?):w'.ownsRow b e size v n xs:=by
 refine ⟨ho.1,?_⟩;rcases ho.2 with h' | ⟨g,cap,cur,h',h1,hg,hr⟩
 ·exact .inl h'
 ·exact .inr ⟨g,cap,cur,h',h1,(hb g (by rw [h'];rfl)).trans hg,hr⟩
theorem xo{w w':World}{b e size n:Nat}{v:Value}{xs:List Value}(ho:w.ownsRow b e size v n xs)(h:Below w.heap.size w w'):w'.ownsRow b e size v n xs :=
 eK ho fun g hg=>h.block g (eA ho g hg).2.1
theorem tq{w:World}{base e size:Nat}{v:Value}{n:Nat}{xs:List Value}{g cap:Nat}(h:w.ownsRow base e size v n xs)(hv:v = .slice (some ⟨g,0,none⟩) n cap)(i:Nat)(u:Value)(hu:xs[i]?=some u):w.cell? ⟨g,i,none⟩=some u:=by
 rcases h.2 with ⟨h',_⟩ | ⟨g',eP,cur,h',_,hg,_,_,_,ht⟩
 ·rw [h'] at hv;cases hv
 ·rw [h'] at hv;cases hv;rw [cell_of_row _ g i cur e (0,0) hg];rw [← ht,cy] at hu;split at hu
  ·simpa using hu
  ·cases hu
theorem ib{w:World}{base e size n:Nat}{v:Value}{xs:List Value}(h:w.ownsRow base e size v n xs):∃ a c,v = .slice a n c∧(0<n→∃ g,a=some ⟨g,0,none⟩):=by
 rcases h.2 with ⟨h',h0⟩ | ⟨g,cap,cur,h',_⟩
 ·exact ⟨none,0,by rw [h',h0],fun h=>by omega⟩
 ·exact ⟨_,cap,h',fun _=>⟨g,rfl⟩⟩
theorem eh{w:World}{P:Program}{k:TypeId}{R:Value→Option (DataW Unit × List MemPlace)}{m n g:Nat}{D:DataW Unit}{cur:Array Value}{e:TypeId}{fr:Nat × Nat}(h:w.ownsMap P k R m n D)(hg:w.heap[g]?=some (.cells cur e fr)):g≠m:=fun he=>by
 obtain ⟨es,ck,hb,_⟩:=h;rw [he,hb] at hg;cases hg
theorem dJ{w w':World}{P:Program}{k:TypeId}{R:Value→Option (DataW Unit × List MemPlace)}{m n:Nat}{D:DataW Unit}(h:w.ownsMap P k R m n D)(hb:w'.heap[m]?=w.heap[m]?):w'.ownsMap P k R m n D:=by
 obtain ⟨es,ck,h1,r⟩:=h;exact ⟨es,ck,hb.trans h1,r⟩
theorem zk{w:World}{P:Program}{k:TypeId}{R:Value→Option (DataW Unit × List MemPlace)}{m n:Nat}{D:DataW Unit}(h:w.ownsMap P k R m n D):w.ownsMap P k R m (Maps.size D) D:=by
 obtain ⟨es,ck,h1,F,h2,rfl⟩:=h;refine ⟨es,ck,h1,F,?_,rfl⟩;simp [Maps.size,length_sorted]
theorem LN(l:List gL):Maps.size (mH l)=l.length:=by simp [Maps.size,mH]
def rj(w:World)(F:Nat→Prop)(v:Value)(l:List Fy):Prop :=
 (l=[]∧v = .slice none 0 0)∨∃ g off cap cur,∃ fv:List Value,v = .slice (some ⟨g,off,none⟩) l.length cap∧F g∧w.heap[g]?=some (.cells cur 214 (0,0))∧l.length≤cap∧cap≤maxLen∧off+cap*2≤cur.size∧fv.length=l.length ∧
  ∀ i (h:i<l.length) (h':i<fv.length),cur[off+i*2]?=some (.int .i64 l[i].after)∧cur[off+i*2+1]?=some fv[i]∧w.ownsRow 0 303 4 fv[i] l[i].fates.length (LD l[i].fates)∧∀ k,fv[i].ownBlock=some k→F k
def TW(D:DataW Unit)(l:List gL):Prop:=∀ i:Int,Maps.has D (.int .i64 i)=(ez l i).isSome∧∀ k,ez l i=some k→D.atKey (.int .i64 i) (.lit (.int .i64 0)) = .lit (.int .i64 (k:Int))
def jw(d:bq)(mb nb:Nat)(pv av:Value):Array Value:=#[.int .i64 d.size,.map (some mb),pv,.map (some nb),av,.bool d.dead,.int .i64 d.nr,.int .i64 d.nw,.int .i64 d.ns]
structure cZ(w:World)(b:Nat)(F:Nat→Prop)(d:bq)(mb nb:Nat)(pv av:Value)(Dn:DataW Unit):Prop where
 dn:w.heap[b]?=some (.cells (jw d mb nb pv av) 142 (0,0))
 fb:F b
 fm:F mb
 fn:F nb
 ne:mb≠nb
 mapD:w.ownsMap prog 3 tl mb d.eF.length (mH d.eF)
 rS:w.ownsMap prog 3 (plainElem prog 3) nb d.aV.length Dn
 new:TW Dn d.aV
 aV:w.ownsRow 0 93 2 pv d.aV.length (fE d.aV)
 pf:∀ g,pv.ownBlock=some g→F g
 eR:rj w F av d.eR
 ok:d.Ok
 lt:∀ i,F i→i<w.heap.size
def cO(w:World)(b:Nat)(F:Nat→Prop)(d:bq):Prop:=∃ mb nb pv av Dn,cZ w b F d mb nb pv av Dn
theorem rj.block{w w':World}{F:Nat→Prop}{v:Value}{l:List Fy}(h:rj w F v l)(hb:∀ k cur,w.heap[k]?=some (.cells cur 214 (0,0))∨w.heap[k]?=some (.cells cur 303 (0,0))→F k→w'.heap[k]?=w.heap[k]?):rj w' F v l:=by
 rcases h with h | ⟨g,off,cap,cur,fv,h1,h2,h3,h4,h5,h6,h7,h8⟩
 ·exact .inl h
 ·refine .inr ⟨g,off,cap,cur,fv,h1,h2,(hb g cur (.inl h3) h2).trans h3,h4,h5,h6,h7,fun i h h'=>?_⟩
  obtain ⟨k1,k2,k3,k4⟩:=h8 i h h';refine ⟨k1,k2,eK k3 fun k hk=>?_,k4⟩
  obtain ⟨_,_,c,hc⟩:=eA k3 k hk;exact hb k c (.inr hc) (k4 k hk)
theorem rj.imp{w:World}{F G:Nat→Prop}{v:Value}{l:List Fy}(h:rj w F v l)(hf:∀ k,F k→G k):rj w G v l:=by
 rcases h with h | ⟨g,off,cap,cur,fv,h1,h2,h3,h4,h5,h6,h7,h8⟩
 ·exact .inl h
 ·exact .inr ⟨g,off,cap,cur,fv,h1,hf g h2,h3,h4,h5,h6,h7,fun i h h'=>⟨(h8 i h h').1,(h8 i h h').2.1,(h8 i h h').2.2.1,fun k hk=>hf k ((h8 i h h').2.2.2 k hk)⟩⟩
theorem cO.ok{w:World}{b:Nat}{F:Nat→Prop}{d:bq}(h:cO w b F d):d.Ok:=by obtain ⟨_,_,_,_,_,h⟩:=h;exact h.ok
theorem cO.lt{w:World}{b:Nat}{F:Nat→Prop}{d:bq}(h:cO w b F d):∀ i,F i→i<w.heap.size:=by obtain ⟨_,_,_,_,_,h⟩:=h;exact h.lt
theorem cO.fb{w:World}{b:Nat}{F:Nat→Prop}{d:bq}(h:cO w b F d):F b:=by obtain ⟨_,_,_,_,_,h⟩:=h;exact h.fb
theorem cO.keep{w w':World}{b:Nat}{F G G':Nat→Prop}{d:bq}(h:cO w b F d)(hs:Step G G' w w')(hn:∀ k,F k→¬ G k):cO w' b F d:=by
 obtain ⟨mb,nb,pv,av,Dn,h⟩:=h;have hb:∀ k,F k→w'.heap[k]?=w.heap[k]?:=fun k hk=>hs.block k (h.lt k hk) (hn k hk)
 exact ⟨mb,nb,pv,av,Dn,(hb b h.fb).trans h.dn,h.fb,h.fm,h.fn,h.ne,dJ h.mapD (hb mb h.fm),dJ h.rS (hb nb h.fn),h.new,eK h.aV (fun g hg=>hb g (h.pf g hg)),h.pf,
  h.eR.block (fun k _ _ hk=>hb k hk),h.ok,fun i hi=>ar (h.lt i hi) hs.size⟩
theorem cO.below{w w':World}{b:Nat}{F:Nat→Prop}{d:bq}(h:cO w b F d)(hs:Below w.heap.size w w'):cO w' b F d :=
 h.keep (Step.bA (F:=fun _=>False) hs) (fun _ _ h=>h)
theorem cZ.cell{w:World}{b:Nat}{F:Nat→Prop}{d:bq}{mb nb:Nat}{pv av:Value}{Dn:DataW Unit}(h:cZ w b F d mb nb pv av Dn)(j:Nat):w.cell? ⟨b,j,none⟩=(jw d mb nb pv av)[j]?:=cell_of_row w b j _ _ _ h.dn
theorem cZ.frozen{w:World}{b:Nat}{F:Nat→Prop}{d:bq}{mb nb:Nat}{pv av:Value}{Dn:DataW Unit}(h:cZ w b F d mb nb pv av Dn)(j:Nat):w.frozen? ⟨b,j,none⟩=false:=by
 unfold World.frozen?;rw [show w.heap[(⟨b,j,none⟩ : Addr).block]?=_ from h.dn]
 simp
theorem De:∀ (l:List gL) (lo hi:Int),lo≤hi→(∀ x ∈ l,lo≤x.ix∧x.ix<hi)→l.Pairwise (fun x y=>x.ix<y.ix)→(l.length:Int)≤hi - lo
 | [],lo,hi,h0,_,_=>by simp;omega
 | x::r,lo,hi,h0,h,hp=>by
  obtain ⟨h1,h2⟩:=List.pairwise_cons.1 hp;have hx:=h x (by simp)
  have ih:=De r (x.ix+1) hi (by omega) (fun y hy=>⟨by have:=h1 y hy;omega,(h y (by simp [hy])).2⟩) h2
  simp only [List.length_cons];omega
theorem bq.Ok.Tv{d:bq}(h:d.Ok):d.eF.length≤8388615:=by
 have:=De d.eF 0 d.size h.s0 (fun x hx=>⟨(h.eF x hx).1.lo,(h.eF x hx).1.hi⟩) h.rise
 have:=h.s1;omega
structure mS(base:Nat)(A:Nat→Addr)(w:World):Prop where
 arg:w.cell? ⟨0,0,none⟩=some (.iface 360 (.pointer (some (A 0))))
 many:w.cell? ⟨2,0,none⟩=some (.iface 360 (.pointer (some (A 2))))
 dead:w.cell? ⟨7,0,none⟩=some (.iface 360 (.pointer (some (A 7))))
 lo:0<base∧2<base∧7<base
 size:base≤w.heap.size
theorem mS.keep{base:Nat}{A:Nat→Addr}{w w':World}(h:mS base A w)(hb:Below base w w'):mS base A w' :=
 ⟨(World.cell?_of_block (a:=⟨0,0,none⟩) (hb.block _ h.lo.1)).trans h.arg,(World.cell?_of_block (a:=⟨2,0,none⟩) (hb.block _ h.lo.2.1)).trans h.many,(World.cell?_of_block (a:=⟨7,0,none⟩) (hb.block _ h.lo.2.2)).trans h.dead,h.lo,al h.size hb.size⟩
theorem mS.step{base:Nat}{A:Nat→Addr}{w w':World}{F F':Nat→Prop}(h:mS base A w)(hs:Step F F' w w')(hF:∀ k,F k→base≤k):mS base A w':=h.keep (hs.below hF h.size)
theorem Step.ge{F F':Nat→Prop}{w w':World}{base:Nat}(h:Step F F' w w')(hF:∀ k,F k→base≤k)(hb:base≤w.heap.size):∀ k,F' k→base≤k:=fun k hk=>(h.sub k hk).elim (hF k) (fun h'=>al hb h')
theorem DH:TW (.map []) []:=fun i=>⟨rfl,fun k h=>by simp [ez] at h⟩
theorem BB(w:World)(n s:Int)(hs:oT n 0 8388615=s):∃ b F,Ending.returned (Value.pointer (some ⟨w.heap.size+1+1,0,none⟩)) = .returned (.pointer (some ⟨b,0,none⟩))∧cO (((w.alloc (.map #[] 0)).alloc (.map #[] 0)).alloc (.cells #[.int .i64 s,.map (some w.heap.size),.slice none 0 0,.map (some (w.heap.size+1)),.slice none 0 0,.bool false,.int .i64 0,.int .i64 0,.int .i64 0] 142)) b F (iS n)∧Below w.heap.size w (((w.alloc (.map #[] 0)).alloc (.map #[] 0)).alloc (.cells #[.int .i64 s,.map (some w.heap.size),.slice none 0 0,.map (some (w.heap.size+1)),.slice none 0 0,.bool false,.int .i64 0,.int .i64 0,.int .i64 0] 142))∧∀ k,F k→w.heap.size≤k:=by
 have eo:=World.ownsMap_made (H:=Unit) w prog 3 tl;have iw:=World.ownsMap_made (H:=Unit) (w.alloc (.map #[] 0)) prog 3 (plainElem prog 3);refine ⟨w.heap.size+1+1,fun k=>w.heap.size≤k∧k<w.heap.size+3,rfl,⟨w.heap.size,w.heap.size+1,.slice none 0 0,.slice none 0 0,.map [],?_,?_,?_,?_,by omega,?_,?_,DH,World.ownsRow_nil _ _ _ _,fun g hg=>by simp [Value.ownBlock] at hg,.inl ⟨rfl,rfl⟩,KK n,?_⟩,?_,fun k hk=>hk.1⟩
 ·have h:=heap_alloc_new ((w.alloc (.map #[] 0)).alloc (.map #[] 0)) (.cells #[.int .i64 s,.map (some w.heap.size),.slice none 0 0,.map (some (w.heap.size+1)),.slice none 0 0,.bool false,.int .i64 0,.int .i64 0,.int .i64 0] 142);simp only [World.size_alloc] at h;rw [h];simp only [jw,iS,hs]
 ·omega
 ·omega
 ·omega
 ·exact ((eo.alloc _).alloc _)
 ·have:=iw.alloc (.cells #[.int .i64 s,.map (some w.heap.size),.slice none 0 0,.map (some (w.heap.size+1)),.slice none 0 0,.bool false,.int .i64 0,.int .i64 0,.int .i64 0] 142);simp only [World.size_alloc] at this;exact this
 ·intro i hi;simp;omega
 ·exact (((ai w _).alloc (by simp) _).alloc (by simp;omega) _)
theorem vM(n:Int)(w:World):Calls prog 38 #[.int .i64 n] w fun e w'=>∃ b F,e = .returned (.pointer (some ⟨b,0,none⟩))∧cO w' b F (iS n)∧Below w.heap.size w w'∧∀ k,F k→w.heap.size≤k:=by
 have Co:=@run_makeMap prog;go_enter func38,ntmps38;go_wp2_with fail
 ·go_ret;obtain ⟨b,F,h1,h2⟩:=BB w n 0 (by unfold oT;rw [if_pos (by omega)])
  exact ⟨b,h1,F,h2⟩
 ·go_ret;obtain ⟨b,F,h1,h2⟩:=BB w n 8388615 (by unfold oT;rw [if_neg (by omega),if_pos (by omega)])
  exact ⟨b,h1,F,h2⟩
 ·go_ret;obtain ⟨b,F,h1,h2⟩:=BB w n n (by unfold oT;rw [if_neg (by omega),if_neg (by omega)])
  exact ⟨b,h1,F,h2⟩
theorem rA(b:Nat)(F:Nat→Prop)(d:bq)(w:World)(h:cO w b F d):Calls prog 133 #[.pointer (some ⟨b,0,none⟩)] w fun e w'=>e = .returned (.int .i64 d.size)∧w=w':=by
 obtain ⟨mb,nb,pv,av,Dn,h⟩:=h;have c0:w.cell? ⟨b,0,none⟩=some (.int .i64 d.size):=h.cell 0;clear h;go_enter func133,ntmps133;go_wp2;go_ret;exact ⟨rfl,rfl⟩
theorem cZ.set{w:World}{b:Nat}{F:Nat→Prop}{d d':bq}{mb nb:Nat}{pv av:Value}{Dn:DataW Unit}(h:cZ w b F d mb nb pv av Dn)(j:Nat)(u:Value)(hc:(jw d mb nb pv av).setIfInBounds j u=jw d' mb nb pv av)(hd:d'.eF=d.eF)(hp:d'.aV=d.aV)(ha:d'.eR=d.eR)(ho:d'.Ok):cZ (w.setCell ⟨b,j,none⟩ u) b F d' mb nb pv av Dn∧Step F F w (w.setCell ⟨b,j,none⟩ u):=by
 have fi:Step F F w (w.setCell ⟨b,j,none⟩ u):=⟨rfl,rfl,rfl,by simp [World.setCell],fun k _ hn=>Below.heap_setCell w ⟨b,j,none⟩ u k (fun e=>hn (by rw [e];exact h.fb)),fun _ h=>.inl h⟩
 have dK:∀ k,k≠b→(w.setCell ⟨b,j,none⟩ u).heap[k]?=w.heap[k]?:=fun k hk=>Below.heap_setCell w ⟨b,j,none⟩ u k hk
 have zq:∀ k cur e,w.heap[k]?=some (.cells cur e (0,0))→e≠142→k≠b:=fun k cur e hk he hb=>by
  rw [hb,h.dn] at hk;simp only [Option.some.injEq,Obj.cells.injEq] at hk;exact he hk.2.1.symm
 refine ⟨⟨?_,h.fb,h.fm,h.fn,h.ne,?_,?_,by rw [hp];exact h.new,?_,h.pf,?_,ho,fun i hi=>by simpa [World.setCell] using h.lt i hi⟩,fi⟩
 ·unfold World.setCell;simp only [dL,if_true];rw [h.dn];simp only [kC,Option.some.injEq];rw [← hc];rfl
 ·rw [hd];exact dJ h.mapD (dK mb (eh h.mapD h.dn).symm)
 ·rw [hp];exact dJ h.rS (dK nb (eh h.rS h.dn).symm)
 ·rw [hp];exact eK h.aV fun g hg=>by
   obtain ⟨_,_,cur,vA⟩:=eA h.aV g hg;exact dK g (zq g cur _ vA (by decide))
 ·rw [ha];exact h.eR.block fun k cur hk _=>by
   rcases hk with hk | hk
   ·exact dK k (zq k cur _ hk (by decide))
   ·exact dK k (zq k cur _ hk (by decide))
theorem AN(b:Nat)(F:Nat→Prop)(d:bq)(s n:Int)(w:World)(h:cO w b F d)(hn:n<9223372036854775808):Calls prog 41 #[.pointer (some ⟨b,0,none⟩),.int .i64 s,.int .i64 n] w fun e w'=>e = .returned (.bool (d.fits s n))∧w=w':=by
 obtain ⟨mb,nb,pv,av,Dn,h⟩:=h;have c0:w.cell? ⟨b,0,none⟩=some (.int .i64 d.size):=h.cell 0;have s0:=h.ok.s0;have s1:=h.ok.s1;obtain ⟨sz,cx⟩ : ∃ sz,sz=d.size:=⟨_,rfl⟩;rw [← cx] at c0 s0 s1;have HF:Hid (d.fits s n=decide (0≤s∧0≤n∧s≤sz - n)):=(by rw [cx];rfl:d.fits s n=_)
 clear h cx;go_enter func41,ntmps41;by_cases g1:0≤s
 ·by_cases g2:0≤n
  ·have sP:decide (0≤s)=true:=decide_eq_true g1;have Ll:decide (0≤n)=true:=decide_eq_true g2;go_wp2;go_ret;refine ⟨?_,rfl⟩;rw [HF.out];simp [g1,g2]
  ·have sP:decide (0≤s)=true:=decide_eq_true g1;have Ll:decide (0≤n)=false:=decide_eq_false g2;go_wp2;go_ret;refine ⟨?_,rfl⟩;rw [HF.out,decide_eq_false (by omega)]
   rfl
 ·have sP:decide (0≤s)=false:=decide_eq_false g1;go_wp2;go_ret;refine ⟨?_,rfl⟩;rw [HF.out,decide_eq_false (by omega)]
  rfl
theorem cZ.Z7{w w':World}{b:Nat}{F:Nat→Prop}{d:bq}{mb nb n:Nat}{pv av:Value}{Dn:DataW Unit}(h:cZ w b F d mb nb pv av Dn){l:List gL}(hm:w'.ownsMap prog 3 tl mb n (mH l))(hg:w.grownBy w' (some mb))(ho:{ d with eF:=l }.Ok) :
  cZ w' b F { d with eF:=l } mb nb pv av Dn∧Step F F w w':=by
 have dK:∀ k,k<w.heap.size→k≠mb→w'.heap[k]?=w.heap[k]?:=fun k hk hn=>hg.block k hk (fun e=>hn (Option.some.inj e))
 have hc:∀ k (cur:Array Value) (e:TypeId),w.heap[k]?=some (Obj.cells cur e (0,0))→w'.heap[k]?=w.heap[k]?:=fun k cur e hk=>dK k (Array.getElem?_eq_some_iff.1 hk).1 (eh h.mapD hk)
 refine ⟨⟨(hc b _ _ h.dn).trans h.dn,h.fb,h.fm,h.fn,h.ne,?_,dJ h.rS (dK nb h.rS.lt h.ne.symm),h.new,eK h.aV fun g hg=>?_,h.pf,h.eR.block fun k cur hk _=>?_,ho,fun i hi=>ar (h.lt i hi) hg.size⟩,Step.DF hg fun j hj=>.inl (by rw [← Option.some.inj hj];exact h.fm)⟩
 ·have:=zk hm;rwa [LN] at this
 ·obtain ⟨_,_,cur,vA⟩:=eA h.aV g hg;exact hc g cur _ vA
 ·rcases hk with hk | hk
  ·exact hc k cur _ hk
  ·exact hc k cur _ hk
theorem qQ{w w':World}{m:Nat}{a:Addr}{v:Value}(hg:w.grownBy w' (some m))(hc:w.cell? a=some v)(hn:a.block≠m):w'.cell? a=some v :=
 (World.cell?_of_block (a:=a) (hg.block a.block (World.block_lt_of_cell? w a hc) (fun e=>hn (Option.some.inj e)))).trans hc
theorem oP{w w':World}{r:Option Nat}(h:Below w.heap.size w w'):w.grownBy w' r:=⟨h.os,h.tape,h.output,h.size,fun k hk _=>h.block k hk⟩
theorem cZ.step{w w':World}{b:Nat}{F:Nat→Prop}{d:bq}{mb nb:Nat}{pv av:Value}{Dn:DataW Unit}(h:cZ w b F d mb nb pv av Dn)(hg:w.grownBy w' (some mb)):Step F F w w' :=
 Step.DF hg fun j hj=>.inl (by rw [← Option.some.inj hj];exact h.fm)
theorem GJ{w:World}{b:Nat}{F:Nat→Prop}{d:bq}{mb nb:Nat}{pv av:Value}{Dn:DataW Unit}(h:cZ w b F d mb nb pv av Dn)(i:Int)(t:ByteArray)(ht:t.size≤512)(h0:0≤i)(h1:i<d.size):Calls prog 42 #[.pointer (some ⟨b,0,none⟩),.int .i64 i,.string t] w fun e w'=>e = .returned (.tuple #[])∧cZ w' b F { d with eF:=rB d.eF i (pad t) } mb nb pv av Dn∧w.grownBy w' (some mb):=by
 have hs:=h.ok.s1;have hl:=h.ok.Tv;obtain ⟨k1,k2⟩:=Sb h.ok.eF h.ok.rise (i:=i) (t:=pad t) ⟨h0,h1,Dy t ht⟩;refine (KP b mb d.eF.length i t d.eF w (h.cell 1) h.mapD ht h0 (by omega) (by unfold maxLen;omega)).mono ?_
 rintro e w' ⟨rfl,hm,hg⟩;exact ⟨rfl,(h.Z7 hm hg ⟨h.ok.s0,h.ok.s1,k1,k2,h.ok.aV,h.ok.eR⟩).1,hg⟩
theorem LP{w:World}{b:Nat}{F:Nat→Prop}{d:bq}{mb nb:Nat}{pv av:Value}{Dn:DataW Unit}(h:cZ w b F d mb nb pv av Dn) :
  cO (((w.setCell ⟨b,2,none⟩ (.slice none 0 0)).setCell ⟨b,3,none⟩ (.map (some w.heap.size))).alloc (.map #[] 0)) b (fun k=>F k∨k=w.heap.size) { d with aV:=[] } ∧
  Step F (fun k=>F k∨k=w.heap.size) w (((w.setCell ⟨b,2,none⟩ (.slice none 0 0)).setCell ⟨b,3,none⟩ (.map (some w.heap.size))).alloc (.map #[] 0)):=by
 have bP:=(Array.getElem?_eq_some_iff.1 h.dn).1;have cx:((w.setCell ⟨b,2,none⟩ (.slice none 0 0)).setCell ⟨b,3,none⟩ (.map (some w.heap.size))).heap.size=w.heap.size:=by simp [World.setCell]
 have FJ:∀ k,k<w.heap.size→(((w.setCell ⟨b,2,none⟩ (.slice none 0 0)).setCell ⟨b,3,none⟩ (.map (some w.heap.size))).alloc (.map #[] 0)).heap[k]?=((w.setCell ⟨b,2,none⟩ (.slice none 0 0)).setCell ⟨b,3,none⟩ (.map (some w.heap.size))).heap[k]?:=fun k hk =>
  (ai _ _).block k (by rw [cx];exact hk)
 have dK:∀ k,k<w.heap.size→k≠b→(((w.setCell ⟨b,2,none⟩ (.slice none 0 0)).setCell ⟨b,3,none⟩ (.map (some w.heap.size))).alloc (.map #[] 0)).heap[k]?=w.heap[k]?:=fun k hk hn=>by
  rw [FJ k hk,Below.heap_setCell _ ⟨b,3,none⟩ _ k hn,Below.heap_setCell _ ⟨b,2,none⟩ _ k hn]
 have zq:∀ k (cur:Array Value) (e:TypeId),w.heap[k]?=some (Obj.cells cur e (0,0))→e≠142→(((w.setCell ⟨b,2,none⟩ (.slice none 0 0)).setCell ⟨b,3,none⟩ (.map (some w.heap.size))).alloc (.map #[] 0)).heap[k]?=w.heap[k]?:=fun k cur e hk he=>dK k (Array.getElem?_eq_some_iff.1 hk).1 fun hb=>by
  rw [hb,h.dn] at hk;simp only [Option.some.injEq,Obj.cells.injEq] at hk;exact he hk.2.1.symm
 have mx:=World.ownsMap_made (H:=Unit) ((w.setCell ⟨b,2,none⟩ (.slice none 0 0)).setCell ⟨b,3,none⟩ (.map (some w.heap.size))) prog 3 (plainElem prog 3);rw [cx] at mx;refine ⟨⟨mb,w.heap.size,.slice none 0 0,av,.map [],?_,.inl h.fb,.inl h.fm,.inr rfl,?_,dJ h.mapD (dK mb h.mapD.lt (eh h.mapD h.dn).symm),mx,DH,World.ownsRow_nil _ _ _ _,fun g hg=>by simp [Value.ownBlock] at hg,?_,?_,?_⟩,?_⟩
 ·rw [FJ b bP];unfold World.setCell;simp only [dL,if_true];rw [h.dn];rfl
 ·have:=h.mapD.lt;omega
 ·exact (h.eR.block fun k cur hk _=>by
   rcases hk with hk | hk
   ·exact zq k cur _ hk (by decide)
   ·exact zq k cur _ hk (by decide)).imp fun k hk=>.inl hk
 ·exact ⟨h.ok.s0,h.ok.s1,h.ok.eF,h.ok.rise,by simp,h.ok.eR⟩
 ·intro i hi;simp only [World.size_alloc,cx];rcases hi with hi | hi
  ·have:=h.lt i hi;omega
  ·omega
 ·exact ⟨rfl,rfl,rfl,by simp only [World.size_alloc,cx];omega,fun k hk hn=>dK k hk fun e=>hn (by rw [e];exact h.fb),fun k hk=>hk.elim .inl (fun e=>.inr (by omega))⟩
theorem Qj(b:Nat)(F:Nat→Prop)(d:bq)(w:World)(h:cO w b F d):Calls prog 100 #[.pointer (some ⟨b,0,none⟩)] w fun e w'=>e = .returned (.tuple #[])∧cO w' b (fun k=>F k∨k=w.heap.size) { d with aV:=[] }∧Step F (fun k=>F k∨k=w.heap.size) w w':=by
 obtain ⟨mb,nb,pv,av,Dn,h⟩:=h;have c2:w.cell? ⟨b,2,none⟩=some pv:=h.cell 2;have c3:w.cell? ⟨b,3,none⟩=some (.map (some nb)):=h.cell 3;have f2:=h.frozen 2;have f3:=h.frozen 3;have Co:=@run_makeMap prog;have bO:b<w.heap.size:=(Array.getElem?_eq_some_iff.1 h.dn).1;have aO:(w.setCell ⟨b,2,none⟩ (.slice none 0 0)).heap[b]?=some (.cells ((jw d mb nb pv av).setIfInBounds 2 (.slice none 0 0)) 142 (0,0)):=by
  unfold World.setCell;simp only [dL,if_true];rw [h.dn];rfl
 have bF:((w.setCell ⟨b,2,none⟩ (.slice none 0 0)).alloc (.map #[] 0)).heap[b]?=some (.cells ((jw d mb nb pv av).setIfInBounds 2 (.slice none 0 0)) 142 (0,0)) :=
  ((ai _ _).block b (by simpa [World.setCell] using bO)).trans aO
 have d3:((w.setCell ⟨b,2,none⟩ (.slice none 0 0)).alloc (.map #[] 0)).cell? ⟨b,3,none⟩=some (.map (some nb)):=by rw [cell_of_row _ _ _ _ _ _ bF];rfl
 have g3:((w.setCell ⟨b,2,none⟩ (.slice none 0 0)).alloc (.map #[] 0)).frozen? ⟨b,3,none⟩=false:=by
  unfold World.frozen?;rw [show ((w.setCell ⟨b,2,none⟩ (.slice none 0 0)).alloc (.map #[] 0)).heap[(⟨b,3,none⟩ : Addr).block]?=_ from bF]
  simp
 clear aO bF c3 f3;have HH:Hid _:=LP h;clear h;go_enter func100,ntmps100;go_wp2;go_end0
 exact ⟨rfl,HH.out⟩
end S.V
end Go.Proofs.YtihmgigfkmofnaaGreatDoor
