import Derived.Test.YtihmgigfkmofnaaGreatDoorG00
import Derived.Maps.OwnSet
import Derived.Maps.RangeWalk
import Derived.Maps.Ext
import Derived.Lib.BufferWrite
import Derived.ChangeKeysEq
import Derived.Deep.MidRow
import Derived.Deep.WholeRow
import Derived.Laws.CopyOwn
import Derived.Deep.RegionHeld3
import Derived.Deep.QuietTactic
set_option maxHeartbeats 400000
set_option maxRecDepth 100000
open Go.Proofs.Tryz
namespace Go.Proofs.YtihmgigfkmofnaaGreatDoor
namespace S.V
open Go.RowKit
theorem Tryz.info5:(prog.info? 5).map (fun i=>(i.zero,i.size,i.bytes))=some (some (.int .u8 0),1,1):=by kernel_rfl
structure gN where
 ix:Int
 lx:ByteArray
structure MO where
 ix:Int
 kind:Int
 cut:Int
 junk:ByteArray
structure FB where
 after:Int
 fates:List MO
structure bw where
 size:Int
 eN:List gN
 aX:List gN
 eX:List FB
 dead:Bool
 nr:Int
 nw:Int
 ns:Int
def bl(t:ByteArray):List UInt8:=t.data.toList
def GJ(l:List UInt8):ByteArray:=⟨l.toArray⟩
theorem tK(l:List UInt8):bl (GJ l)=l:=by simp [bl,GJ]
theorem GI(t:ByteArray):GJ (bl t)=t:=by simp [bl,GJ]
theorem jP(t:ByteArray):(bl t).length=t.size:=by simp [bl]
theorem ow(l:List UInt8):(GJ l).size=l.length:=by rw [← jP,tK]
theorem B8{s t:ByteArray}(h:bl s=bl t):s=t:=by rw [← GI s,h,GI]
def fD(n:Nat):List UInt8:=List.replicate n 0
theorem jG(n:Nat):(fD n).length=n:=by simp [fD]
def qe:ByteArray:=GJ (fD 512)
theorem sL:qe.size=512:=by rw [qe,ow,jG]
def vq(t:ByteArray):Bool:=decide (bl t=fD t.size)
def pad(t:ByteArray):ByteArray:=GJ (bl t++fD (512 - t.size))
theorem DC(t:ByteArray)(h:t.size≤512):(pad t).size=512:=by rw [pad,ow,ae,jP,jG];omega
theorem Ow(t:ByteArray)(h:t.size=512):pad t=t:=by
 unfold pad;rw [h];simp [fD,GI]
def jC(i:Int)(l:List gN):List gN:=l.filter fun x=>decide (x.ix≠i)
def qA(x:gN):List gN→List gN
 | []=>[x]
 | y::r=>if x.ix<y.ix then x::y::r else y::qA x r
def ri(l:List gN)(i:Int)(t:ByteArray):List gN:=if vq t then jC i l else qA ⟨i,t⟩ (jC i l)
def fB(l:List gN)(i:Int):ByteArray:=match l.find? (fun x=>decide (x.ix=i)) with | some x=>x.lx | none=>qe
def eC:List gN→Int→Option Nat
 | [],_=>none
 | x::r,i=>match eC r i with | some k=>some (k+1) | none=>if x.ix=i then some 0 else none
def gm(d:bw)(i:Int):ByteArray:=match eC d.aX i with | some k=>((d.aX[k]?).map gN.lx).getD qe | none=>fB d.eN i
def oO(n lo hi:Int):Int:=if n<lo then lo else if n > hi then hi else n
def aaT(c:Int):Nat:=(oO c 0 512).toNat
def YH(d:ByteArray)(f:MO):ByteArray:=GJ (((bl d).take (aaT f.cut)++bl f.junk++fD 512).take 512)
def YX(aX eN:List gN)(f:MO):List gN:=match aX[f.ix.toNat]? with
 | some x=>if f.kind=2 then ri eN x.ix x.lx else if f.kind=3 then ri eN x.ix (YH x.lx f) else eN
 | none=>eN
def Bt(aX:List gN):List Int→List gN→List MO→List gN
 | _,eN,[]=>eN
 | seen,eN,f::r=>if f.ix<0∨(aX.length:Int)≤f.ix∨f.ix ∈ seen then Bt aX seen eN r else Bt aX (f.ix::seen) (YX aX eN f) r
def bw.kill(d:bw)(l:List MO):bw:={ d with eN:=Bt d.aX [] d.eN l,aX:=[],dead:=true }
def bw.done(d:bw):bw × Nat:=match d.eX with
 | []=>(d,0)
 | a::r=>if 0<a.after then ({ d with eX:={ a with after:=a.after - 1 }::r },0) else ({ d with eX:=r }.kill a.fates,8)
def chunk(s:Int)(p:List UInt8)(i:Nat):gN:=⟨s+i,GJ ((p.drop (i*512)).take 512)⟩
def chunks(s:Int)(p:List UInt8)(n:Nat):List gN:=(List.range n).map (chunk s p)
theorem uN(s:Int)(p:List UInt8)(n:Nat):chunks s p (n+1)=chunks s p n++[chunk s p n]:=by simp [chunks,List.range_succ]
theorem yz(s:Int)(p:List UInt8)(n:Nat):(chunks s p n).length=n:=by simp [chunks]
def bw.fits(d:bw)(s n:Int):Bool:=decide (0≤s∧0≤n∧s≤d.size - n)
def bw.write(d:bw)(s:Int)(p:List UInt8):bw × Nat :=
 if d.dead then (d,8)
 else if p.length=0∨p.length % 512≠0∨d.fits s (p.length / 512:Nat)=false then (d,1)
 else bw.done { d with aX:=d.aX++chunks s p (p.length / 512),nw:=wrap64 (d.nw+(p.length / 512:Nat)) }
def gR(eN aX:List gN):List gN:=aX.foldl (fun l x=>ri l x.ix x.lx) eN
def bw.sync(d:bw):bw × Nat :=
 if d.dead then (d,8)
 else bw.done { d with eN:=gR d.eN d.aX,aX:=[],ns:=wrap64 (d.ns+1) }
def iQ(d:bw)(s:Int)(n:Nat):List UInt8:=(List.range n).flatMap fun i:Nat=>bl (gm d (s+(i:Int)))
theorem xf(d:bw)(s:Int)(n:Nat):iQ d s (n+1)=iQ d s n++bl (gm d (s+n)):=by simp [iQ,List.range_succ,List.flatMap_append]
def bw.read(d:bw)(s n:Int):bw × List UInt8 × Nat :=
 if d.dead then (d,[],8)
 else if d.fits s n=false then (d,[],1)
 else if 1024<n then (d,[],3)
 else ({ d with nr:=wrap64 (d.nr+n) },iQ d s n.toNat,0)
def iK(n:Int):bw:=⟨oO n 0 8388615,[],[],[],false,0,0,0⟩
structure sj(size:Int)(x:gN):Prop where
 lo:0≤x.ix
 hi:x.ix<size
 len:x.lx.size=512
structure bw.Ok(d:bw):Prop where
 s0:0≤d.size
 s1:d.size≤8388615
 eN:∀ x ∈ d.eN,sj d.size x∧vq x.lx=false
 rise:d.eN.Pairwise fun x y=>x.ix<y.ix
 aX:∀ x ∈ d.aX,sj d.size x
 eX:∀ a ∈ d.eX,0≤a.after∧a.after<9223372036854775808
theorem pD{i:Int}{l:List gN}{x:gN}(h:x ∈ jC i l):x ∈ l∧x.ix≠i:=by simpa [jC] using h
theorem xZ{x y:gN}:∀ {l:List gN},y ∈ qA x l→y=x∨y ∈ l
 | [],h=>by simp [qA] at h;exact .inl h
 | z::r,h=>by
  unfold qA at h;split at h
  ·simpa using h
  ·rcases List.mem_cons.1 h with e | h'
   ·exact .inr (by simp [e])
   ·rcases xZ h' with e | e
    ·exact .inl e
    ·exact .inr (by simp [e])
theorem AK{x:gN}:∀ {l:List gN},l.Pairwise (fun x y=>x.ix<y.ix)→(∀ y ∈ l,y.ix≠x.ix)→(qA x l).Pairwise fun x y=>x.ix<y.ix
 | [],_,_=>by simp [qA]
 | z::r,h,hn=>by
  obtain ⟨h1,h2⟩:=List.pairwise_cons.1 h;unfold qA;split
  ·rename_i bK
   exact List.pairwise_cons.2 ⟨fun y hy=>by
    rcases List.mem_cons.1 hy with e | hy
    ·rw [e];exact bK
    ·exact Int.lt_trans bK (h1 y hy),h⟩
  ·rename_i BS
   have hz:=hn z (by simp)
   refine List.pairwise_cons.2 ⟨fun y hy=>?_,AK h2 fun y hy=>hn y (by simp [hy])⟩
   rcases xZ hy with e | e
   ·rw [e];omega
   ·exact h1 y e
theorem Sv{size:Int}{l:List gN}{i:Int}{t:ByteArray}(h:∀ x ∈ l,sj size x∧vq x.lx=false)(hr:l.Pairwise fun x y=>x.ix<y.ix)(hi:sj size ⟨i,t⟩):(∀ x ∈ ri l i t,sj size x∧vq x.lx=false)∧(ri l i t).Pairwise fun x y=>x.ix<y.ix:=by
 have hd:(jC i l).Pairwise fun x y=>x.ix<y.ix:=hr.sublist List.filter_sublist
 unfold ri;cases hz:vq t
 ·refine ⟨fun x hx=>?_,AK hd fun y hy=>(pD hy).2⟩
  rcases xZ hx with e | e
  ·rw [e];exact ⟨hi,hz⟩
  ·exact h x (pD e).1
 ·exact ⟨fun x hx=>h x (pD hx).1,hd⟩
theorem QJ{size s:Int}{p:List UInt8}{n:Nat}(h0:0≤s)(h1:s≤size - n)(hp:p.length=n*512){i:Nat}(hi:i<n):sj size (chunk s p i):=by
 refine ⟨by simp only [chunk];omega,by simp only [chunk];omega,?_⟩
 rw [chunk,ow,ag,ao,hp];omega
theorem KS(n:Int):(iK n).Ok:=by
 refine ⟨?_,?_,by simp [iK],by simp [iK],by simp [iK],by simp [iK]⟩
 ·simp only [iK,oO];split <;> (try split) <;> omega
 ·simp only [iK,oO];split <;> (try split) <;> omega
theorem rM{size:Int}{l:List gN}(h:∀ x ∈ l,sj size x∧vq x.lx=false)(i:Int):(fB l i).size=512:=by
 unfold fB;cases hf:l.find? (fun x=>decide (x.ix=i)) with
 | none=>exact sL
 | some x=>exact (h x (List.mem_of_find?_eq_some hf)).1.len
theorem kS:∀ {l:List gN} {i:Int} {k:Nat},eC l i=some k→k<l.length
 | [],_,_,h=>by simp [eC] at h
 | x::r,i,k,h=>by
  unfold eC at h;cases hr:eC r i with
  | some j =>
   rw [hr] at h;simp only [Option.some.injEq] at h;have:=kS hr;simp
   omega
  | none =>
   rw [hr] at h;simp only [] at h;split at h
   ·simp only [Option.some.injEq] at h;simp;omega
   ·cases h
theorem zj{d:bw}(h:d.Ok)(i:Int):(gm d i).size=512:=by
 unfold gm;cases hk:eC d.aX i with
 | none=>exact rM h.eN i
 | some k =>
  have bK:=kS hk;simp only [af bK,kx,jA];exact (h.aX _ (aI bK)).len
theorem o8{d:bw}(h:d.Ok)(s:Int):∀ n,(iQ d s n).length=n*512
 | 0=>by simp [iQ]
 | n+1=>by rw [xf,ae,o8 h s n,jP,zj h];omega
theorem lN(l:List gN)(x:gN)(i:Int):eC (l++[x]) i=if x.ix=i then some l.length else eC l i:=by
 induction l with
 | nil=>simp [eC]
 | cons y r ih =>
  simp only [List.cons_append,eC,ih];by_cases h:x.ix=i
  ·simp [h]
  ·simp [h]
open Go.Maps
def arr(t:ByteArray):Value:=.agg (eb (bl t)).toArray
theorem Iz:∀ {a b:List UInt8},eb a=eb b→a=b
 | [],[],_=>rfl
 | [],_::_,h=>by simp [eb] at h
 | _::_,[],h=>by simp [eb] at h
 | x::a,y::b,h=>by
  simp only [eb,List.map_cons,List.cons.injEq,Value.int.injEq,true_and] at h;have e:x=y:=UInt8.toNat_inj.1 (by omega)
  rw [e,Iz h.2]
theorem Uf{s t:ByteArray}(h:arr s=arr t):s=t:=by
 simp only [arr,Value.agg.injEq] at h;exact B8 (Iz (by simpa using congrArg Array.toList h))
open Classical in
noncomputable def sU (v:Value):Option (DataW Unit × List MemPlace):=if h:∃ t:ByteArray,t.size=512∧v=arr t then some (.lit (.string (bl h.choose)),[]) else none
theorem wR{t:ByteArray}(h:t.size=512):sU (arr t)=some (.lit (.string (bl t)),[]):=by
 have hx:∃ s:ByteArray,s.size=512∧arr t=arr s:=⟨t,h,rfl⟩;unfold sU;rw [dif_pos hx,Uf hx.choose_spec.2.symm]
theorem N6{v:Value}{y:DataW Unit × List MemPlace}(h:sU v=some y):∃ t:ByteArray,t.size=512∧v=arr t∧y=(.lit (.string (bl t)),[]):=by
 unfold sU at h;split at h
 ·rename_i hx
  exact ⟨hx.choose,hx.choose_spec.1,hx.choose_spec.2,(Option.some.inj h).symm⟩
 ·cases h
theorem Ea:Keyed prog 3:=int_keyed underlying3
theorem kwf{i:Int}(h0:0≤i)(h1:i<9223372036854775808):(Lit.int .i64 i).wf=true:=WalkArith.wf_i64 (by omega)
theorem Ta{i:Int}(h0:0≤i)(h1:i<9223372036854775808):keyOf prog 3 (.int .i64 i)=some (.int .i64 i):=keyOf_int_mk underlying3 (kwf h0 h1)
def mF(l:List gN):DataW Unit:=.map (l.map fun x=>(.int .i64 x.ix,.lit (.string (bl x.lx))))
theorem uM(i:Int)(l:List gN):(l.map fun x=>((.int .i64 x.ix,.lit (.string (bl x.lx))):Lit × DataW Unit)).filter (fun p=>!p.1.sameKey (.int .i64 i))=(jC i l).map fun x=>(.int .i64 x.ix,.lit (.string (bl x.lx))):=by
 induction l with
 | nil=>rfl
 | cons x r ih =>
  have e:(Lit.int .i64 x.ix).sameKey (.int .i64 i)=decide (x.ix=i):=by simp [Lit.sameKey]
  have e2:jC i (x::r)=if x.ix=i then jC i r else x::jC i r:=by
   by_cases h:x.ix=i
   ·simp [jC,h]
   ·simp [jC,h]
  rw [List.map_cons,List.filter_cons,ih,e2,e];by_cases h:x.ix=i
  ·simp [h]
  ·simp [h]
theorem Qv(i:Int)(t:ByteArray)(l:List gN):DataW.insert ((.int .i64 i,.lit (.string (bl t))):Lit × DataW Unit) (l.map fun x=>(.int .i64 x.ix,.lit (.string (bl x.lx))))=(qA ⟨i,t⟩ l).map fun x=>(.int .i64 x.ix,.lit (.string (bl x.lx))):=by
 induction l with
 | nil=>rfl
 | cons x r ih =>
  simp only [List.map_cons,DataW.insert,qA,Lit.before];by_cases h:i<x.ix
  ·simp [h]
  ·simp [h,ih]
theorem Qu(i:Int)(t:ByteArray)(l:List gN):(mF l).put (.int .i64 i) (.lit (.string (bl t)))=mF (qA ⟨i,t⟩ (jC i l)):=by
 show DataW.map (DataW.insert _ (List.filter _ _))=_
 rw [uM,Qv];rfl
theorem Qx(i:Int)(l:List gN):(mF l).del (.int .i64 i)=mF (jC i l):=by
 show DataW.map (List.filter _ _)=_
 rw [uM];rfl
theorem Qw(i:Int)(l:List gN):Maps.has (mF l) (.int .i64 i)=l.any fun x=>decide (x.ix=i):=by
 show List.any _ _=_
 rw [List.any_map];congr 1
 funext x
 simp [Lit.sameKey]
theorem TX(i:Int)(l:List gN)(z:DataW Unit):(mF l).atKey (.int .i64 i) z=match l.find? (fun x=>decide (x.ix=i)) with | some x=>.lit (.string (bl x.lx)) | none=>z:=by
 have e:((fun p:Lit × DataW Unit=>p.1.sameKey (.int .i64 i)) ∘ fun x:gN=>((.int .i64 x.ix,.lit (.string (bl x.lx))):Lit × DataW Unit))=fun x:gN=>decide (x.ix=i):=by
  funext x;simp [Lit.sameKey]
 unfold mF DataW.atKey;simp only [List.find?_map,e];cases l.find? fun x=>decide (x.ix=i) <;> rfl
theorem yu(w:World)(d:Nat)(xs ys:Array Value)(f g:Nat→Nat):∀ is:List Nat,(∀ i ∈ is,xs[i]?=some (.int .u8 (f i:Int))∧ys[i]?=some (.int .u8 (g i:Int))) →
  (Op.eqItems (d+1) 5 1 xs ys is).run prog w = .ok (is.all fun i=>f i == g i) w
 | [],_=>by simp [Op.eqItems]
 | i::is,h=>by
  obtain ⟨h1,h2⟩:=h i (by simp)
  have ih:=yu w d xs ys f g is fun j hj=>h j (by simp [hj])
  have p1:=run_part_plain (P:=prog) w (e:=5) (by kernel_rfl) h1
  have p2:=run_part_plain (P:=prog) w (e:=5) (by kernel_rfl) h2
  have p3:=run_equalIn_int (P:=prog) w d 5 .u8 .u8 (f i) (g i) underlying5;simp only [Op.eqItems,Sem.run_bind,Nat.mul_one,p1,p2,p3,Result.andThen_ok];by_cases e:f i=g i
  ·simp [e,ih]
  ·have:((f i:Int) == (g i:Int))=false:=by simp;omega
   simp [this,e]
theorem Ug(x y:List UInt8)(n:Nat)(hx:x.length=n)(hy:y.length=n):(∀ i,i<n→(x.getD i 0).toNat=(y.getD i 0).toNat)↔x=y:=by
 constructor
 ·intro e;refine ma (by omega) fun i h1 h2=>?_
  have:=e i (by omega)
  simp only [aE,af h1,af h2,jA] at this;exact UInt8.toNat_inj.1 this
 ·intro e i _;rw [e]
theorem Hv:prog.cellsOf 5=1:=by kernel_rfl
theorem F8:prog.underlying 144=some (.array 512 5):=by kernel_rfl
theorem adT:(prog.info? 5).isSome=true:=by kernel_rfl
theorem Xn(w:World)(x y:List UInt8)(hx:x.length=512)(hy:y.length=512):(binOp .eql 144 (.agg (eb x).toArray) (.agg (eb y).toArray)).run prog w = .ok (.bool (decide (x=y))) w:=by
 obtain ⟨i5,h5⟩:=Option.isSome_iff_exists.1 adT;have h:=run_equalIn_array (P:=prog) w 9999 (eb x).toArray (eb y).toArray F8 h5;rw [Hv,yu w 9998 _ _ (fun i=>(x.getD i 0).toNat) (fun i=>(y.getD i 0).toNat) (List.range 512) (fun i hi=>by
  have hi:=List.mem_range.1 hi;constructor
  ·simp [eb,show i<x.length by omega]
  ·simp [eb,show i<y.length by omega])] at h
 rw [run_eql_struct,h,Result.andThen_ok];generalize hn:512=n at *;have e0:((List.range n).all fun i=>(x.getD i 0).toNat == (y.getD i 0).toNat)=decide (x=y):=by
  rw [kB];simp only [mc,List.mem_range,beq_iff_eq,decide_eq_true_eq];exact Ug x y n hx hy
 rw [e0]
theorem zc:zeroCells144=(eb (fD 512)).toArray:=by kernel_rfl
theorem Bn:(prog.info? 144).map (·.size)=some 512:=by kernel_rfl
theorem uf:(prog.info? 5).map (·.size)=some 1:=by kernel_rfl
theorem zJ(l:List UInt8):Lib.byteCells l=eb l:=rfl
theorem YD(k n:Nat):(eb (fD n)).drop k=eb (fD (n - k)):=by
 rw [eb,eb,fD,fD,oR,oR,nN]
theorem YB(t:ByteArray):(zeroCells144.toList.take 0++Lib.byteCells t.data.toList++zeroCells144.toList.drop (0+t.size)).toArray=(eb (bl (pad t))).toArray:=by
 rw [zc,List.take_zero,List.nil_append,Nat.zero_add,YD,pad,tK,jH];rfl
theorem YE(t:ByteArray)(w:World)(ht:t.size≤512):∃ w2,(Builtin.copy_ #[145,9] 3 #[.slice (some ⟨w.heap.size,0,none⟩) 512 512,.string t]).run prog (w.alloc (.cells zeroCells144 144)) = .ok (goInt t.size) w2∧w2.heap[w.heap.size]?=some (.cells (eb (bl (pad t))).toArray 144 (0,0))∧Below w.heap.size w w2:=by
 have mx:=heap_alloc_new w (.cells zeroCells144 144);have b8:zeroCells144.size=512:=by rw [zc,List.size_toArray,aZ,jG]
 have bq:=Lib.run_copy_row_string (P:=prog) (w.alloc (.cells zeroCells144 144)) 145 9 3 5 w.heap.size 0 512 512 t _ 144 underlying145 uf mx ht (by rw [b8];omega)
 rw [YB] at bq;exact ⟨_,bq,setRow_heap _ w.heap.size _ _ 144 _ mx,below_setRow (ai w _) (aj _) _⟩
theorem YA(w2:World)(g:Nat)(t:ByteArray)(ht:t.size=512)(h:w2.heap[g]?=some (.cells (eb (bl t)).toArray 144 (0,0))):(Instr.loadAt 144 (.pointer (some ⟨g,0,none⟩))).run prog w2 = .ok (arr t) w2:=by
 simp only [Instr.loadAt,Instr.sureAddr,Sem.run_bind,Sem.run_pure,Result.andThen_ok];exact run_loadVar_row (P:=prog) w2 g 144 144 _ _ _ h F8 rfl (by rw [Bn,List.size_toArray,aZ,jP,ht])
theorem VO(w:World)(x y:Operand)(t:ByteArray):(eqGuard .eql 144 x y (arr t) (.agg zeroCells144)).run prog w = .ok () w:=run_eqGuard_agg w .eql 144 x y _ _ (by kernel_rfl)
theorem zeq(w:World)(t:ByteArray)(ht:t.size=512):(binOp .eql 144 (arr t) (.agg zeroCells144)).run prog w = .ok (.bool (vq t)) w:=by
 rw [zc,arr,Xn w _ _ (by rw [jP];exact ht) (jG 512),vq,ht]
theorem nY{P:Program}{ops:Array Oper}{rest:List Oper}{op:Oper}{a:Act}{w:World}{Q:Exit→Act→World→Prop}(nK:op.guard=none)(ty:TypeId)(x:Operand)(ho:op.op = .load ty x)(p v:Value)(hx:a.eval x=p)(bq:(Instr.loadAt ty p).run P w = .ok v w)(h:wpList P ops Q rest (a.put op.dst v) w):wpList P ops Q (op::rest) a w :=
 wpList_plain nK fun _ hK=>by
  unfold Oper.wp execOp;simp only [ho,hx,Sem.run_bind,bq,Result.andThen_ok,Sem.run_pure];exact hK _ _ h
theorem KW(b mb n:Nat)(i:Int)(t:ByteArray)(l:List gN)(w:World)(c1:w.cell? ⟨b,1,none⟩=some (.map (some mb)))(aF:w.ownsMap prog 3 sU mb n (mF l))(ht:t.size≤512)(h0:0≤i)(h1:i<9223372036854775808)(hn:n<maxLen):Calls prog 42 #[.pointer (some ⟨b,0,none⟩),.int .i64 i,.string t] w fun e w'=>e = .returned (.tuple #[])∧w'.ownsMap prog 3 sU mb (n+1) (mF (ri l i (pad t)))∧w.grownBy w' (some mb):=by
 obtain ⟨w2,tn,aS,kh⟩:=YE t w ht;have kt:=DC t ht;have hld:=YA w2 w.heap.size (pad t) kt aS;have heq:=fun w=>zeq w (pad t) kt
 have nK:=fun w x y=>VO w x y (pad t)
 have vo:w.grownBy w2 (some mb):=⟨kh.os,kh.tape,kh.output,kh.size,fun k hk _=>kh.block k hk⟩
 have lQ:=aF.kept (row:=none) ⟨kh.os,kh.tape,kh.output,kh.size,fun k hk _=>kh.block k hk⟩ (by simp)
 have c2:w2.cell? ⟨b,1,none⟩=some (.map (some mb)):=(kh.cell (p:=⟨b,1,none⟩) (World.block_lt_of_cell? w _ c1)).trans c1;have HS:Hid (ri l i (pad t)=if vq (pad t) then jC i l else qA ⟨i,pad t⟩ (jC i l)):=(rfl:ri l i (pad t)=_)
 have hR:=wR kt;obtain ⟨w3,U0,PI,qB⟩:=lQ.drew.store Ea underlying138 hn (Ta h0 h1) hR;have U3:w2.rangeAt w.heap.size 0 (eb (bl (pad t))):=fun j u hu=>by
  rw [cell_of_row _ _ _ _ _ _ aS,Nat.zero_add];simpa using hu
 have hlen:(prog.info? 144).map (·.size)=some (eb (bl (pad t))).length:=by rw [Bn,aZ,jP,kt]
 have Ve:w2.grownBy w3 (some mb):=⟨qB.grown.os,qB.grown.tape,qB.grown.output,qB.grown.size,qB.grown.block⟩;have Cu:b≠mb:=fun e=>by
  obtain ⟨es,ck,hb,_⟩:=lQ;rw [e,World.cell?,hb] at c2;cases c2
 have c3:w3.cell? ⟨b,1,none⟩=some (.map (some mb)):=(World.cell?_of_block (a:=⟨b,1,none⟩) (qB.grown.block b (World.block_lt_of_cell? _ _ c2) (by simpa using Cu))).trans c2
 have zv:w.heap.size≠mb:=fun e=>by have:=aF.lt;omega
 have ZA:w3.rangeAt w.heap.size 0 (eb (bl (pad t))):=fun j u hu=>(World.cell?_of_block (a:=⟨w.heap.size,0+j,none⟩) (qB.grown.block w.heap.size (World.block_lt_of_cell? _ _ (U3 j u hu)) (by simpa using zv))).trans (U3 j u hu)
 unfold arr at hld heq nK hR U0;obtain ⟨cs,fI⟩ : ∃ cs,cs=eb (bl (pad t)):=⟨_,rfl⟩;obtain ⟨p,hp⟩ : ∃ p,p=pad t:=⟨_,rfl⟩;rw [← fI] at hld hR U0 U3 hlen ZA;simp only [← fI] at heq nK;rw [← hp] at HS hR PI ⊢;simp only [← hp] at heq;rw [Qu] at PI;have Za:=F8;clear aF c1 kt hp fI aS;go_enter func42,ntmps42;cases hz:vq p
 ·rw [hz] at heq;go_wp2_with (first | (refine nY rfl 144 _ rfl _ _ rfl hld ?_))
  go_region_held3 (fun w'=>w'.cell? ⟨b,1,none⟩=some (.map (some mb))∧w'.rangeAt w.heap.size 0 cs) (first | exact ⟨c2,U3⟩ | exact ⟨c3,ZA⟩ | go_keep) (fail)
  go_end0
  refine ⟨rfl,?_,vo.andThen Ve (fun j hj=>.inr (by simpa using hj))⟩
  rw [HS.out,hz];exact PI
 ·rw [hz] at heq;go_wp2_with (first | (refine nY rfl 144 _ rfl _ _ rfl hld ?_) | (at_delete;refine wpList_delete_own _ rfl _ _ 138 3 rfl 144 Ea underlying138 _ mb n _ rfl lQ _ _ rfl (Ta h0 h1) ?_;intro w4 Em Wl))
  go_frame
  try simp only [Exit.inBlock,Exit.then]
  refine bodyPost_ret (results_none rfl _ _ _) rfl ?_
  rw [Qx] at Em;refine ⟨rfl,?_,vo.andThen Wl.grown (fun j hj=>.inr (by simpa using hj))⟩
  rw [HS.out,hz];exact Em.mono (Nat.le_succ _)
end S.V
end Go.Proofs.YtihmgigfkmofnaaGreatDoor
namespace Go.Proofs.YtihmgigfkmofnaaGreatDoor
namespace S.V
open Go.RowKit
def gC(A:Nat→Addr)(n:Nat):Value:=if n=0 then .nilIface else .iface 360 (.pointer (some (A (n - 1))))
open Go.Maps
def fF(l:List gN):List Value:=l.flatMap fun x=>[.int .i64 x.ix,.string x.lx]
def LO(l:List MO):List Value:=l.flatMap fun f=>[.int .i64 f.ix,.int .i64 f.kind,.int .i64 f.cut,.string f.junk]
theorem zk(x:gN)(l:List gN):fF (x::l) = .int .i64 x.ix::.string x.lx::fF l:=rfl
theorem Bw(l m:List gN):fF (l++m)=fF l++fF m:=by simp [fF]
theorem nh:∀ (l:List gN) (i:Nat) (h:i<l.length),(fF l)[i*2]?=some (.int .i64 l[i].ix)∧(fF l)[i*2+1]?=some (.string l[i].lx)
 | [],_,h=>absurd h (by simp)
 | x::r,0,_=>⟨rfl,rfl⟩
 | x::r,i+1,h=>by
  have ih:=nh r i (by simpa using h)
  rw [zk,show (i+1)*2=i*2+1+1 by omega]
  simpa using ih
structure Step(F F':Nat→Prop)(w w':World):Prop where
 os:w'.os=w.os
 tape:w'.tape=w.tape
 output:w'.output=w.output
 size:w.heap.size≤w'.heap.size
 block:∀ k,k<w.heap.size→¬ F k→w'.heap[k]?=w.heap[k]?
 sub:∀ k,F' k→F k∨w.heap.size≤k
theorem Step.refl(F:Nat→Prop)(w:World):Step F F w w:=⟨rfl,rfl,rfl,aj _,fun _ _ _=>rfl,fun _ h=>.inl h⟩
theorem Step.trans{F G H:Nat→Prop}{a b c:World}(h:Step F G a b)(k:Step G H b c):Step F H a c :=
 ⟨k.os.trans h.os,k.tape.trans h.tape,k.output.trans h.output,ar h.size k.size,fun i hi hn=>(k.block i (aq hi h.size) (fun hg=>(h.sub i hg).elim hn (by omega))).trans (h.block i hi hn),
  fun i hi=>(k.sub i hi).elim (fun hg=>h.sub i hg) (fun hs=>.inr (ar h.size hs))⟩
theorem Step.bo{F:Nat→Prop}{w w':World}(h:Below w.heap.size w w'):Step F F w w':=⟨h.os,h.tape,h.output,h.size,fun k hk _=>h.block k hk,fun _ h=>.inl h⟩
theorem Step.below{F F':Nat→Prop}{w w':World}{base:Nat}(h:Step F F' w w')(hF:∀ k,F k→base≤k)(hb:base≤w.heap.size):Below base w w' :=
 ⟨h.os,h.tape,h.output,h.size,fun k hk=>h.block k (aq hk hb) (fun hf=>by have:=hF k hf;omega)⟩
theorem Step.DJ{F:Nat→Prop}{w w':World}{r:Option Nat}(h:w.grownBy w' r)(hr:∀ j,r=some j→F j∨w.heap.size≤j):Step F F w w' :=
 ⟨h.os,h.tape,h.output,h.size,fun k hk hn=>h.block k hk (fun e=>(hr k e.symm).elim hn (by omega)),fun _ h=>.inl h⟩
theorem Step.cell{F F':Nat→Prop}{w w':World}(h:Step F F' w w'){a:Addr}{v:Value}(hc:w.cell? a=some v)(hn:¬ F a.block):w'.cell? a=some v :=
 (World.cell?_of_block (a:=a) (h.block a.block (World.block_lt_of_cell? w a hc) hn)).trans hc
theorem below_drewN{B:Nat}{a w:World}(h:Below B a w)(n:Nat):Below B a (w.drewN n):=⟨h.os,h.tape,h.output,h.size,h.block⟩
theorem eD{w:World}{base e size n:Nat}{v:Value}{xs:List Value}(h:w.ownsRow base e size v n xs)(k:Nat)(hk:v.ownBlock=some k):base≤k∧k<w.heap.size∧∃ cur,w.heap[k]?=some (.cells cur e (0,0)):=by
 rcases h.2 with ⟨h',_⟩ | ⟨g,cap,cur,h',hb,hg,_⟩
 ·rw [h'] at hk;simp [Value.ownBlock] at hk
 ·rw [h'] at hk;simp only [Value.ownBlock,Option.some.injEq] at hk;subst hk;exact ⟨hb,(Array.getElem?_eq_some_iff.1 hg).1,cur,hg⟩
theorem fl{w w':World}{b e size n:Nat}{v:Value}{xs:List Value}(ho:w.ownsRow b e size v n xs)(hb:∀ g,v.ownBlock=some g→w'.heap[g]?=w.heap[g]?):w'.ownsRow b e size v n xs:=by
 refine ⟨ho.1,?_⟩;rcases ho.2 with h' | ⟨g,cap,cur,h',h1,hg,hr⟩
 ·exact .inl h'
 ·exact .inr ⟨g,cap,cur,h',h1,(hb g (by rw [h'];rfl)).trans hg,hr⟩
theorem sW{w:World}{base e size:Nat}{v:Value}{n:Nat}{xs:List Value}{g cap:Nat}(h:w.ownsRow base e size v n xs)(hv:v = .slice (some ⟨g,0,none⟩) n cap)(i:Nat)(u:Value)(hu:xs[i]?=some u):w.cell? ⟨g,i,none⟩=some u:=by
 rcases h.2 with ⟨h',_⟩ | ⟨g',eY,cur,h',_,hg,_,_,_,ht⟩
 ·rw [h'] at hv;cases hv
 ·rw [h'] at hv;cases hv;rw [cell_of_row _ g i cur e (0,0) hg];rw [← ht,cJ] at hu;split at hu
  ·simpa using hu
  ·cases hu
theorem ib{w:World}{base e size n:Nat}{v:Value}{xs:List Value}(h:w.ownsRow base e size v n xs):∃ a c,v = .slice a n c∧(0<n→∃ g,a=some ⟨g,0,none⟩):=by
 rcases h.2 with ⟨h',h0⟩ | ⟨g,cap,cur,h',_⟩
 ·exact ⟨none,0,by rw [h',h0],fun h=>by omega⟩
 ·exact ⟨_,cap,h',fun _=>⟨g,rfl⟩⟩
theorem ep{w:World}{P:Program}{k:TypeId}{R:Value→Option (DataW Unit × List MemPlace)}{m n g:Nat}{D:DataW Unit}{cur:Array Value}{e:TypeId}{fr:Nat × Nat}(h:w.ownsMap P k R m n D)(hg:w.heap[g]?=some (.cells cur e fr)):g≠m:=fun he=>by
 obtain ⟨es,ck,hb,_⟩:=h;rw [he,hb] at hg;cases hg
theorem dL{w w':World}{P:Program}{k:TypeId}{R:Value→Option (DataW Unit × List MemPlace)}{m n:Nat}{D:DataW Unit}(h:w.ownsMap P k R m n D)(hb:w'.heap[m]?=w.heap[m]?):w'.ownsMap P k R m n D:=by
 obtain ⟨es,ck,h1,r⟩:=h;exact ⟨es,ck,hb.trans h1,r⟩
theorem zl{w:World}{P:Program}{k:TypeId}{R:Value→Option (DataW Unit × List MemPlace)}{m n:Nat}{D:DataW Unit}(h:w.ownsMap P k R m n D):w.ownsMap P k R m (Maps.size D) D:=by
 obtain ⟨es,ck,h1,F,h2,rfl⟩:=h;refine ⟨es,ck,h1,F,?_,rfl⟩;simp [Maps.size,length_sorted]
theorem LZ(l:List gN):Maps.size (mF l)=l.length:=by simp [Maps.size,mF]
def qS(w:World)(F:Nat→Prop)(v:Value)(l:List FB):Prop :=
 (l=[]∧v = .slice none 0 0)∨∃ g off cap cur,∃ fv:List Value,v = .slice (some ⟨g,off,none⟩) l.length cap∧F g∧w.heap[g]?=some (.cells cur 214 (0,0))∧l.length≤cap∧cap≤maxLen∧off+cap*2≤cur.size∧fv.length=l.length ∧
  ∀ i (h:i<l.length) (h':i<fv.length),cur[off+i*2]?=some (.int .i64 l[i].after)∧cur[off+i*2+1]?=some fv[i]∧w.ownsRow 0 303 4 fv[i] l[i].fates.length (LO l[i].fates)∧∀ k,fv[i].ownBlock=some k→F k
def Up(D:DataW Unit)(l:List gN):Prop:=∀ i:Int,Maps.has D (.int .i64 i)=(eC l i).isSome∧∀ k,eC l i=some k→D.atKey (.int .i64 i) (.lit (.int .i64 0)) = .lit (.int .i64 (k:Int))
def jt(d:bw)(mb nb:Nat)(pv av:Value):Array Value:=#[.int .i64 d.size,.map (some mb),pv,.map (some nb),av,.bool d.dead,.int .i64 d.nr,.int .i64 d.nw,.int .i64 d.ns]
structure cU(w:World)(b:Nat)(F:Nat→Prop)(d:bw)(mb nb:Nat)(pv av:Value)(Dn:DataW Unit):Prop where
 dF:w.heap[b]?=some (.cells (jt d mb nb pv av) 142 (0,0))
 fb:F b
 fm:F mb
 fn:F nb
 ne:mb≠nb
 mapD:w.ownsMap prog 3 sU mb d.eN.length (mF d.eN)
 rD:w.ownsMap prog 3 (plainElem prog 3) nb d.aX.length Dn
 new:Up Dn d.aX
 aX:w.ownsRow 0 93 2 pv d.aX.length (fF d.aX)
 pf:∀ g,pv.ownBlock=some g→F g
 eX:qS w F av d.eX
 ok:d.Ok
 lt:∀ i,F i→i<w.heap.size
def cL(w:World)(b:Nat)(F:Nat→Prop)(d:bw):Prop:=∃ mb nb pv av Dn,cU w b F d mb nb pv av Dn
theorem qS.block{w w':World}{F:Nat→Prop}{v:Value}{l:List FB}(h:qS w F v l)(hb:∀ k cur,w.heap[k]?=some (.cells cur 214 (0,0))∨w.heap[k]?=some (.cells cur 303 (0,0))→F k→w'.heap[k]?=w.heap[k]?):qS w' F v l:=by
 rcases h with h | ⟨g,off,cap,cur,fv,h1,h2,h3,h4,h5,h6,h7,h8⟩
 ·exact .inl h
 ·refine .inr ⟨g,off,cap,cur,fv,h1,h2,(hb g cur (.inl h3) h2).trans h3,h4,h5,h6,h7,fun i h h'=>?_⟩
  obtain ⟨k1,k2,k3,k4⟩:=h8 i h h';refine ⟨k1,k2,fl k3 fun k hk=>?_,k4⟩
  obtain ⟨_,_,c,hc⟩:=eD k3 k hk;exact hb k c (.inr hc) (k4 k hk)
theorem qS.imp{w:World}{F G:Nat→Prop}{v:Value}{l:List FB}(h:qS w F v l)(hf:∀ k,F k→G k):qS w G v l:=by
 rcases h with h | ⟨g,off,cap,cur,fv,h1,h2,h3,h4,h5,h6,h7,h8⟩
 ·exact .inl h
 ·exact .inr ⟨g,off,cap,cur,fv,h1,hf g h2,h3,h4,h5,h6,h7,fun i h h'=>⟨(h8 i h h').1,(h8 i h h').2.1,(h8 i h h').2.2.1,fun k hk=>hf k ((h8 i h h').2.2.2 k hk)⟩⟩
theorem cL.ok{w:World}{b:Nat}{F:Nat→Prop}{d:bw}(h:cL w b F d):d.Ok:=by obtain ⟨_,_,_,_,_,h⟩:=h;exact h.ok
theorem cL.lt{w:World}{b:Nat}{F:Nat→Prop}{d:bw}(h:cL w b F d):∀ i,F i→i<w.heap.size:=by obtain ⟨_,_,_,_,_,h⟩:=h;exact h.lt
theorem cL.fb{w:World}{b:Nat}{F:Nat→Prop}{d:bw}(h:cL w b F d):F b:=by obtain ⟨_,_,_,_,_,h⟩:=h;exact h.fb
theorem cL.keep{w w':World}{b:Nat}{F G G':Nat→Prop}{d:bw}(h:cL w b F d)(hs:Step G G' w w')(hn:∀ k,F k→¬ G k):cL w' b F d:=by
 obtain ⟨mb,nb,pv,av,Dn,h⟩:=h;have hb:∀ k,F k→w'.heap[k]?=w.heap[k]?:=fun k hk=>hs.block k (h.lt k hk) (hn k hk)
 exact ⟨mb,nb,pv,av,Dn,(hb b h.fb).trans h.dF,h.fb,h.fm,h.fn,h.ne,dL h.mapD (hb mb h.fm),dL h.rD (hb nb h.fn),h.new,fl h.aX (fun g hg=>hb g (h.pf g hg)),h.pf,
  h.eX.block (fun k _ _ hk=>hb k hk),h.ok,fun i hi=>aq (h.lt i hi) hs.size⟩
theorem cL.below{w w':World}{b:Nat}{F:Nat→Prop}{d:bw}(h:cL w b F d)(hs:Below w.heap.size w w'):cL w' b F d :=
 h.keep (Step.bo (F:=fun _=>False) hs) (fun _ _ h=>h)
theorem cU.cell{w:World}{b:Nat}{F:Nat→Prop}{d:bw}{mb nb:Nat}{pv av:Value}{Dn:DataW Unit}(h:cU w b F d mb nb pv av Dn)(j:Nat):w.cell? ⟨b,j,none⟩=(jt d mb nb pv av)[j]?:=cell_of_row w b j _ _ _ h.dF
theorem cU.frozen{w:World}{b:Nat}{F:Nat→Prop}{d:bw}{mb nb:Nat}{pv av:Value}{Dn:DataW Unit}(h:cU w b F d mb nb pv av Dn)(j:Nat):w.frozen? ⟨b,j,none⟩=false:=by
 unfold World.frozen?;rw [show w.heap[(⟨b,j,none⟩ : Addr).block]?=_ from h.dF]
 simp
theorem Di:∀ (l:List gN) (lo hi:Int),lo≤hi→(∀ x ∈ l,lo≤x.ix∧x.ix<hi)→l.Pairwise (fun x y=>x.ix<y.ix)→(l.length:Int)≤hi - lo
 | [],lo,hi,h0,_,_=>by simp;omega
 | x::r,lo,hi,h0,h,hp=>by
  obtain ⟨h1,h2⟩:=List.pairwise_cons.1 hp;have hx:=h x (by simp)
  have ih:=Di r (x.ix+1) hi (by omega) (fun y hy=>⟨by have:=h1 y hy;omega,(h y (by simp [hy])).2⟩) h2
  simp only [List.length_cons];omega
theorem bw.Ok.TW{d:bw}(h:d.Ok):d.eN.length≤8388615:=by
 have:=Di d.eN 0 d.size h.s0 (fun x hx=>⟨(h.eN x hx).1.lo,(h.eN x hx).1.hi⟩) h.rise
 have:=h.s1;omega
structure mQ(base:Nat)(A:Nat→Addr)(w:World):Prop where
 arg:w.cell? ⟨0,0,none⟩=some (.iface 360 (.pointer (some (A 0))))
 many:w.cell? ⟨2,0,none⟩=some (.iface 360 (.pointer (some (A 2))))
 dead:w.cell? ⟨7,0,none⟩=some (.iface 360 (.pointer (some (A 7))))
 lo:0<base∧2<base∧7<base
 size:base≤w.heap.size
theorem mQ.keep{base:Nat}{A:Nat→Addr}{w w':World}(h:mQ base A w)(hb:Below base w w'):mQ base A w' :=
 ⟨(World.cell?_of_block (a:=⟨0,0,none⟩) (hb.block _ h.lo.1)).trans h.arg,(World.cell?_of_block (a:=⟨2,0,none⟩) (hb.block _ h.lo.2.1)).trans h.many,(World.cell?_of_block (a:=⟨7,0,none⟩) (hb.block _ h.lo.2.2)).trans h.dead,h.lo,ar h.size hb.size⟩
theorem mQ.step{base:Nat}{A:Nat→Addr}{w w':World}{F F':Nat→Prop}(h:mQ base A w)(hs:Step F F' w w')(hF:∀ k,F k→base≤k):mQ base A w':=h.keep (hs.below hF h.size)
theorem Step.ge{F F':Nat→Prop}{w w':World}{base:Nat}(h:Step F F' w w')(hF:∀ k,F k→base≤k)(hb:base≤w.heap.size):∀ k,F' k→base≤k:=fun k hk=>(h.sub k hk).elim (hF k) (fun h'=>ar hb h')
theorem DK:Up (.map []) []:=fun i=>⟨rfl,fun k h=>by simp [eC] at h⟩
theorem BE(w:World)(n s:Int)(hs:oO n 0 8388615=s):∃ b F,Ending.returned (Value.pointer (some ⟨w.heap.size+1+1,0,none⟩)) = .returned (.pointer (some ⟨b,0,none⟩))∧cL (((w.alloc (.map #[] 0)).alloc (.map #[] 0)).alloc (.cells #[.int .i64 s,.map (some w.heap.size),.slice none 0 0,.map (some (w.heap.size+1)),.slice none 0 0,.bool false,.int .i64 0,.int .i64 0,.int .i64 0] 142)) b F (iK n)∧Below w.heap.size w (((w.alloc (.map #[] 0)).alloc (.map #[] 0)).alloc (.cells #[.int .i64 s,.map (some w.heap.size),.slice none 0 0,.map (some (w.heap.size+1)),.slice none 0 0,.bool false,.int .i64 0,.int .i64 0,.int .i64 0] 142))∧∀ k,F k→w.heap.size≤k:=by
 have fs:=World.ownsMap_made (H:=Unit) w prog 3 sU;have kO:=World.ownsMap_made (H:=Unit) (w.alloc (.map #[] 0)) prog 3 (plainElem prog 3);refine ⟨w.heap.size+1+1,fun k=>w.heap.size≤k∧k<w.heap.size+3,rfl,⟨w.heap.size,w.heap.size+1,.slice none 0 0,.slice none 0 0,.map [],?_,?_,?_,?_,by omega,?_,?_,DK,World.ownsRow_nil _ _ _ _,fun g hg=>by simp [Value.ownBlock] at hg,.inl ⟨rfl,rfl⟩,KS n,?_⟩,?_,fun k hk=>hk.1⟩
 ·have h:=heap_alloc_new ((w.alloc (.map #[] 0)).alloc (.map #[] 0)) (.cells #[.int .i64 s,.map (some w.heap.size),.slice none 0 0,.map (some (w.heap.size+1)),.slice none 0 0,.bool false,.int .i64 0,.int .i64 0,.int .i64 0] 142);simp only [World.size_alloc] at h;rw [h];simp only [jt,iK,hs]
 ·omega
 ·omega
 ·omega
 ·exact ((fs.alloc _).alloc _)
 ·have:=kO.alloc (.cells #[.int .i64 s,.map (some w.heap.size),.slice none 0 0,.map (some (w.heap.size+1)),.slice none 0 0,.bool false,.int .i64 0,.int .i64 0,.int .i64 0] 142);simp only [World.size_alloc] at this;exact this
 ·intro i hi;simp;omega
 ·exact (((ai w _).alloc (by simp) _).alloc (by simp;omega) _)
theorem vL(n:Int)(w:World):Calls prog 38 #[.int .i64 n] w fun e w'=>∃ b F,e = .returned (.pointer (some ⟨b,0,none⟩))∧cL w' b F (iK n)∧Below w.heap.size w w'∧∀ k,F k→w.heap.size≤k:=by
 have Cp:=@run_makeMap prog;go_enter func38,ntmps38;go_wp2_with fail
 ·go_ret;obtain ⟨b,F,h1,h2⟩:=BE w n 0 (by unfold oO;rw [if_pos (by omega)])
  exact ⟨b,h1,F,h2⟩
 ·go_ret;obtain ⟨b,F,h1,h2⟩:=BE w n 8388615 (by unfold oO;rw [if_neg (by omega),if_pos (by omega)])
  exact ⟨b,h1,F,h2⟩
 ·go_ret;obtain ⟨b,F,h1,h2⟩:=BE w n n (by unfold oO;rw [if_neg (by omega),if_neg (by omega)])
  exact ⟨b,h1,F,h2⟩
theorem rh(b:Nat)(F:Nat→Prop)(d:bw)(w:World)(h:cL w b F d):Calls prog 133 #[.pointer (some ⟨b,0,none⟩)] w fun e w'=>e = .returned (.int .i64 d.size)∧w=w':=by
 obtain ⟨mb,nb,pv,av,Dn,h⟩:=h;have c0:w.cell? ⟨b,0,none⟩=some (.int .i64 d.size):=h.cell 0;clear h;go_enter func133,ntmps133;go_wp2;go_ret;exact ⟨rfl,rfl⟩
theorem cU.set{w:World}{b:Nat}{F:Nat→Prop}{d d':bw}{mb nb:Nat}{pv av:Value}{Dn:DataW Unit}(h:cU w b F d mb nb pv av Dn)(j:Nat)(u:Value)(hc:(jt d mb nb pv av).setIfInBounds j u=jt d' mb nb pv av)(hd:d'.eN=d.eN)(hp:d'.aX=d.aX)(ha:d'.eX=d.eX)(ho:d'.Ok):cU (w.setCell ⟨b,j,none⟩ u) b F d' mb nb pv av Dn∧Step F F w (w.setCell ⟨b,j,none⟩ u):=by
 have eK:Step F F w (w.setCell ⟨b,j,none⟩ u):=⟨rfl,rfl,rfl,by simp [World.setCell],fun k _ hn=>Below.heap_setCell w ⟨b,j,none⟩ u k (fun e=>hn (by rw [e];exact h.fb)),fun _ h=>.inl h⟩
 have dH:∀ k,k≠b→(w.setCell ⟨b,j,none⟩ u).heap[k]?=w.heap[k]?:=fun k hk=>Below.heap_setCell w ⟨b,j,none⟩ u k hk
 have zr:∀ k cur e,w.heap[k]?=some (.cells cur e (0,0))→e≠142→k≠b:=fun k cur e hk he hb=>by
  rw [hb,h.dF] at hk;simp only [Option.some.injEq,Obj.cells.injEq] at hk;exact he hk.2.1.symm
 refine ⟨⟨?_,h.fb,h.fm,h.fn,h.ne,?_,?_,by rw [hp];exact h.new,?_,h.pf,?_,ho,fun i hi=>by simpa [World.setCell] using h.lt i hi⟩,eK⟩
 ·unfold World.setCell;simp only [dM,if_true];rw [h.dF];simp only [kx,Option.some.injEq];rw [← hc];rfl
 ·rw [hd];exact dL h.mapD (dH mb (ep h.mapD h.dF).symm)
 ·rw [hp];exact dL h.rD (dH nb (ep h.rD h.dF).symm)
 ·rw [hp];exact fl h.aX fun g hg=>by
   obtain ⟨_,_,cur,oI⟩:=eD h.aX g hg;exact dH g (zr g cur _ oI (by decide))
 ·rw [ha];exact h.eX.block fun k cur hk _=>by
   rcases hk with hk | hk
   ·exact dH k (zr k cur _ hk (by decide))
   ·exact dH k (zr k cur _ hk (by decide))
theorem AR(b:Nat)(F:Nat→Prop)(d:bw)(s n:Int)(w:World)(h:cL w b F d)(hn:n<9223372036854775808):Calls prog 41 #[.pointer (some ⟨b,0,none⟩),.int .i64 s,.int .i64 n] w fun e w'=>e = .returned (.bool (d.fits s n))∧w=w':=by
 obtain ⟨mb,nb,pv,av,Dn,h⟩:=h;have c0:w.cell? ⟨b,0,none⟩=some (.int .i64 d.size):=h.cell 0;have s0:=h.ok.s0;have s1:=h.ok.s1;obtain ⟨sz,b8⟩ : ∃ sz,sz=d.size:=⟨_,rfl⟩;rw [← b8] at c0 s0 s1;have HF:Hid (d.fits s n=decide (0≤s∧0≤n∧s≤sz - n)):=(by rw [b8];rfl:d.fits s n=_)
 clear h b8;go_enter func41,ntmps41;by_cases g1:0≤s
 ·by_cases g2:0≤n
  ·have AV:decide (0≤s)=true:=decide_eq_true g1;have Jo:decide (0≤n)=true:=decide_eq_true g2;go_wp2;go_ret;refine ⟨?_,rfl⟩;rw [HF.out];simp [g1,g2]
  ·have AV:decide (0≤s)=true:=decide_eq_true g1;have Jo:decide (0≤n)=false:=decide_eq_false g2;go_wp2;go_ret;refine ⟨?_,rfl⟩;rw [HF.out,decide_eq_false (by omega)]
   rfl
 ·have AV:decide (0≤s)=false:=decide_eq_false g1;go_wp2;go_ret;refine ⟨?_,rfl⟩;rw [HF.out,decide_eq_false (by omega)]
  rfl
theorem cU.aaS{w w':World}{b:Nat}{F:Nat→Prop}{d:bw}{mb nb n:Nat}{pv av:Value}{Dn:DataW Unit}(h:cU w b F d mb nb pv av Dn){l:List gN}(hm:w'.ownsMap prog 3 sU mb n (mF l))(hg:w.grownBy w' (some mb))(ho:{ d with eN:=l }.Ok) :
  cU w' b F { d with eN:=l } mb nb pv av Dn∧Step F F w w':=by
 have dH:∀ k,k<w.heap.size→k≠mb→w'.heap[k]?=w.heap[k]?:=fun k hk hn=>hg.block k hk (fun e=>hn (Option.some.inj e))
 have hc:∀ k (cur:Array Value) (e:TypeId),w.heap[k]?=some (Obj.cells cur e (0,0))→w'.heap[k]?=w.heap[k]?:=fun k cur e hk=>dH k (Array.getElem?_eq_some_iff.1 hk).1 (ep h.mapD hk)
 refine ⟨⟨(hc b _ _ h.dF).trans h.dF,h.fb,h.fm,h.fn,h.ne,?_,dL h.rD (dH nb h.rD.lt h.ne.symm),h.new,fl h.aX fun g hg=>?_,h.pf,h.eX.block fun k cur hk _=>?_,ho,fun i hi=>aq (h.lt i hi) hg.size⟩,Step.DJ hg fun j hj=>.inl (by rw [← Option.some.inj hj];exact h.fm)⟩
 ·have:=zl hm;rwa [LZ] at this
 ·obtain ⟨_,_,cur,oI⟩:=eD h.aX g hg;exact hc g cur _ oI
 ·rcases hk with hk | hk
  ·exact hc k cur _ hk
  ·exact hc k cur _ hk
theorem qG{w w':World}{m:Nat}{a:Addr}{v:Value}(hg:w.grownBy w' (some m))(hc:w.cell? a=some v)(hn:a.block≠m):w'.cell? a=some v :=
 (World.cell?_of_block (a:=a) (hg.block a.block (World.block_lt_of_cell? w a hc) (fun e=>hn (Option.some.inj e)))).trans hc
theorem oK{w w':World}{r:Option Nat}(h:Below w.heap.size w w'):w.grownBy w' r:=⟨h.os,h.tape,h.output,h.size,fun k hk _=>h.block k hk⟩
theorem cU.step{w w':World}{b:Nat}{F:Nat→Prop}{d:bw}{mb nb:Nat}{pv av:Value}{Dn:DataW Unit}(h:cU w b F d mb nb pv av Dn)(hg:w.grownBy w' (some mb)):Step F F w w' :=
 Step.DJ hg fun j hj=>.inl (by rw [← Option.some.inj hj];exact h.fm)
theorem GM{w:World}{b:Nat}{F:Nat→Prop}{d:bw}{mb nb:Nat}{pv av:Value}{Dn:DataW Unit}(h:cU w b F d mb nb pv av Dn)(i:Int)(t:ByteArray)(ht:t.size≤512)(h0:0≤i)(h1:i<d.size):Calls prog 42 #[.pointer (some ⟨b,0,none⟩),.int .i64 i,.string t] w fun e w'=>e = .returned (.tuple #[])∧cU w' b F { d with eN:=ri d.eN i (pad t) } mb nb pv av Dn∧w.grownBy w' (some mb):=by
 have hs:=h.ok.s1;have hl:=h.ok.TW;obtain ⟨k1,k2⟩:=Sv h.ok.eN h.ok.rise (i:=i) (t:=pad t) ⟨h0,h1,DC t ht⟩;refine (KW b mb d.eN.length i t d.eN w (h.cell 1) h.mapD ht h0 (by omega) (by unfold maxLen;omega)).mono ?_
 rintro e w' ⟨rfl,hm,hg⟩;exact ⟨rfl,(h.aaS hm hg ⟨h.ok.s0,h.ok.s1,k1,k2,h.ok.aX,h.ok.eX⟩).1,hg⟩
theorem L0{w:World}{b:Nat}{F:Nat→Prop}{d:bw}{mb nb:Nat}{pv av:Value}{Dn:DataW Unit}(h:cU w b F d mb nb pv av Dn) :
  cL (((w.setCell ⟨b,2,none⟩ (.slice none 0 0)).setCell ⟨b,3,none⟩ (.map (some w.heap.size))).alloc (.map #[] 0)) b (fun k=>F k∨k=w.heap.size) { d with aX:=[] } ∧
  Step F (fun k=>F k∨k=w.heap.size) w (((w.setCell ⟨b,2,none⟩ (.slice none 0 0)).setCell ⟨b,3,none⟩ (.map (some w.heap.size))).alloc (.map #[] 0)):=by
 have bK:=(Array.getElem?_eq_some_iff.1 h.dF).1;have b8:((w.setCell ⟨b,2,none⟩ (.slice none 0 0)).setCell ⟨b,3,none⟩ (.map (some w.heap.size))).heap.size=w.heap.size:=by simp [World.setCell]
 have FK:∀ k,k<w.heap.size→(((w.setCell ⟨b,2,none⟩ (.slice none 0 0)).setCell ⟨b,3,none⟩ (.map (some w.heap.size))).alloc (.map #[] 0)).heap[k]?=((w.setCell ⟨b,2,none⟩ (.slice none 0 0)).setCell ⟨b,3,none⟩ (.map (some w.heap.size))).heap[k]?:=fun k hk =>
  (ai _ _).block k (by rw [b8];exact hk)
 have dH:∀ k,k<w.heap.size→k≠b→(((w.setCell ⟨b,2,none⟩ (.slice none 0 0)).setCell ⟨b,3,none⟩ (.map (some w.heap.size))).alloc (.map #[] 0)).heap[k]?=w.heap[k]?:=fun k hk hn=>by
  rw [FK k hk,Below.heap_setCell _ ⟨b,3,none⟩ _ k hn,Below.heap_setCell _ ⟨b,2,none⟩ _ k hn]
 have zr:∀ k (cur:Array Value) (e:TypeId),w.heap[k]?=some (Obj.cells cur e (0,0))→e≠142→(((w.setCell ⟨b,2,none⟩ (.slice none 0 0)).setCell ⟨b,3,none⟩ (.map (some w.heap.size))).alloc (.map #[] 0)).heap[k]?=w.heap[k]?:=fun k cur e hk he=>dH k (Array.getElem?_eq_some_iff.1 hk).1 fun hb=>by
  rw [hb,h.dF] at hk;simp only [Option.some.injEq,Obj.cells.injEq] at hk;exact he hk.2.1.symm
 have mx:=World.ownsMap_made (H:=Unit) ((w.setCell ⟨b,2,none⟩ (.slice none 0 0)).setCell ⟨b,3,none⟩ (.map (some w.heap.size))) prog 3 (plainElem prog 3);rw [b8] at mx;refine ⟨⟨mb,w.heap.size,.slice none 0 0,av,.map [],?_,.inl h.fb,.inl h.fm,.inr rfl,?_,dL h.mapD (dH mb h.mapD.lt (ep h.mapD h.dF).symm),mx,DK,World.ownsRow_nil _ _ _ _,fun g hg=>by simp [Value.ownBlock] at hg,?_,?_,?_⟩,?_⟩
 ·rw [FK b bK];unfold World.setCell;simp only [dM,if_true];rw [h.dF];rfl
 ·have:=h.mapD.lt;omega
 ·exact (h.eX.block fun k cur hk _=>by
   rcases hk with hk | hk
   ·exact zr k cur _ hk (by decide)
   ·exact zr k cur _ hk (by decide)).imp fun k hk=>.inl hk
 ·exact ⟨h.ok.s0,h.ok.s1,h.ok.eN,h.ok.rise,by simp,h.ok.eX⟩
 ·intro i hi;simp only [World.size_alloc,b8];rcases hi with hi | hi
  ·have:=h.lt i hi;omega
  ·omega
 ·exact ⟨rfl,rfl,rfl,by simp only [World.size_alloc,b8];omega,fun k hk hn=>dH k hk fun e=>hn (by rw [e];exact h.fb),fun k hk=>hk.elim .inl (fun e=>.inr (by omega))⟩
theorem Qz(b:Nat)(F:Nat→Prop)(d:bw)(w:World)(h:cL w b F d):Calls prog 100 #[.pointer (some ⟨b,0,none⟩)] w fun e w'=>e = .returned (.tuple #[])∧cL w' b (fun k=>F k∨k=w.heap.size) { d with aX:=[] }∧Step F (fun k=>F k∨k=w.heap.size) w w':=by
 obtain ⟨mb,nb,pv,av,Dn,h⟩:=h;have c2:w.cell? ⟨b,2,none⟩=some pv:=h.cell 2;have c3:w.cell? ⟨b,3,none⟩=some (.map (some nb)):=h.cell 3;have f2:=h.frozen 2;have f3:=h.frozen 3;have Cp:=@run_makeMap prog;have bO:b<w.heap.size:=(Array.getElem?_eq_some_iff.1 h.dF).1;have aS:(w.setCell ⟨b,2,none⟩ (.slice none 0 0)).heap[b]?=some (.cells ((jt d mb nb pv av).setIfInBounds 2 (.slice none 0 0)) 142 (0,0)):=by
  unfold World.setCell;simp only [dM,if_true];rw [h.dF];rfl
 have bQ:((w.setCell ⟨b,2,none⟩ (.slice none 0 0)).alloc (.map #[] 0)).heap[b]?=some (.cells ((jt d mb nb pv av).setIfInBounds 2 (.slice none 0 0)) 142 (0,0)) :=
  ((ai _ _).block b (by simpa [World.setCell] using bO)).trans aS
 have d3:((w.setCell ⟨b,2,none⟩ (.slice none 0 0)).alloc (.map #[] 0)).cell? ⟨b,3,none⟩=some (.map (some nb)):=by rw [cell_of_row _ _ _ _ _ _ bQ];rfl
 have g3:((w.setCell ⟨b,2,none⟩ (.slice none 0 0)).alloc (.map #[] 0)).frozen? ⟨b,3,none⟩=false:=by
  unfold World.frozen?;rw [show ((w.setCell ⟨b,2,none⟩ (.slice none 0 0)).alloc (.map #[] 0)).heap[(⟨b,3,none⟩ : Addr).block]?=_ from bQ]
  simp
 clear aS bQ c3 f3;have HH:Hid _:=L0 h;clear h;go_enter func100,ntmps100;go_wp2;go_end0
 exact ⟨rfl,HH.out⟩
end S.V
end Go.Proofs.YtihmgigfkmofnaaGreatDoor
