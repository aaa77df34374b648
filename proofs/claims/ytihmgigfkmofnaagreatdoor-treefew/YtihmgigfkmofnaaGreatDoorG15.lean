import Derived.Test.YtihmgigfkmofnaaGreatDoorG00
import Derived.Maps.OwnSet
import Derived.Maps.RangeWalk
import Derived.Maps.Ext
import Derived.Lib.BufferWrite
import Derived.ChangeKeysEq
import Derived.Deep.MidRow
import Derived.Deep.WholeRow
import Derived.Laws.CopyOwn
import Derived.Deep.RegionHeld3
import Derived.Deep.QuietTactic
set_option maxHeartbeats 400000
set_option maxRecDepth 100000
open Go.Proofs.Tryz
namespace Go.Proofs.YtihmgigfkmofnaaGreatDoor
namespace S.V
open Go.RowKit
theorem Tryz.info5:(prog.info? 5).map (fun i=>(i.zero,i.size,i.bytes))=some (some (.int .u8 0),1,1):=by kernel_rfl
structure gJ where
 ix:Int
 kS:ByteArray
structure Mi where
 ix:Int
 kind:Int
 cut:Int
 junk:ByteArray
structure Fp where
 after:Int
 fates:List Mi
structure bD where
 size:Int
 eF:List gJ
 aS:List gJ
 eQ:List Fp
 dead:Bool
 nr:Int
 nw:Int
 ns:Int
def bl(t:ByteArray):List UInt8:=t.data.toList
def Gz(l:List UInt8):ByteArray:=⟨l.toArray⟩
theorem tU(l:List UInt8):bl (Gz l)=l:=by simp [bl,Gz]
theorem Gy(t:ByteArray):Gz (bl t)=t:=by simp [bl,Gz]
theorem jE(t:ByteArray):(bl t).length=t.size:=by simp [bl]
theorem om(l:List UInt8):(Gz l).size=l.length:=by rw [← jE,tU]
theorem Ca{s t:ByteArray}(h:bl s=bl t):s=t:=by rw [← Gy s,h,Gy]
def fC(n:Nat):List UInt8:=List.replicate n 0
theorem ju(n:Nat):(fC n).length=n:=by simp [fC]
def qg:ByteArray:=Gz (fC 512)
theorem sW:qg.size=512:=by rw [qg,om,ju]
def vr(t:ByteArray):Bool:=decide (bl t=fC t.size)
def pad(t:ByteArray):ByteArray:=Gz (bl t++fC (512 - t.size))
theorem Du(t:ByteArray)(h:t.size≤512):(pad t).size=512:=by rw [pad,om,ae,jE,ju];omega
theorem NQ(t:ByteArray)(h:t.size=512):pad t=t:=by
 unfold pad;rw [h];simp [fC,Gy]
def jr(i:Int)(l:List gJ):List gJ:=l.filter fun x=>decide (x.ix≠i)
def qA(x:gJ):List gJ→List gJ
 | []=>[x]
 | y::r=>if x.ix<y.ix then x::y::r else y::qA x r
def ry(l:List gJ)(i:Int)(t:ByteArray):List gJ:=if vr t then jr i l else qA ⟨i,t⟩ (jr i l)
def fx(l:List gJ)(i:Int):ByteArray:=match l.find? (fun x=>decide (x.ix=i)) with | some x=>x.kS | none=>qg
def ew:List gJ→Int→Option Nat
 | [],_=>none
 | x::r,i=>match ew r i with | some k=>some (k+1) | none=>if x.ix=i then some 0 else none
def gh(d:bD)(i:Int):ByteArray:=match ew d.aS i with | some k=>((d.aS[k]?).map gJ.kS).getD qg | none=>fx d.eF i
def oL(n lo hi:Int):Int:=if n<lo then lo else if n > hi then hi else n
def ZC(c:Int):Nat:=(oL c 0 512).toNat
def XH(d:ByteArray)(f:Mi):ByteArray:=Gz (((bl d).take (ZC f.cut)++bl f.junk++fC 512).take 512)
def XU(aS eF:List gJ)(f:Mi):List gJ:=match aS[f.ix.toNat]? with
 | some x=>if f.kind=2 then ry eF x.ix x.kS else if f.kind=3 then ry eF x.ix (XH x.kS f) else eF
 | none=>eF
def Bp(aS:List gJ):List Int→List gJ→List Mi→List gJ
 | _,eF,[]=>eF
 | seen,eF,f::r=>if f.ix<0∨(aS.length:Int)≤f.ix∨f.ix ∈ seen then Bp aS seen eF r else Bp aS (f.ix::seen) (XU aS eF f) r
def bD.kill(d:bD)(l:List Mi):bD:={ d with eF:=Bp d.aS [] d.eF l,aS:=[],dead:=true }
def bD.done(d:bD):bD × Nat:=match d.eQ with
 | []=>(d,0)
 | a::r=>if 0<a.after then ({ d with eQ:={ a with after:=a.after - 1 }::r },0) else ({ d with eQ:=r }.kill a.fates,8)
def chunk(s:Int)(p:List UInt8)(i:Nat):gJ:=⟨s+i,Gz ((p.drop (i*512)).take 512)⟩
def chunks(s:Int)(p:List UInt8)(n:Nat):List gJ:=(List.range n).map (chunk s p)
theorem uS(s:Int)(p:List UInt8)(n:Nat):chunks s p (n+1)=chunks s p n++[chunk s p n]:=by simp [chunks,List.range_succ]
theorem yw(s:Int)(p:List UInt8)(n:Nat):(chunks s p n).length=n:=by simp [chunks]
def bD.fits(d:bD)(s n:Int):Bool:=decide (0≤s∧0≤n∧s≤d.size - n)
def bD.write(d:bD)(s:Int)(p:List UInt8):bD × Nat :=
 if d.dead then (d,8)
 else if p.length=0∨p.length % 512≠0∨d.fits s (p.length / 512:Nat)=false then (d,1)
 else bD.done { d with aS:=d.aS++chunks s p (p.length / 512),nw:=wrap64 (d.nw+(p.length / 512:Nat)) }
def gO(eF aS:List gJ):List gJ:=aS.foldl (fun l x=>ry l x.ix x.kS) eF
def bD.sync(d:bD):bD × Nat :=
 if d.dead then (d,8)
 else bD.done { d with eF:=gO d.eF d.aS,aS:=[],ns:=wrap64 (d.ns+1) }
def iO(d:bD)(s:Int)(n:Nat):List UInt8:=(List.range n).flatMap fun i:Nat=>bl (gh d (s+(i:Int)))
theorem wY(d:bD)(s:Int)(n:Nat):iO d s (n+1)=iO d s n++bl (gh d (s+n)):=by simp [iO,List.range_succ,List.flatMap_append]
def bD.read(d:bD)(s n:Int):bD × List UInt8 × Nat :=
 if d.dead then (d,[],8)
 else if d.fits s n=false then (d,[],1)
 else if 1024<n then (d,[],3)
 else ({ d with nr:=wrap64 (d.nr+n) },iO d s n.toNat,0)
def iJ(n:Int):bD:=⟨oL n 0 8388615,[],[],[],false,0,0,0⟩
structure sG(size:Int)(x:gJ):Prop where
 lo:0≤x.ix
 hi:x.ix<size
 len:x.kS.size=512
structure bD.Ok(d:bD):Prop where
 s0:0≤d.size
 s1:d.size≤8388615
 eF:∀ x ∈ d.eF,sG d.size x∧vr x.kS=false
 rise:d.eF.Pairwise fun x y=>x.ix<y.ix
 aS:∀ x ∈ d.aS,sG d.size x
 eQ:∀ a ∈ d.eQ,0≤a.after∧a.after<9223372036854775808
theorem pF{i:Int}{l:List gJ}{x:gJ}(h:x ∈ jr i l):x ∈ l∧x.ix≠i:=by simpa [jr] using h
theorem xP{x y:gJ}:∀ {l:List gJ},y ∈ qA x l→y=x∨y ∈ l
 | [],h=>by simp [qA] at h;exact .inl h
 | z::r,h=>by
  unfold qA at h;split at h
  ·simpa using h
  ·rcases List.mem_cons.1 h with e | h'
   ·exact .inr (by simp [e])
   ·rcases xP h' with e | e
    ·exact .inl e
    ·exact .inr (by simp [e])
theorem AE{x:gJ}:∀ {l:List gJ},l.Pairwise (fun x y=>x.ix<y.ix)→(∀ y ∈ l,y.ix≠x.ix)→(qA x l).Pairwise fun x y=>x.ix<y.ix
 | [],_,_=>by simp [qA]
 | z::r,h,hn=>by
  obtain ⟨h1,h2⟩:=List.pairwise_cons.1 h;unfold qA;split
  ·rename_i bX
   exact List.pairwise_cons.2 ⟨fun y hy=>by
    rcases List.mem_cons.1 hy with e | hy
    ·rw [e];exact bX
    ·exact Int.lt_trans bX (h1 y hy),h⟩
  ·rename_i Ep
   have hz:=hn z (by simp)
   refine List.pairwise_cons.2 ⟨fun y hy=>?_,AE h2 fun y hy=>hn y (by simp [hy])⟩
   rcases xP hy with e | e
   ·rw [e];omega
   ·exact h1 y e
theorem RF{size:Int}{l:List gJ}{i:Int}{t:ByteArray}(h:∀ x ∈ l,sG size x∧vr x.kS=false)(hr:l.Pairwise fun x y=>x.ix<y.ix)(hi:sG size ⟨i,t⟩):(∀ x ∈ ry l i t,sG size x∧vr x.kS=false)∧(ry l i t).Pairwise fun x y=>x.ix<y.ix:=by
 have hd:(jr i l).Pairwise fun x y=>x.ix<y.ix:=hr.sublist List.filter_sublist
 unfold ry;cases hz:vr t
 ·refine ⟨fun x hx=>?_,AE hd fun y hy=>(pF hy).2⟩
  rcases xP hx with e | e
  ·rw [e];exact ⟨hi,hz⟩
  ·exact h x (pF e).1
 ·exact ⟨fun x hx=>h x (pF hx).1,hd⟩
theorem P5{size s:Int}{p:List UInt8}{n:Nat}(h0:0≤s)(h1:s≤size - n)(hp:p.length=n*512){i:Nat}(hi:i<n):sG size (chunk s p i):=by
 refine ⟨by simp only [chunk];omega,by simp only [chunk];omega,?_⟩
 rw [chunk,om,ag,ao,hp];omega
theorem Kx(n:Int):(iJ n).Ok:=by
 refine ⟨?_,?_,by simp [iJ],by simp [iJ],by simp [iJ],by simp [iJ]⟩
 ·simp only [iJ,oL];split <;> (try split) <;> omega
 ·simp only [iJ,oL];split <;> (try split) <;> omega
theorem se{size:Int}{l:List gJ}(h:∀ x ∈ l,sG size x∧vr x.kS=false)(i:Int):(fx l i).size=512:=by
 unfold fx;cases hf:l.find? (fun x=>decide (x.ix=i)) with
 | none=>exact sW
 | some x=>exact (h x (List.mem_of_find?_eq_some hf)).1.len
theorem kC:∀ {l:List gJ} {i:Int} {k:Nat},ew l i=some k→k<l.length
 | [],_,_,h=>by simp [ew] at h
 | x::r,i,k,h=>by
  unfold ew at h;cases hr:ew r i with
  | some j =>
   rw [hr] at h;simp only [Option.some.injEq] at h;have:=kC hr;simp
   omega
  | none =>
   rw [hr] at h;simp only [] at h;split at h
   ·simp only [Option.some.injEq] at h;simp;omega
   ·cases h
theorem zr{d:bD}(h:d.Ok)(i:Int):(gh d i).size=512:=by
 unfold gh;cases hk:ew d.aS i with
 | none=>exact se h.eF i
 | some k =>
  have bX:=kC hk;simp only [af bX,jU,lB];exact (h.aS _ (aH bX)).len
theorem pd{d:bD}(h:d.Ok)(s:Int):∀ n,(iO d s n).length=n*512
 | 0=>by simp [iO]
 | n+1=>by rw [wY,ae,pd h s n,jE,zr h];omega
theorem ld(l:List gJ)(x:gJ)(i:Int):ew (l++[x]) i=if x.ix=i then some l.length else ew l i:=by
 induction l with
 | nil=>simp [ew]
 | cons y r ih =>
  simp only [List.cons_append,ew,ih];by_cases h:x.ix=i
  ·simp [h]
  ·simp [h]
open Go.Maps
def arr(t:ByteArray):Value:=.agg (dR (bl t)).toArray
theorem Is:∀ {a b:List UInt8},dR a=dR b→a=b
 | [],[],_=>rfl
 | [],_::_,h=>by simp [dR] at h
 | _::_,[],h=>by simp [dR] at h
 | x::a,y::b,h=>by
  simp only [dR,List.map_cons,List.cons.injEq,Value.int.injEq,true_and] at h;have e:x=y:=UInt8.toNat_inj.1 (by omega)
  rw [e,Is h.2]
theorem Tj{s t:ByteArray}(h:arr s=arr t):s=t:=by
 simp only [arr,Value.agg.injEq] at h;exact Ca (Is (by simpa using congrArg Array.toList h))
open Classical in
noncomputable def tg (v:Value):Option (DataW Unit × List MemPlace):=if h:∃ t:ByteArray,t.size=512∧v=arr t then some (.lit (.string (bl h.choose)),[]) else none
theorem wP{t:ByteArray}(h:t.size=512):tg (arr t)=some (.lit (.string (bl t)),[]):=by
 have hx:∃ s:ByteArray,s.size=512∧arr t=arr s:=⟨t,h,rfl⟩;unfold tg;rw [dif_pos hx,Tj hx.choose_spec.2.symm]
theorem Nv{v:Value}{y:DataW Unit × List MemPlace}(h:tg v=some y):∃ t:ByteArray,t.size=512∧v=arr t∧y=(.lit (.string (bl t)),[]):=by
 unfold tg at h;split at h
 ·rename_i hx
  exact ⟨hx.choose,hx.choose_spec.1,hx.choose_spec.2,(Option.some.inj h).symm⟩
 ·cases h
theorem D3:Keyed prog 3:=int_keyed underlying3
theorem kwf{i:Int}(h0:0≤i)(h1:i<9223372036854775808):(Lit.int .i64 i).wf=true:=WalkArith.wf_i64 (by omega)
theorem Sc{i:Int}(h0:0≤i)(h1:i<9223372036854775808):keyOf prog 3 (.int .i64 i)=some (.int .i64 i):=keyOf_int_mk underlying3 (kwf h0 h1)
def me(l:List gJ):DataW Unit:=.map (l.map fun x=>(.int .i64 x.ix,.lit (.string (bl x.kS))))
theorem uR(i:Int)(l:List gJ):(l.map fun x=>((.int .i64 x.ix,.lit (.string (bl x.kS))):Lit × DataW Unit)).filter (fun p=>!p.1.sameKey (.int .i64 i))=(jr i l).map fun x=>(.int .i64 x.ix,.lit (.string (bl x.kS))):=by
 induction l with
 | nil=>rfl
 | cons x r ih =>
  have e:(Lit.int .i64 x.ix).sameKey (.int .i64 i)=decide (x.ix=i):=by simp [Lit.sameKey]
  have e2:jr i (x::r)=if x.ix=i then jr i r else x::jr i r:=by
   by_cases h:x.ix=i
   ·simp [jr,h]
   ·simp [jr,h]
  rw [List.map_cons,List.filter_cons,ih,e2,e];by_cases h:x.ix=i
  ·simp [h]
  ·simp [h]
theorem PR(i:Int)(t:ByteArray)(l:List gJ):DataW.insert ((.int .i64 i,.lit (.string (bl t))):Lit × DataW Unit) (l.map fun x=>(.int .i64 x.ix,.lit (.string (bl x.kS))))=(qA ⟨i,t⟩ l).map fun x=>(.int .i64 x.ix,.lit (.string (bl x.kS))):=by
 induction l with
 | nil=>rfl
 | cons x r ih =>
  simp only [List.map_cons,DataW.insert,qA,Lit.before];by_cases h:i<x.ix
  ·simp [h]
  ·simp [h,ih]
theorem PQ(i:Int)(t:ByteArray)(l:List gJ):(me l).put (.int .i64 i) (.lit (.string (bl t)))=me (qA ⟨i,t⟩ (jr i l)):=by
 show DataW.map (DataW.insert _ (List.filter _ _))=_
 rw [uR,PR];rfl
theorem PT(i:Int)(l:List gJ):(me l).del (.int .i64 i)=me (jr i l):=by
 show DataW.map (List.filter _ _)=_
 rw [uR];rfl
theorem PS(i:Int)(l:List gJ):Maps.has (me l) (.int .i64 i)=l.any fun x=>decide (x.ix=i):=by
 show List.any _ _=_
 rw [List.any_map];congr 1
 funext x
 simp [Lit.sameKey]
theorem S2(i:Int)(l:List gJ)(z:DataW Unit):(me l).atKey (.int .i64 i) z=match l.find? (fun x=>decide (x.ix=i)) with | some x=>.lit (.string (bl x.kS)) | none=>z:=by
 have e:((fun p:Lit × DataW Unit=>p.1.sameKey (.int .i64 i)) ∘ fun x:gJ=>((.int .i64 x.ix,.lit (.string (bl x.kS))):Lit × DataW Unit))=fun x:gJ=>decide (x.ix=i):=by
  funext x;simp [Lit.sameKey]
 unfold me DataW.atKey;simp only [List.find?_map,e];cases l.find? fun x=>decide (x.ix=i) <;> rfl
theorem yq(w:World)(d:Nat)(xs ys:Array Value)(f g:Nat→Nat):∀ is:List Nat,(∀ i ∈ is,xs[i]?=some (.int .u8 (f i:Int))∧ys[i]?=some (.int .u8 (g i:Int))) →
  (Op.eqItems (d+1) 5 1 xs ys is).run prog w = .ok (is.all fun i=>f i == g i) w
 | [],_=>by simp [Op.eqItems]
 | i::is,h=>by
  obtain ⟨h1,h2⟩:=h i (by simp)
  have ih:=yq w d xs ys f g is fun j hj=>h j (by simp [hj])
  have p1:=run_part_plain (P:=prog) w (e:=5) (by kernel_rfl) h1
  have p2:=run_part_plain (P:=prog) w (e:=5) (by kernel_rfl) h2
  have p3:=run_equalIn_int (P:=prog) w d 5 .u8 .u8 (f i) (g i) underlying5;simp only [Op.eqItems,Sem.run_bind,Nat.mul_one,p1,p2,p3,Result.andThen_ok];by_cases e:f i=g i
  ·simp [e,ih]
  ·have:((f i:Int) == (g i:Int))=false:=by simp;omega
   simp [this,e]
theorem Tk(x y:List UInt8)(n:Nat)(hx:x.length=n)(hy:y.length=n):(∀ i,i<n→(x.getD i 0).toNat=(y.getD i 0).toNat)↔x=y:=by
 constructor
 ·intro e;refine lD (by omega) fun i h1 h2=>?_
  have:=e i (by omega)
  simp only [aJ,af h1,af h2,lB] at this;exact UInt8.toNat_inj.1 this
 ·intro e i _;rw [e]
theorem Hk:prog.cellsOf 5=1:=by kernel_rfl
theorem FV:prog.underlying 144=some (.array 512 5):=by kernel_rfl
theorem acy:(prog.info? 5).isSome=true:=by kernel_rfl
theorem V8(w:World)(x y:List UInt8)(hx:x.length=512)(hy:y.length=512):(binOp .eql 144 (.agg (dR x).toArray) (.agg (dR y).toArray)).run prog w = .ok (.bool (decide (x=y))) w:=by
 obtain ⟨i5,h5⟩:=Option.isSome_iff_exists.1 acy;have h:=run_equalIn_array (P:=prog) w 9999 (dR x).toArray (dR y).toArray FV h5;rw [Hk,yq w 9998 _ _ (fun i=>(x.getD i 0).toNat) (fun i=>(y.getD i 0).toNat) (List.range 512) (fun i hi=>by
  have hi:=List.mem_range.1 hi;constructor
  ·simp [dR,show i<x.length by omega]
  ·simp [dR,show i<y.length by omega])] at h
 rw [run_eql_struct,h,Result.andThen_ok];generalize hn:512=n at *;have e0:((List.range n).all fun i=>(x.getD i 0).toNat == (y.getD i 0).toNat)=decide (x=y):=by
  rw [jZ];simp only [lE,List.mem_range,beq_iff_eq,decide_eq_true_eq];exact Tk x y n hx hy
 rw [e0]
theorem zc:zeroCells144=(dR (fC 512)).toArray:=by kernel_rfl
theorem Bl:(prog.info? 144).map (·.size)=some 512:=by kernel_rfl
theorem uk:(prog.info? 5).map (·.size)=some 1:=by kernel_rfl
theorem zP(l:List UInt8):Lib.byteCells l=dR l:=rfl
theorem XC(k n:Nat):(dR (fC n)).drop k=dR (fC (n - k)):=by
 rw [dR,dR,fC,fC,oQ,oQ,nB]
theorem Xz(t:ByteArray):(zeroCells144.toList.take 0++Lib.byteCells t.data.toList++zeroCells144.toList.drop (0+t.size)).toArray=(dR (bl (pad t))).toArray:=by
 rw [zc,List.take_zero,List.nil_append,Nat.zero_add,XC,pad,tU,jv];rfl
theorem XD(t:ByteArray)(w:World)(ht:t.size≤512):∃ w2,(Builtin.copy_ #[145,9] 3 #[.slice (some ⟨w.heap.size,0,none⟩) 512 512,.string t]).run prog (w.alloc (.cells zeroCells144 144)) = .ok (goInt t.size) w2∧w2.heap[w.heap.size]?=some (.cells (dR (bl (pad t))).toArray 144 (0,0))∧Below w.heap.size w w2:=by
 have oB:=heap_alloc_new w (.cells zeroCells144 144);have cp:zeroCells144.size=512:=by rw [zc,List.size_toArray,a6,ju]
 have bo:=Lib.run_copy_row_string (P:=prog) (w.alloc (.cells zeroCells144 144)) 145 9 3 5 w.heap.size 0 512 512 t _ 144 underlying145 uk oB ht (by rw [cp];omega)
 rw [Xz] at bo;exact ⟨_,bo,setRow_heap _ w.heap.size _ _ 144 _ oB,below_setRow (ai w _) (aj _) _⟩
theorem Xy(w2:World)(g:Nat)(t:ByteArray)(ht:t.size=512)(h:w2.heap[g]?=some (.cells (dR (bl t)).toArray 144 (0,0))):(Instr.loadAt 144 (.pointer (some ⟨g,0,none⟩))).run prog w2 = .ok (arr t) w2:=by
 simp only [Instr.loadAt,Instr.sureAddr,Sem.run_bind,Sem.run_pure,Result.andThen_ok];exact run_loadVar_row (P:=prog) w2 g 144 144 _ _ _ h FV rfl (by rw [Bl,List.size_toArray,a6,jE,ht])
theorem UN(w:World)(x y:Operand)(t:ByteArray):(eqGuard .eql 144 x y (arr t) (.agg zeroCells144)).run prog w = .ok () w:=run_eqGuard_agg w .eql 144 x y _ _ (by kernel_rfl)
theorem zeq(w:World)(t:ByteArray)(ht:t.size=512):(binOp .eql 144 (arr t) (.agg zeroCells144)).run prog w = .ok (.bool (vr t)) w:=by
 rw [zc,arr,V8 w _ _ (by rw [jE];exact ht) (ju 512),vr,ht]
theorem nS{P:Program}{ops:Array Oper}{rest:List Oper}{op:Oper}{a:Act}{w:World}{Q:Exit→Act→World→Prop}(nQ:op.guard=none)(ty:TypeId)(x:Operand)(ho:op.op = .load ty x)(p v:Value)(hx:a.eval x=p)(bo:(Instr.loadAt ty p).run P w = .ok v w)(h:wpList P ops Q rest (a.put op.dst v) w):wpList P ops Q (op::rest) a w :=
 wpList_plain nQ fun _ hK=>by
  unfold Oper.wp execOp;simp only [ho,hx,Sem.run_bind,bo,Result.andThen_ok,Sem.run_pure];exact hK _ _ h
theorem KA(b mb n:Nat)(i:Int)(t:ByteArray)(l:List gJ)(w:World)(c1:w.cell? ⟨b,1,none⟩=some (.map (some mb)))(aD:w.ownsMap prog 3 tg mb n (me l))(ht:t.size≤512)(h0:0≤i)(h1:i<9223372036854775808)(hn:n<maxLen):Calls prog 42 #[.pointer (some ⟨b,0,none⟩),.int .i64 i,.string t] w fun e w'=>e = .returned (.tuple #[])∧w'.ownsMap prog 3 tg mb (n+1) (me (ry l i (pad t)))∧w.grownBy w' (some mb):=by
 obtain ⟨w2,zf,aY,oG⟩:=XD t w ht;have nG:=Du t ht;have hld:=Xy w2 w.heap.size (pad t) nG aY;have heq:=fun w=>zeq w (pad t) nG
 have nQ:=fun w x y=>UN w x y (pad t)
 have zJ:w.grownBy w2 (some mb):=⟨oG.os,oG.tape,oG.output,oG.size,fun k hk _=>oG.block k hk⟩
 have eV:=aD.kept (row:=none) ⟨oG.os,oG.tape,oG.output,oG.size,fun k hk _=>oG.block k hk⟩ (by simp)
 have c2:w2.cell? ⟨b,1,none⟩=some (.map (some mb)):=(oG.cell (p:=⟨b,1,none⟩) (World.block_lt_of_cell? w _ c1)).trans c1;have HS:Hid (ry l i (pad t)=if vr (pad t) then jr i l else qA ⟨i,pad t⟩ (jr i l)):=(rfl:ry l i (pad t)=_)
 have hR:=wP nG;obtain ⟨w3,T3,OX,qB⟩:=eV.drew.store D3 underlying138 hn (Sc h0 h1) hR;have T6:w2.rangeAt w.heap.size 0 (dR (bl (pad t))):=fun j u hu=>by
  rw [cell_of_row _ _ _ _ _ _ aY,Nat.zero_add];simpa using hu
 have hlen:(prog.info? 144).map (·.size)=some (dR (bl (pad t))).length:=by rw [Bl,a6,jE,nG]
 have Ui:w2.grownBy w3 (some mb):=⟨qB.grown.os,qB.grown.tape,qB.grown.output,qB.grown.size,qB.grown.block⟩;have Cw:b≠mb:=fun e=>by
  obtain ⟨es,ck,hb,_⟩:=eV;rw [e,World.cell?,hb] at c2;cases c2
 have c3:w3.cell? ⟨b,1,none⟩=some (.map (some mb)):=(World.cell?_of_block (a:=⟨b,1,none⟩) (qB.grown.block b (World.block_lt_of_cell? _ _ c2) (by simpa using Cw))).trans c2
 have zG:w.heap.size≠mb:=fun e=>by have:=aD.lt;omega
 have Yn:w3.rangeAt w.heap.size 0 (dR (bl (pad t))):=fun j u hu=>(World.cell?_of_block (a:=⟨w.heap.size,0+j,none⟩) (qB.grown.block w.heap.size (World.block_lt_of_cell? _ _ (T6 j u hu)) (by simpa using zG))).trans (T6 j u hu)
 unfold arr at hld heq nQ hR T3;obtain ⟨cs,fG⟩ : ∃ cs,cs=dR (bl (pad t)):=⟨_,rfl⟩;obtain ⟨p,hp⟩ : ∃ p,p=pad t:=⟨_,rfl⟩;rw [← fG] at hld hR T3 T6 hlen Yn;simp only [← fG] at heq nQ;rw [← hp] at HS hR OX ⊢;simp only [← hp] at heq;rw [PQ] at OX;have zE:=FV;clear aD c1 nG hp fG aY;go_enter func42,ntmps42;cases hz:vr p
 ·rw [hz] at heq;go_wp2_with (first | (refine nS rfl 144 _ rfl _ _ rfl hld ?_))
  go_region_held3 (fun w'=>w'.cell? ⟨b,1,none⟩=some (.map (some mb))∧w'.rangeAt w.heap.size 0 cs) (first | exact ⟨c2,T6⟩ | exact ⟨c3,Yn⟩ | go_keep) (fail)
  go_end0
  refine ⟨rfl,?_,zJ.andThen Ui (fun j hj=>.inr (by simpa using hj))⟩
  rw [HS.out,hz];exact OX
 ·rw [hz] at heq;go_wp2_with (first | (refine nS rfl 144 _ rfl _ _ rfl hld ?_) | (at_delete;refine wpList_delete_own _ rfl _ _ 138 3 rfl 144 D3 underlying138 _ mb n _ rfl eV _ _ rfl (Sc h0 h1) ?_;intro w4 Ua Vf))
  go_frame
  try simp only [Exit.inBlock,Exit.then]
  refine bodyPost_ret (results_none rfl _ _ _) rfl ?_
  rw [PT] at Ua;refine ⟨rfl,?_,zJ.andThen Vf.grown (fun j hj=>.inr (by simpa using hj))⟩
  rw [HS.out,hz];exact Ua.mono (Nat.le_succ _)
end S.V
end Go.Proofs.YtihmgigfkmofnaaGreatDoor
namespace Go.Proofs.YtihmgigfkmofnaaGreatDoor
namespace S.V
open Go.RowKit
def im(A:Nat→Addr)(n:Nat):Value:=if n=0 then .nilIface else .iface 360 (.pointer (some (A (n - 1))))
open Go.Maps
def fE(l:List gJ):List Value:=l.flatMap fun x=>[.int .i64 x.ix,.string x.kS]
def Lj(l:List Mi):List Value:=l.flatMap fun f=>[.int .i64 f.ix,.int .i64 f.kind,.int .i64 f.cut,.string f.junk]
theorem zu(x:gJ)(l:List gJ):fE (x::l) = .int .i64 x.ix::.string x.kS::fE l:=rfl
theorem Bt(l m:List gJ):fE (l++m)=fE l++fE m:=by simp [fE]
theorem mM:∀ (l:List gJ) (i:Nat) (h:i<l.length),(fE l)[i*2]?=some (.int .i64 l[i].ix)∧(fE l)[i*2+1]?=some (.string l[i].kS)
 | [],_,h=>absurd h (by simp)
 | x::r,0,_=>⟨rfl,rfl⟩
 | x::r,i+1,h=>by
  have ih:=mM r i (by simpa using h)
  rw [zu,show (i+1)*2=i*2+1+1 by omega]
  simpa using ih
structure Step(F F':Nat→Prop)(w w':World):Prop where
 os:w'.os=w.os
 tape:w'.tape=w.tape
 output:w'.output=w.output
 size:w.heap.size≤w'.heap.size
 block:∀ k,k<w.heap.size→¬ F k→w'.heap[k]?=w.heap[k]?
 sub:∀ k,F' k→F k∨w.heap.size≤k
theorem Step.refl(F:Nat→Prop)(w:World):Step F F w w:=⟨rfl,rfl,rfl,aj _,fun _ _ _=>rfl,fun _ h=>.inl h⟩
theorem Step.trans{F G H:Nat→Prop}{a b c:World}(h:Step F G a b)(k:Step G H b c):Step F H a c :=
 ⟨k.os.trans h.os,k.tape.trans h.tape,k.output.trans h.output,aq h.size k.size,fun i hi hn=>(k.block i (al hi h.size) (fun hg=>(h.sub i hg).elim hn (by omega))).trans (h.block i hi hn),
  fun i hi=>(k.sub i hi).elim (fun hg=>h.sub i hg) (fun hs=>.inr (aq h.size hs))⟩
theorem Step.bx{F:Nat→Prop}{w w':World}(h:Below w.heap.size w w'):Step F F w w':=⟨h.os,h.tape,h.output,h.size,fun k hk _=>h.block k hk,fun _ h=>.inl h⟩
theorem Step.below{F F':Nat→Prop}{w w':World}{base:Nat}(h:Step F F' w w')(hF:∀ k,F k→base≤k)(hb:base≤w.heap.size):Below base w w' :=
 ⟨h.os,h.tape,h.output,h.size,fun k hk=>h.block k (al hk hb) (fun hf=>by have:=hF k hf;omega)⟩
theorem Step.DC{F:Nat→Prop}{w w':World}{r:Option Nat}(h:w.grownBy w' r)(hr:∀ j,r=some j→F j∨w.heap.size≤j):Step F F w w' :=
 ⟨h.os,h.tape,h.output,h.size,fun k hk hn=>h.block k hk (fun e=>(hr k e.symm).elim hn (by omega)),fun _ h=>.inl h⟩
theorem Step.cell{F F':Nat→Prop}{w w':World}(h:Step F F' w w'){a:Addr}{v:Value}(hc:w.cell? a=some v)(hn:¬ F a.block):w'.cell? a=some v :=
 (World.cell?_of_block (a:=a) (h.block a.block (World.block_lt_of_cell? w a hc) hn)).trans hc
theorem below_drewN{B:Nat}{a w:World}(h:Below B a w)(n:Nat):Below B a (w.drewN n):=⟨h.os,h.tape,h.output,h.size,h.block⟩
theorem eA{w:World}{base e size n:Nat}{v:Value}{xs:List Value}(h:w.ownsRow base e size v n xs)(k:Nat)(hk:v.ownBlock=some k):base≤k∧k<w.heap.size∧∃ cur,w.heap[k]?=some (.cells cur e (0,0)):=by
 rcases h.2 with ⟨h',_⟩ | ⟨g,cap,cur,h',hb,hg,_⟩
 ·rw [h'] at hk;simp [Value.ownBlock] at hk
 ·rw [h'] at hk;simp only [Value.ownBlock,Option.some.injEq] at hk;subst hk;exact ⟨hb,(Array.getElem?_eq_some_iff.1 hg).1,cur,hg⟩
theorem eK{w w':World}{b e size n:Nat}{v:Value}{xs:List Value}(ho:w.ownsRow b e size v n xs)(hb:∀ g,v.ownBlock=some g→w'.heap[g]?=w.heap[g]?):w'.ownsRow b e size v n xs:=by
 refine ⟨ho.1,?_⟩;rcases ho.2 with h' | ⟨g,cap,cur,h',h1,hg,hr⟩
 ·exact .inl h'
 ·exact .inr ⟨g,cap,cur,h',h1,(hb g (by rw [h'];rfl)).trans hg,hr⟩
theorem xo{w w':World}{b e size n:Nat}{v:Value}{xs:List Value}(ho:w.ownsRow b e size v n xs)(h:Below w.heap.size w w'):w'.ownsRow b e size v n xs :=
 eK ho fun g hg=>h.block g (eA ho g hg).2.1
theorem tk{w:World}{base e size:Nat}{v:Value}{n:Nat}{xs:List Value}{g cap:Nat}(h:w.ownsRow base e size v n xs)(hv:v = .slice (some ⟨g,0,none⟩) n cap)(i:Nat)(u:Value)(hu:xs[i]?=some u):w.cell? ⟨g,i,none⟩=some u:=by
 rcases h.2 with ⟨h',_⟩ | ⟨g',eO,cur,h',_,hg,_,_,_,ht⟩
 ·rw [h'] at hv;cases hv
 ·rw [h'] at hv;cases hv;rw [cell_of_row _ g i cur e (0,0) hg];rw [← ht,b7] at hu;split at hu
  ·simpa using hu
  ·cases hu
theorem ia{w:World}{base e size n:Nat}{v:Value}{xs:List Value}(h:w.ownsRow base e size v n xs):∃ a c,v = .slice a n c∧(0<n→∃ g,a=some ⟨g,0,none⟩):=by
 rcases h.2 with ⟨h',h0⟩ | ⟨g,cap,cur,h',_⟩
 ·exact ⟨none,0,by rw [h',h0],fun h=>by omega⟩
 ·exact ⟨_,cap,h',fun _=>⟨g,rfl⟩⟩
theorem dZ{w:World}{P:Program}{k:TypeId}{R:Value→Option (DataW Unit × List MemPlace)}{m n g:Nat}{D:DataW Unit}{cur:Array Value}{e:TypeId}{fr:Nat × Nat}(h:w.ownsMap P k R m n D)(hg:w.heap[g]?=some (.cells cur e fr)):g≠m:=fun he=>by
 obtain ⟨es,ck,hb,_⟩:=h;rw [he,hb] at hg;cases hg
theorem dE{w w':World}{P:Program}{k:TypeId}{R:Value→Option (DataW Unit × List MemPlace)}{m n:Nat}{D:DataW Unit}(h:w.ownsMap P k R m n D)(hb:w'.heap[m]?=w.heap[m]?):w'.ownsMap P k R m n D:=by
 obtain ⟨es,ck,h1,r⟩:=h;exact ⟨es,ck,hb.trans h1,r⟩
theorem zv{w:World}{P:Program}{k:TypeId}{R:Value→Option (DataW Unit × List MemPlace)}{m n:Nat}{D:DataW Unit}(h:w.ownsMap P k R m n D):w.ownsMap P k R m (Maps.size D) D:=by
 obtain ⟨es,ck,h1,F,h2,rfl⟩:=h;refine ⟨es,ck,h1,F,?_,rfl⟩;simp [Maps.size,length_sorted]
theorem Ls(l:List gJ):Maps.size (me l)=l.length:=by simp [Maps.size,me]
def rf(w:World)(F:Nat→Prop)(v:Value)(l:List Fp):Prop :=
 (l=[]∧v = .slice none 0 0)∨∃ g off cap cur,∃ fv:List Value,v = .slice (some ⟨g,off,none⟩) l.length cap∧F g∧w.heap[g]?=some (.cells cur 214 (0,0))∧l.length≤cap∧cap≤maxLen∧off+cap*2≤cur.size∧fv.length=l.length ∧
  ∀ i (h:i<l.length) (h':i<fv.length),cur[off+i*2]?=some (.int .i64 l[i].after)∧cur[off+i*2+1]?=some fv[i]∧w.ownsRow 0 303 4 fv[i] l[i].fates.length (Lj l[i].fates)∧∀ k,fv[i].ownBlock=some k→F k
def Tq(D:DataW Unit)(l:List gJ):Prop:=∀ i:Int,Maps.has D (.int .i64 i)=(ew l i).isSome∧∀ k,ew l i=some k→D.atKey (.int .i64 i) (.lit (.int .i64 0)) = .lit (.int .i64 (k:Int))
def je(d:bD)(mb nb:Nat)(pv av:Value):Array Value:=#[.int .i64 d.size,.map (some mb),pv,.map (some nb),av,.bool d.dead,.int .i64 d.nr,.int .i64 d.nw,.int .i64 d.ns]
structure cV(w:World)(b:Nat)(F:Nat→Prop)(d:bD)(mb nb:Nat)(pv av:Value)(Dn:DataW Unit):Prop where
 dy:w.heap[b]?=some (.cells (je d mb nb pv av) 142 (0,0))
 fb:F b
 fm:F mb
 fn:F nb
 ne:mb≠nb
 mapD:w.ownsMap prog 3 tg mb d.eF.length (me d.eF)
 rS:w.ownsMap prog 3 (plainElem prog 3) nb d.aS.length Dn
 new:Tq Dn d.aS
 aS:w.ownsRow 0 93 2 pv d.aS.length (fE d.aS)
 pf:∀ g,pv.ownBlock=some g→F g
 eQ:rf w F av d.eQ
 ok:d.Ok
 lt:∀ i,F i→i<w.heap.size
def cM(w:World)(b:Nat)(F:Nat→Prop)(d:bD):Prop:=∃ mb nb pv av Dn,cV w b F d mb nb pv av Dn
theorem rf.block{w w':World}{F:Nat→Prop}{v:Value}{l:List Fp}(h:rf w F v l)(hb:∀ k cur,w.heap[k]?=some (.cells cur 214 (0,0))∨w.heap[k]?=some (.cells cur 303 (0,0))→F k→w'.heap[k]?=w.heap[k]?):rf w' F v l:=by
 rcases h with h | ⟨g,off,cap,cur,fv,h1,h2,h3,h4,h5,h6,h7,h8⟩
 ·exact .inl h
 ·refine .inr ⟨g,off,cap,cur,fv,h1,h2,(hb g cur (.inl h3) h2).trans h3,h4,h5,h6,h7,fun i h h'=>?_⟩
  obtain ⟨k1,k2,k3,k4⟩:=h8 i h h';refine ⟨k1,k2,eK k3 fun k hk=>?_,k4⟩
  obtain ⟨_,_,c,hc⟩:=eA k3 k hk;exact hb k c (.inr hc) (k4 k hk)
theorem rf.imp{w:World}{F G:Nat→Prop}{v:Value}{l:List Fp}(h:rf w F v l)(hf:∀ k,F k→G k):rf w G v l:=by
 rcases h with h | ⟨g,off,cap,cur,fv,h1,h2,h3,h4,h5,h6,h7,h8⟩
 ·exact .inl h
 ·exact .inr ⟨g,off,cap,cur,fv,h1,hf g h2,h3,h4,h5,h6,h7,fun i h h'=>⟨(h8 i h h').1,(h8 i h h').2.1,(h8 i h h').2.2.1,fun k hk=>hf k ((h8 i h h').2.2.2 k hk)⟩⟩
theorem cM.ok{w:World}{b:Nat}{F:Nat→Prop}{d:bD}(h:cM w b F d):d.Ok:=by obtain ⟨_,_,_,_,_,h⟩:=h;exact h.ok
theorem cM.lt{w:World}{b:Nat}{F:Nat→Prop}{d:bD}(h:cM w b F d):∀ i,F i→i<w.heap.size:=by obtain ⟨_,_,_,_,_,h⟩:=h;exact h.lt
theorem cM.fb{w:World}{b:Nat}{F:Nat→Prop}{d:bD}(h:cM w b F d):F b:=by obtain ⟨_,_,_,_,_,h⟩:=h;exact h.fb
theorem cM.keep{w w':World}{b:Nat}{F G G':Nat→Prop}{d:bD}(h:cM w b F d)(hs:Step G G' w w')(hn:∀ k,F k→¬ G k):cM w' b F d:=by
 obtain ⟨mb,nb,pv,av,Dn,h⟩:=h;have hb:∀ k,F k→w'.heap[k]?=w.heap[k]?:=fun k hk=>hs.block k (h.lt k hk) (hn k hk)
 exact ⟨mb,nb,pv,av,Dn,(hb b h.fb).trans h.dy,h.fb,h.fm,h.fn,h.ne,dE h.mapD (hb mb h.fm),dE h.rS (hb nb h.fn),h.new,eK h.aS (fun g hg=>hb g (h.pf g hg)),h.pf,
  h.eQ.block (fun k _ _ hk=>hb k hk),h.ok,fun i hi=>al (h.lt i hi) hs.size⟩
theorem cM.below{w w':World}{b:Nat}{F:Nat→Prop}{d:bD}(h:cM w b F d)(hs:Below w.heap.size w w'):cM w' b F d :=
 h.keep (Step.bx (F:=fun _=>False) hs) (fun _ _ h=>h)
theorem cV.cell{w:World}{b:Nat}{F:Nat→Prop}{d:bD}{mb nb:Nat}{pv av:Value}{Dn:DataW Unit}(h:cV w b F d mb nb pv av Dn)(j:Nat):w.cell? ⟨b,j,none⟩=(je d mb nb pv av)[j]?:=cell_of_row w b j _ _ _ h.dy
theorem cV.frozen{w:World}{b:Nat}{F:Nat→Prop}{d:bD}{mb nb:Nat}{pv av:Value}{Dn:DataW Unit}(h:cV w b F d mb nb pv av Dn)(j:Nat):w.frozen? ⟨b,j,none⟩=false:=by
 unfold World.frozen?;rw [show w.heap[(⟨b,j,none⟩ : Addr).block]?=_ from h.dy]
 simp
theorem Df:∀ (l:List gJ) (lo hi:Int),lo≤hi→(∀ x ∈ l,lo≤x.ix∧x.ix<hi)→l.Pairwise (fun x y=>x.ix<y.ix)→(l.length:Int)≤hi - lo
 | [],lo,hi,h0,_,_=>by simp;omega
 | x::r,lo,hi,h0,h,hp=>by
  obtain ⟨h1,h2⟩:=List.pairwise_cons.1 hp;have hx:=h x (by simp)
  have ih:=Df r (x.ix+1) hi (by omega) (fun y hy=>⟨by have:=h1 y hy;omega,(h y (by simp [hy])).2⟩) h2
  simp only [List.length_cons];omega
theorem bD.Ok.S1{d:bD}(h:d.Ok):d.eF.length≤8388615:=by
 have:=Df d.eF 0 d.size h.s0 (fun x hx=>⟨(h.eF x hx).1.lo,(h.eF x hx).1.hi⟩) h.rise
 have:=h.s1;omega
structure mw(base:Nat)(A:Nat→Addr)(w:World):Prop where
 arg:w.cell? ⟨0,0,none⟩=some (.iface 360 (.pointer (some (A 0))))
 many:w.cell? ⟨2,0,none⟩=some (.iface 360 (.pointer (some (A 2))))
 dead:w.cell? ⟨7,0,none⟩=some (.iface 360 (.pointer (some (A 7))))
 lo:0<base∧2<base∧7<base
 size:base≤w.heap.size
theorem mw.keep{base:Nat}{A:Nat→Addr}{w w':World}(h:mw base A w)(hb:Below base w w'):mw base A w' :=
 ⟨(World.cell?_of_block (a:=⟨0,0,none⟩) (hb.block _ h.lo.1)).trans h.arg,(World.cell?_of_block (a:=⟨2,0,none⟩) (hb.block _ h.lo.2.1)).trans h.many,(World.cell?_of_block (a:=⟨7,0,none⟩) (hb.block _ h.lo.2.2)).trans h.dead,h.lo,aq h.size hb.size⟩
theorem mw.step{base:Nat}{A:Nat→Addr}{w w':World}{F F':Nat→Prop}(h:mw base A w)(hs:Step F F' w w')(hF:∀ k,F k→base≤k):mw base A w':=h.keep (hs.below hF h.size)
theorem Step.ge{F F':Nat→Prop}{w w':World}{base:Nat}(h:Step F F' w w')(hF:∀ k,F k→base≤k)(hb:base≤w.heap.size):∀ k,F' k→base≤k:=fun k hk=>(h.sub k hk).elim (hF k) (fun h'=>aq hb h')
theorem DD:Tq (.map []) []:=fun i=>⟨rfl,fun k h=>by simp [ew] at h⟩
theorem BE(w:World)(n s:Int)(hs:oL n 0 8388615=s):∃ b F,Ending.returned (Value.pointer (some ⟨w.heap.size+1+1,0,none⟩)) = .returned (.pointer (some ⟨b,0,none⟩))∧cM (((w.alloc (.map #[] 0)).alloc (.map #[] 0)).alloc (.cells #[.int .i64 s,.map (some w.heap.size),.slice none 0 0,.map (some (w.heap.size+1)),.slice none 0 0,.bool false,.int .i64 0,.int .i64 0,.int .i64 0] 142)) b F (iJ n)∧Below w.heap.size w (((w.alloc (.map #[] 0)).alloc (.map #[] 0)).alloc (.cells #[.int .i64 s,.map (some w.heap.size),.slice none 0 0,.map (some (w.heap.size+1)),.slice none 0 0,.bool false,.int .i64 0,.int .i64 0,.int .i64 0] 142))∧∀ k,F k→w.heap.size≤k:=by
 have fI:=World.ownsMap_made (H:=Unit) w prog 3 tg;have qJ:=World.ownsMap_made (H:=Unit) (w.alloc (.map #[] 0)) prog 3 (plainElem prog 3);refine ⟨w.heap.size+1+1,fun k=>w.heap.size≤k∧k<w.heap.size+3,rfl,⟨w.heap.size,w.heap.size+1,.slice none 0 0,.slice none 0 0,.map [],?_,?_,?_,?_,by omega,?_,?_,DD,World.ownsRow_nil _ _ _ _,fun g hg=>by simp [Value.ownBlock] at hg,.inl ⟨rfl,rfl⟩,Kx n,?_⟩,?_,fun k hk=>hk.1⟩
 ·have h:=heap_alloc_new ((w.alloc (.map #[] 0)).alloc (.map #[] 0)) (.cells #[.int .i64 s,.map (some w.heap.size),.slice none 0 0,.map (some (w.heap.size+1)),.slice none 0 0,.bool false,.int .i64 0,.int .i64 0,.int .i64 0] 142);simp only [World.size_alloc] at h;rw [h];simp only [je,iJ,hs]
 ·omega
 ·omega
 ·omega
 ·exact ((fI.alloc _).alloc _)
 ·have:=qJ.alloc (.cells #[.int .i64 s,.map (some w.heap.size),.slice none 0 0,.map (some (w.heap.size+1)),.slice none 0 0,.bool false,.int .i64 0,.int .i64 0,.int .i64 0] 142);simp only [World.size_alloc] at this;exact this
 ·intro i hi;simp;omega
 ·exact (((ai w _).alloc (by simp) _).alloc (by simp;omega) _)
theorem vO(n:Int)(w:World):Calls prog 38 #[.int .i64 n] w fun e w'=>∃ b F,e = .returned (.pointer (some ⟨b,0,none⟩))∧cM w' b F (iJ n)∧Below w.heap.size w w'∧∀ k,F k→w.heap.size≤k:=by
 have O5:=@run_makeMap prog;go_enter func38,ntmps38;go_wp2_with fail
 ·go_ret;obtain ⟨b,F,h1,h2⟩:=BE w n 0 (by unfold oL;rw [if_pos (by omega)])
  exact ⟨b,h1,F,h2⟩
 ·go_ret;obtain ⟨b,F,h1,h2⟩:=BE w n 8388615 (by unfold oL;rw [if_neg (by omega),if_pos (by omega)])
  exact ⟨b,h1,F,h2⟩
 ·go_ret;obtain ⟨b,F,h1,h2⟩:=BE w n n (by unfold oL;rw [if_neg (by omega),if_neg (by omega)])
  exact ⟨b,h1,F,h2⟩
theorem ru(b:Nat)(F:Nat→Prop)(d:bD)(w:World)(h:cM w b F d):Calls prog 133 #[.pointer (some ⟨b,0,none⟩)] w fun e w'=>e = .returned (.int .i64 d.size)∧w=w':=by
 obtain ⟨mb,nb,pv,av,Dn,h⟩:=h;have c0:w.cell? ⟨b,0,none⟩=some (.int .i64 d.size):=h.cell 0;clear h;go_enter func133,ntmps133;go_wp2;go_ret;exact ⟨rfl,rfl⟩
theorem cV.set{w:World}{b:Nat}{F:Nat→Prop}{d d':bD}{mb nb:Nat}{pv av:Value}{Dn:DataW Unit}(h:cV w b F d mb nb pv av Dn)(j:Nat)(u:Value)(hc:(je d mb nb pv av).setIfInBounds j u=je d' mb nb pv av)(hd:d'.eF=d.eF)(hp:d'.aS=d.aS)(ha:d'.eQ=d.eQ)(ho:d'.Ok):cV (w.setCell ⟨b,j,none⟩ u) b F d' mb nb pv av Dn∧Step F F w (w.setCell ⟨b,j,none⟩ u):=by
 have eS:Step F F w (w.setCell ⟨b,j,none⟩ u):=⟨rfl,rfl,rfl,by simp [World.setCell],fun k _ hn=>Below.heap_setCell w ⟨b,j,none⟩ u k (fun e=>hn (by rw [e];exact h.fb)),fun _ h=>.inl h⟩
 have ey:∀ k,k≠b→(w.setCell ⟨b,j,none⟩ u).heap[k]?=w.heap[k]?:=fun k hk=>Below.heap_setCell w ⟨b,j,none⟩ u k hk
 have BN:∀ k cur e,w.heap[k]?=some (.cells cur e (0,0))→e≠142→k≠b:=fun k cur e hk he hb=>by
  rw [hb,h.dy] at hk;simp only [Option.some.injEq,Obj.cells.injEq] at hk;exact he hk.2.1.symm
 refine ⟨⟨?_,h.fb,h.fm,h.fn,h.ne,?_,?_,by rw [hp];exact h.new,?_,h.pf,?_,ho,fun i hi=>by simpa [World.setCell] using h.lt i hi⟩,eS⟩
 ·unfold World.setCell;simp only [dF,if_true];rw [h.dy];simp only [jU,Option.some.injEq];rw [← hc];rfl
 ·rw [hd];exact dE h.mapD (ey mb (dZ h.mapD h.dy).symm)
 ·rw [hp];exact dE h.rS (ey nb (dZ h.rS h.dy).symm)
 ·rw [hp];exact eK h.aS fun g hg=>by
   obtain ⟨_,_,cur,G4⟩:=eA h.aS g hg;exact ey g (BN g cur _ G4 (by decide))
 ·rw [ha];exact h.eQ.block fun k cur hk _=>by
   rcases hk with hk | hk
   ·exact ey k (BN k cur _ hk (by decide))
   ·exact ey k (BN k cur _ hk (by decide))
theorem AJ(b:Nat)(F:Nat→Prop)(d:bD)(s n:Int)(w:World)(h:cM w b F d)(hn:n<9223372036854775808):Calls prog 41 #[.pointer (some ⟨b,0,none⟩),.int .i64 s,.int .i64 n] w fun e w'=>e = .returned (.bool (d.fits s n))∧w=w':=by
 obtain ⟨mb,nb,pv,av,Dn,h⟩:=h;have c0:w.cell? ⟨b,0,none⟩=some (.int .i64 d.size):=h.cell 0;have s0:=h.ok.s0;have s1:=h.ok.s1;obtain ⟨sz,cp⟩ : ∃ sz,sz=d.size:=⟨_,rfl⟩;rw [← cp] at c0 s0 s1;have HF:Hid (d.fits s n=decide (0≤s∧0≤n∧s≤sz - n)):=(by rw [cp];rfl:d.fits s n=_)
 clear h cp;go_enter func41,ntmps41;by_cases g1:0≤s
 ·by_cases g2:0≤n
  ·have sN:decide (0≤s)=true:=decide_eq_true g1;have KX:decide (0≤n)=true:=decide_eq_true g2;go_wp2;go_ret;refine ⟨?_,rfl⟩;rw [HF.out];simp [g1,g2]
  ·have sN:decide (0≤s)=true:=decide_eq_true g1;have KX:decide (0≤n)=false:=decide_eq_false g2;go_wp2;go_ret;refine ⟨?_,rfl⟩;rw [HF.out,decide_eq_false (by omega)]
   rfl
 ·have sN:decide (0≤s)=false:=decide_eq_false g1;go_wp2;go_ret;refine ⟨?_,rfl⟩;rw [HF.out,decide_eq_false (by omega)]
  rfl
theorem cV.ZB{w w':World}{b:Nat}{F:Nat→Prop}{d:bD}{mb nb n:Nat}{pv av:Value}{Dn:DataW Unit}(h:cV w b F d mb nb pv av Dn){l:List gJ}(hm:w'.ownsMap prog 3 tg mb n (me l))(hg:w.grownBy w' (some mb))(ho:{ d with eF:=l }.Ok) :
  cV w' b F { d with eF:=l } mb nb pv av Dn∧Step F F w w':=by
 have ey:∀ k,k<w.heap.size→k≠mb→w'.heap[k]?=w.heap[k]?:=fun k hk hn=>hg.block k hk (fun e=>hn (Option.some.inj e))
 have hc:∀ k (cur:Array Value) (e:TypeId),w.heap[k]?=some (Obj.cells cur e (0,0))→w'.heap[k]?=w.heap[k]?:=fun k cur e hk=>ey k (Array.getElem?_eq_some_iff.1 hk).1 (dZ h.mapD hk)
 refine ⟨⟨(hc b _ _ h.dy).trans h.dy,h.fb,h.fm,h.fn,h.ne,?_,dE h.rS (ey nb h.rS.lt h.ne.symm),h.new,eK h.aS fun g hg=>?_,h.pf,h.eQ.block fun k cur hk _=>?_,ho,fun i hi=>al (h.lt i hi) hg.size⟩,Step.DC hg fun j hj=>.inl (by rw [← Option.some.inj hj];exact h.fm)⟩
 ·have:=zv hm;rwa [Ls] at this
 ·obtain ⟨_,_,cur,G4⟩:=eA h.aS g hg;exact hc g cur _ G4
 ·rcases hk with hk | hk
  ·exact hc k cur _ hk
  ·exact hc k cur _ hk
theorem qN{w w':World}{m:Nat}{a:Addr}{v:Value}(hg:w.grownBy w' (some m))(hc:w.cell? a=some v)(hn:a.block≠m):w'.cell? a=some v :=
 (World.cell?_of_block (a:=a) (hg.block a.block (World.block_lt_of_cell? w a hc) (fun e=>hn (Option.some.inj e)))).trans hc
theorem oH{w w':World}{r:Option Nat}(h:Below w.heap.size w w'):w.grownBy w' r:=⟨h.os,h.tape,h.output,h.size,fun k hk _=>h.block k hk⟩
theorem cV.step{w w':World}{b:Nat}{F:Nat→Prop}{d:bD}{mb nb:Nat}{pv av:Value}{Dn:DataW Unit}(h:cV w b F d mb nb pv av Dn)(hg:w.grownBy w' (some mb)):Step F F w w' :=
 Step.DC hg fun j hj=>.inl (by rw [← Option.some.inj hj];exact h.fm)
theorem GC{w:World}{b:Nat}{F:Nat→Prop}{d:bD}{mb nb:Nat}{pv av:Value}{Dn:DataW Unit}(h:cV w b F d mb nb pv av Dn)(i:Int)(t:ByteArray)(ht:t.size≤512)(h0:0≤i)(h1:i<d.size):Calls prog 42 #[.pointer (some ⟨b,0,none⟩),.int .i64 i,.string t] w fun e w'=>e = .returned (.tuple #[])∧cV w' b F { d with eF:=ry d.eF i (pad t) } mb nb pv av Dn∧w.grownBy w' (some mb):=by
 have hs:=h.ok.s1;have hl:=h.ok.S1;obtain ⟨k1,k2⟩:=RF h.ok.eF h.ok.rise (i:=i) (t:=pad t) ⟨h0,h1,Du t ht⟩;refine (KA b mb d.eF.length i t d.eF w (h.cell 1) h.mapD ht h0 (by omega) (by unfold maxLen;omega)).mono ?_
 rintro e w' ⟨rfl,hm,hg⟩;exact ⟨rfl,(h.ZB hm hg ⟨h.ok.s0,h.ok.s1,k1,k2,h.ok.aS,h.ok.eQ⟩).1,hg⟩
theorem Lu{w:World}{b:Nat}{F:Nat→Prop}{d:bD}{mb nb:Nat}{pv av:Value}{Dn:DataW Unit}(h:cV w b F d mb nb pv av Dn) :
  cM (((w.setCell ⟨b,2,none⟩ (.slice none 0 0)).setCell ⟨b,3,none⟩ (.map (some w.heap.size))).alloc (.map #[] 0)) b (fun k=>F k∨k=w.heap.size) { d with aS:=[] } ∧
  Step F (fun k=>F k∨k=w.heap.size) w (((w.setCell ⟨b,2,none⟩ (.slice none 0 0)).setCell ⟨b,3,none⟩ (.map (some w.heap.size))).alloc (.map #[] 0)):=by
 have bX:=(Array.getElem?_eq_some_iff.1 h.dy).1;have cp:((w.setCell ⟨b,2,none⟩ (.slice none 0 0)).setCell ⟨b,3,none⟩ (.map (some w.heap.size))).heap.size=w.heap.size:=by simp [World.setCell]
 have FF:∀ k,k<w.heap.size→(((w.setCell ⟨b,2,none⟩ (.slice none 0 0)).setCell ⟨b,3,none⟩ (.map (some w.heap.size))).alloc (.map #[] 0)).heap[k]?=((w.setCell ⟨b,2,none⟩ (.slice none 0 0)).setCell ⟨b,3,none⟩ (.map (some w.heap.size))).heap[k]?:=fun k hk =>
  (ai _ _).block k (by rw [cp];exact hk)
 have ey:∀ k,k<w.heap.size→k≠b→(((w.setCell ⟨b,2,none⟩ (.slice none 0 0)).setCell ⟨b,3,none⟩ (.map (some w.heap.size))).alloc (.map #[] 0)).heap[k]?=w.heap[k]?:=fun k hk hn=>by
  rw [FF k hk,Below.heap_setCell _ ⟨b,3,none⟩ _ k hn,Below.heap_setCell _ ⟨b,2,none⟩ _ k hn]
 have BN:∀ k (cur:Array Value) (e:TypeId),w.heap[k]?=some (Obj.cells cur e (0,0))→e≠142→(((w.setCell ⟨b,2,none⟩ (.slice none 0 0)).setCell ⟨b,3,none⟩ (.map (some w.heap.size))).alloc (.map #[] 0)).heap[k]?=w.heap[k]?:=fun k cur e hk he=>ey k (Array.getElem?_eq_some_iff.1 hk).1 fun hb=>by
  rw [hb,h.dy] at hk;simp only [Option.some.injEq,Obj.cells.injEq] at hk;exact he hk.2.1.symm
 have oB:=World.ownsMap_made (H:=Unit) ((w.setCell ⟨b,2,none⟩ (.slice none 0 0)).setCell ⟨b,3,none⟩ (.map (some w.heap.size))) prog 3 (plainElem prog 3);rw [cp] at oB;refine ⟨⟨mb,w.heap.size,.slice none 0 0,av,.map [],?_,.inl h.fb,.inl h.fm,.inr rfl,?_,dE h.mapD (ey mb h.mapD.lt (dZ h.mapD h.dy).symm),oB,DD,World.ownsRow_nil _ _ _ _,fun g hg=>by simp [Value.ownBlock] at hg,?_,?_,?_⟩,?_⟩
 ·rw [FF b bX];unfold World.setCell;simp only [dF,if_true];rw [h.dy];rfl
 ·have:=h.mapD.lt;omega
 ·exact (h.eQ.block fun k cur hk _=>by
   rcases hk with hk | hk
   ·exact BN k cur _ hk (by decide)
   ·exact BN k cur _ hk (by decide)).imp fun k hk=>.inl hk
 ·exact ⟨h.ok.s0,h.ok.s1,h.ok.eF,h.ok.rise,by simp,h.ok.eQ⟩
 ·intro i hi;simp only [World.size_alloc,cp];rcases hi with hi | hi
  ·have:=h.lt i hi;omega
  ·omega
 ·exact ⟨rfl,rfl,rfl,by simp only [World.size_alloc,cp];omega,fun k hk hn=>ey k hk fun e=>hn (by rw [e];exact h.fb),fun k hk=>hk.elim .inl (fun e=>.inr (by omega))⟩
theorem PV(b:Nat)(F:Nat→Prop)(d:bD)(w:World)(h:cM w b F d):Calls prog 100 #[.pointer (some ⟨b,0,none⟩)] w fun e w'=>e = .returned (.tuple #[])∧cM w' b (fun k=>F k∨k=w.heap.size) { d with aS:=[] }∧Step F (fun k=>F k∨k=w.heap.size) w w':=by
 obtain ⟨mb,nb,pv,av,Dn,h⟩:=h;have c2:w.cell? ⟨b,2,none⟩=some pv:=h.cell 2;have c3:w.cell? ⟨b,3,none⟩=some (.map (some nb)):=h.cell 3;have f2:=h.frozen 2;have f3:=h.frozen 3;have O5:=@run_makeMap prog;have bL:b<w.heap.size:=(Array.getElem?_eq_some_iff.1 h.dy).1;have aY:(w.setCell ⟨b,2,none⟩ (.slice none 0 0)).heap[b]?=some (.cells ((je d mb nb pv av).setIfInBounds 2 (.slice none 0 0)) 142 (0,0)):=by
  unfold World.setCell;simp only [dF,if_true];rw [h.dy];rfl
 have b6:((w.setCell ⟨b,2,none⟩ (.slice none 0 0)).alloc (.map #[] 0)).heap[b]?=some (.cells ((je d mb nb pv av).setIfInBounds 2 (.slice none 0 0)) 142 (0,0)) :=
  ((ai _ _).block b (by simpa [World.setCell] using bL)).trans aY
 have d3:((w.setCell ⟨b,2,none⟩ (.slice none 0 0)).alloc (.map #[] 0)).cell? ⟨b,3,none⟩=some (.map (some nb)):=by rw [cell_of_row _ _ _ _ _ _ b6];rfl
 have g3:((w.setCell ⟨b,2,none⟩ (.slice none 0 0)).alloc (.map #[] 0)).frozen? ⟨b,3,none⟩=false:=by
  unfold World.frozen?;rw [show ((w.setCell ⟨b,2,none⟩ (.slice none 0 0)).alloc (.map #[] 0)).heap[(⟨b,3,none⟩ : Addr).block]?=_ from b6]
  simp
 clear aY b6 c3 f3;have HH:Hid _:=Lu h;clear h;go_enter func100,ntmps100;go_wp2;go_end0
 exact ⟨rfl,HH.out⟩
end S.V
end Go.Proofs.YtihmgigfkmofnaaGreatDoor
