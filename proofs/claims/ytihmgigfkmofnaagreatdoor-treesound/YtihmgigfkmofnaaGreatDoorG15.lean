import Derived.Test.YtihmgigfkmofnaaGreatDoorG00
import Derived.Maps.OwnSet
import Derived.Maps.RangeWalk
import Derived.Maps.Ext
import Derived.Lib.BufferWrite
import Derived.ChangeKeysEq
import Derived.Deep.MidRow
import Derived.Deep.WholeRow
import Derived.Laws.CopyOwn
import Derived.Deep.RegionHeld3
import Derived.Deep.QuietTactic
set_option maxHeartbeats 400000
set_option maxRecDepth 100000
open Go.Proofs.Tryz
namespace Go.Proofs.YtihmgigfkmofnaaGreatDoor
namespace S.V
open Go.RowKit
theorem Tryz.info5:(prog.info? 5).map (fun i=>(i.zero,i.size,i.bytes))=some (some (.int .u8 0),1,1):=by kernel_rfl
structure gL where
 ix:Int
 lx:ByteArray
structure ND where
 ix:Int
 kind:Int
 cut:Int
 junk:ByteArray
structure Kx where
 after:Int
 fates:List ND
structure bE where
 size:Int
 eG:List gL
 aX:List gL
 eQ:List Kx
 dead:Bool
 nr:Int
 nw:Int
 ns:Int
def bl(t:ByteArray):List UInt8:=t.data.toList
def Hg(l:List UInt8):ByteArray:=⟨l.toArray⟩
theorem uB(l:List UInt8):bl (Hg l)=l:=by simp [bl,Hg]
theorem Hf(t:ByteArray):Hg (bl t)=t:=by simp [bl,Hg]
theorem jU(t:ByteArray):(bl t).length=t.size:=by simp [bl]
theorem oG(l:List UInt8):(Hg l).size=l.length:=by rw [← jU,uB]
theorem Cz{s t:ByteArray}(h:bl s=bl t):s=t:=by rw [← Hf s,h,Hf]
def fF(n:Nat):List UInt8:=List.replicate n 0
theorem jI(n:Nat):(fF n).length=n:=by simp [fF]
def qp:ByteArray:=Hg (fF 512)
theorem tl:qp.size=512:=by rw [qp,oG,jI]
def vV(t:ByteArray):Bool:=decide (bl t=fF t.size)
def pad(t:ByteArray):ByteArray:=Hg (bl t++fF (512 - t.size))
theorem DZ(t:ByteArray)(h:t.size≤512):(pad t).size=512:=by rw [pad,oG,ae,jU,jI];omega
theorem Pm(t:ByteArray)(h:t.size=512):pad t=t:=by
 unfold pad;rw [h];simp [fF,Hf]
def jF(i:Int)(l:List gL):List gL:=l.filter fun x=>decide (x.ix≠i)
def qM(x:gL):List gL→List gL
 | []=>[x]
 | y::r=>if x.ix<y.ix then x::y::r else y::qM x r
def rI(l:List gL)(i:Int)(t:ByteArray):List gL:=if vV t then jF i l else qM ⟨i,t⟩ (jF i l)
def fC(l:List gL)(i:Int):ByteArray:=match l.find? (fun x=>decide (x.ix=i)) with | some x=>x.lx | none=>qp
def ez:List gL→Int→Option Nat
 | [],_=>none
 | x::r,i=>match ez r i with | some k=>some (k+1) | none=>if x.ix=i then some 0 else none
def gl(d:bE)(i:Int):ByteArray:=match ez d.aX i with | some k=>((d.aX[k]?).map gL.lx).getD qp | none=>fC d.eG i
def oY(n lo hi:Int):Int:=if n<lo then lo else if n > hi then hi else n
def acf(c:Int):Nat:=(oY c 0 512).toNat
def ZS(d:ByteArray)(f:ND):ByteArray:=Hg (((bl d).take (acf f.cut)++bl f.junk++fF 512).take 512)
def aae(aX eG:List gL)(f:ND):List gL:=match aX[f.ix.toNat]? with
 | some x=>if f.kind=2 then rI eG x.ix x.lx else if f.kind=3 then rI eG x.ix (ZS x.lx f) else eG
 | none=>eG
def BW(aX:List gL):List Int→List gL→List ND→List gL
 | _,eG,[]=>eG
 | seen,eG,f::r=>if f.ix<0∨(aX.length:Int)≤f.ix∨f.ix ∈ seen then BW aX seen eG r else BW aX (f.ix::seen) (aae aX eG f) r
def bE.kill(d:bE)(l:List ND):bE:={ d with eG:=BW d.aX [] d.eG l,aX:=[],dead:=true }
def bE.done(d:bE):bE × Nat:=match d.eQ with
 | []=>(d,0)
 | a::r=>if 0<a.after then ({ d with eQ:={ a with after:=a.after - 1 }::r },0) else ({ d with eQ:=r }.kill a.fates,8)
def chunk(s:Int)(p:List UInt8)(i:Nat):gL:=⟨s+i,Hg ((p.drop (i*512)).take 512)⟩
def chunks(s:Int)(p:List UInt8)(n:Nat):List gL:=(List.range n).map (chunk s p)
theorem vB(s:Int)(p:List UInt8)(n:Nat):chunks s p (n+1)=chunks s p n++[chunk s p n]:=by simp [chunks,List.range_succ]
theorem yM(s:Int)(p:List UInt8)(n:Nat):(chunks s p n).length=n:=by simp [chunks]
def bE.fits(d:bE)(s n:Int):Bool:=decide (0≤s∧0≤n∧s≤d.size - n)
def bE.write(d:bE)(s:Int)(p:List UInt8):bE × Nat :=
 if d.dead then (d,8)
 else if p.length=0∨p.length % 512≠0∨d.fits s (p.length / 512:Nat)=false then (d,1)
 else bE.done { d with aX:=d.aX++chunks s p (p.length / 512),nw:=wrap64 (d.nw+(p.length / 512:Nat)) }
def gO(eG aX:List gL):List gL:=aX.foldl (fun l x=>rI l x.ix x.lx) eG
def bE.sync(d:bE):bE × Nat :=
 if d.dead then (d,8)
 else bE.done { d with eG:=gO d.eG d.aX,aX:=[],ns:=wrap64 (d.ns+1) }
def iR(d:bE)(s:Int)(n:Nat):List UInt8:=(List.range n).flatMap fun i:Nat=>bl (gl d (s+(i:Int)))
theorem xG(d:bE)(s:Int)(n:Nat):iR d s (n+1)=iR d s n++bl (gl d (s+n)):=by simp [iR,List.range_succ,List.flatMap_append]
def bE.read(d:bE)(s n:Int):bE × List UInt8 × Nat :=
 if d.dead then (d,[],8)
 else if d.fits s n=false then (d,[],1)
 else if 1024<n then (d,[],3)
 else ({ d with nr:=wrap64 (d.nr+n) },iR d s n.toNat,0)
def iJ(n:Int):bE:=⟨oY n 0 8388615,[],[],[],false,0,0,0⟩
structure sM(size:Int)(x:gL):Prop where
 lo:0≤x.ix
 hi:x.ix<size
 len:x.lx.size=512
structure bE.Ok(d:bE):Prop where
 s0:0≤d.size
 s1:d.size≤8388615
 eG:∀ x ∈ d.eG,sM d.size x∧vV x.lx=false
 rise:d.eG.Pairwise fun x y=>x.ix<y.ix
 aX:∀ x ∈ d.aX,sM d.size x
 eQ:∀ a ∈ d.eQ,0≤a.after∧a.after<9223372036854775808
theorem pP{i:Int}{l:List gL}{x:gL}(h:x ∈ jF i l):x ∈ l∧x.ix≠i:=by simpa [jF] using h
theorem yq{x y:gL}:∀ {l:List gL},y ∈ qM x l→y=x∨y ∈ l
 | [],h=>by simp [qM] at h;exact .inl h
 | z::r,h=>by
  unfold qM at h;split at h
  ·simpa using h
  ·rcases List.mem_cons.1 h with e | h'
   ·exact .inr (by simp [e])
   ·rcases yq h' with e | e
    ·exact .inl e
    ·exact .inr (by simp [e])
theorem A1{x:gL}:∀ {l:List gL},l.Pairwise (fun x y=>x.ix<y.ix)→(∀ y ∈ l,y.ix≠x.ix)→(qM x l).Pairwise fun x y=>x.ix<y.ix
 | [],_,_=>by simp [qM]
 | z::r,h,hn=>by
  obtain ⟨h1,h2⟩:=List.pairwise_cons.1 h;unfold qM;split
  ·rename_i bO
   exact List.pairwise_cons.2 ⟨fun y hy=>by
    rcases List.mem_cons.1 hy with e | hy
    ·rw [e];exact bO
    ·exact Int.lt_trans bO (h1 y hy),h⟩
  ·rename_i zp
   have hz:=hn z (by simp)
   refine List.pairwise_cons.2 ⟨fun y hy=>?_,A1 h2 fun y hy=>hn y (by simp [hy])⟩
   rcases yq hy with e | e
   ·rw [e];omega
   ·exact h1 y e
theorem Tm{size:Int}{l:List gL}{i:Int}{t:ByteArray}(h:∀ x ∈ l,sM size x∧vV x.lx=false)(hr:l.Pairwise fun x y=>x.ix<y.ix)(hi:sM size ⟨i,t⟩):(∀ x ∈ rI l i t,sM size x∧vV x.lx=false)∧(rI l i t).Pairwise fun x y=>x.ix<y.ix:=by
 have hd:(jF i l).Pairwise fun x y=>x.ix<y.ix:=hr.sublist List.filter_sublist
 unfold rI;cases hz:vV t
 ·refine ⟨fun x hx=>?_,A1 hd fun y hy=>(pP hy).2⟩
  rcases yq hx with e | e
  ·rw [e];exact ⟨hi,hz⟩
  ·exact h x (pP e).1
 ·exact ⟨fun x hx=>h x (pP hx).1,hd⟩
theorem Ru{size s:Int}{p:List UInt8}{n:Nat}(h0:0≤s)(h1:s≤size - n)(hp:p.length=n*512){i:Nat}(hi:i<n):sM size (chunk s p i):=by
 refine ⟨by simp only [chunk];omega,by simp only [chunk];omega,?_⟩
 rw [chunk,oG,ag,al,hp];omega
theorem LA(n:Int):(iJ n).Ok:=by
 refine ⟨?_,?_,by simp [iJ],by simp [iJ],by simp [iJ],by simp [iJ]⟩
 ·simp only [iJ,oY];split <;> (try split) <;> omega
 ·simp only [iJ,oY];split <;> (try split) <;> omega
theorem sm{size:Int}{l:List gL}(h:∀ x ∈ l,sM size x∧vV x.lx=false)(i:Int):(fC l i).size=512:=by
 unfold fC;cases hf:l.find? (fun x=>decide (x.ix=i)) with
 | none=>exact tl
 | some x=>exact (h x (List.mem_of_find?_eq_some hf)).1.len
theorem kU:∀ {l:List gL} {i:Int} {k:Nat},ez l i=some k→k<l.length
 | [],_,_,h=>by simp [ez] at h
 | x::r,i,k,h=>by
  unfold ez at h;cases hr:ez r i with
  | some j =>
   rw [hr] at h;simp only [Option.some.injEq] at h;have:=kU hr;simp
   omega
  | none =>
   rw [hr] at h;simp only [] at h;split at h
   ·simp only [Option.some.injEq] at h;simp;omega
   ·cases h
theorem zJ{d:bE}(h:d.Ok)(i:Int):(gl d i).size=512:=by
 unfold gl;cases hk:ez d.aX i with
 | none=>exact sm h.eG i
 | some k =>
  have bO:=kU hk;simp only [af bO,kx,l7];exact (h.aX _ (aJ bO)).len
theorem pE{d:bE}(h:d.Ok)(s:Int):∀ n,(iR d s n).length=n*512
 | 0=>by simp [iR]
 | n+1=>by rw [xG,ae,pE h s n,jU,zJ h];omega
theorem lK(l:List gL)(x:gL)(i:Int):ez (l++[x]) i=if x.ix=i then some l.length else ez l i:=by
 induction l with
 | nil=>simp [ez]
 | cons y r ih =>
  simp only [List.cons_append,ez,ih];by_cases h:x.ix=i
  ·simp [h]
  ·simp [h]
open Go.Maps
def arr(t:ByteArray):Value:=.agg (dW (bl t)).toArray
theorem Jd:∀ {a b:List UInt8},dW a=dW b→a=b
 | [],[],_=>rfl
 | [],_::_,h=>by simp [dW] at h
 | _::_,[],h=>by simp [dW] at h
 | x::a,y::b,h=>by
  simp only [dW,List.map_cons,List.cons.injEq,Value.int.injEq,true_and] at h;have e:x=y:=UInt8.toNat_inj.1 (by omega)
  rw [e,Jd h.2]
theorem U4{s t:ByteArray}(h:arr s=arr t):s=t:=by
 simp only [arr,Value.agg.injEq] at h;exact Cz (Jd (by simpa using congrArg Array.toList h))
open Classical in
noncomputable def tE (v:Value):Option (DataW Unit × List MemPlace):=if h:∃ t:ByteArray,t.size=512∧v=arr t then some (.lit (.string (bl h.choose)),[]) else none
theorem xw{t:ByteArray}(h:t.size=512):tE (arr t)=some (.lit (.string (bl t)),[]):=by
 have hx:∃ s:ByteArray,s.size=512∧arr t=arr s:=⟨t,h,rfl⟩;unfold tE;rw [dif_pos hx,U4 hx.choose_spec.2.symm]
theorem OX{v:Value}{y:DataW Unit × List MemPlace}(h:tE v=some y):∃ t:ByteArray,t.size=512∧v=arr t∧y=(.lit (.string (bl t)),[]):=by
 unfold tE at h;split at h
 ·rename_i hx
  exact ⟨hx.choose,hx.choose_spec.1,hx.choose_spec.2,(Option.some.inj h).symm⟩
 ·cases h
theorem EB:Keyed prog 3:=int_keyed underlying3
theorem kwf{i:Int}(h0:0≤i)(h1:i<9223372036854775808):(Lit.int .i64 i).wf=true:=WalkArith.wf_i64 (by omega)
theorem TW{i:Int}(h0:0≤i)(h1:i<9223372036854775808):keyOf prog 3 (.int .i64 i)=some (.int .i64 i):=keyOf_int_mk underlying3 (kwf h0 h1)
def mC(l:List gL):DataW Unit:=.map (l.map fun x=>(.int .i64 x.ix,.lit (.string (bl x.lx))))
theorem vz(i:Int)(l:List gL):(l.map fun x=>((.int .i64 x.ix,.lit (.string (bl x.lx))):Lit × DataW Unit)).filter (fun p=>!p.1.sameKey (.int .i64 i))=(jF i l).map fun x=>(.int .i64 x.ix,.lit (.string (bl x.lx))):=by
 induction l with
 | nil=>rfl
 | cons x r ih =>
  have e:(Lit.int .i64 x.ix).sameKey (.int .i64 i)=decide (x.ix=i):=by simp [Lit.sameKey]
  have e2:jF i (x::r)=if x.ix=i then jF i r else x::jF i r:=by
   by_cases h:x.ix=i
   ·simp [jF,h]
   ·simp [jF,h]
  rw [List.map_cons,List.filter_cons,ih,e2,e];by_cases h:x.ix=i
  ·simp [h]
  ·simp [h]
theorem Re(i:Int)(t:ByteArray)(l:List gL):DataW.insert ((.int .i64 i,.lit (.string (bl t))):Lit × DataW Unit) (l.map fun x=>(.int .i64 x.ix,.lit (.string (bl x.lx))))=(qM ⟨i,t⟩ l).map fun x=>(.int .i64 x.ix,.lit (.string (bl x.lx))):=by
 induction l with
 | nil=>rfl
 | cons x r ih =>
  simp only [List.map_cons,DataW.insert,qM,Lit.before];by_cases h:i<x.ix
  ·simp [h]
  ·simp [h,ih]
theorem Rb(i:Int)(t:ByteArray)(l:List gL):(mC l).put (.int .i64 i) (.lit (.string (bl t)))=mC (qM ⟨i,t⟩ (jF i l)):=by
 show DataW.map (DataW.insert _ (List.filter _ _))=_
 rw [vz,Re];rfl
theorem Rg(i:Int)(l:List gL):(mC l).del (.int .i64 i)=mC (jF i l):=by
 show DataW.map (List.filter _ _)=_
 rw [vz];rfl
theorem Rf(i:Int)(l:List gL):Maps.has (mC l) (.int .i64 i)=l.any fun x=>decide (x.ix=i):=by
 show List.any _ _=_
 rw [List.any_map];congr 1
 funext x
 simp [Lit.sameKey]
theorem UM(i:Int)(l:List gL)(z:DataW Unit):(mC l).atKey (.int .i64 i) z=match l.find? (fun x=>decide (x.ix=i)) with | some x=>.lit (.string (bl x.lx)) | none=>z:=by
 have e:((fun p:Lit × DataW Unit=>p.1.sameKey (.int .i64 i)) ∘ fun x:gL=>((.int .i64 x.ix,.lit (.string (bl x.lx))):Lit × DataW Unit))=fun x:gL=>decide (x.ix=i):=by
  funext x;simp [Lit.sameKey]
 unfold mC DataW.atKey;simp only [List.find?_map,e];cases l.find? fun x=>decide (x.ix=i) <;> rfl
theorem yH(w:World)(d:Nat)(xs ys:Array Value)(f g:Nat→Nat):∀ is:List Nat,(∀ i ∈ is,xs[i]?=some (.int .u8 (f i:Int))∧ys[i]?=some (.int .u8 (g i:Int))) →
  (Op.eqItems (d+1) 5 1 xs ys is).run prog w = .ok (is.all fun i=>f i == g i) w
 | [],_=>by simp [Op.eqItems]
 | i::is,h=>by
  obtain ⟨h1,h2⟩:=h i (by simp)
  have ih:=yH w d xs ys f g is fun j hj=>h j (by simp [hj])
  have p1:=run_part_plain (P:=prog) w (e:=5) (by kernel_rfl) h1
  have p2:=run_part_plain (P:=prog) w (e:=5) (by kernel_rfl) h2
  have p3:=run_equalIn_int (P:=prog) w d 5 .u8 .u8 (f i) (g i) underlying5;simp only [Op.eqItems,Sem.run_bind,Nat.mul_one,p1,p2,p3,Result.andThen_ok];by_cases e:f i=g i
  ·simp [e,ih]
  ·have:((f i:Int) == (g i:Int))=false:=by simp;omega
   simp [this,e]
theorem U5(x y:List UInt8)(n:Nat)(hx:x.length=n)(hy:y.length=n):(∀ i,i<n→(x.getD i 0).toNat=(y.getD i 0).toNat)↔x=y:=by
 constructor
 ·intro e;refine l9 (by omega) fun i h1 h2=>?_
  have:=e i (by omega)
  simp only [aF,af h1,af h2,l7] at this;exact UInt8.toNat_inj.1 this
 ·intro e i _;rw [e]
theorem IE:prog.cellsOf 5=1:=by kernel_rfl
theorem GA:prog.underlying 144=some (.array 512 5):=by kernel_rfl
theorem afk:(prog.info? 5).isSome=true:=by kernel_rfl
theorem Yg(w:World)(x y:List UInt8)(hx:x.length=512)(hy:y.length=512):(binOp .eql 144 (.agg (dW x).toArray) (.agg (dW y).toArray)).run prog w = .ok (.bool (decide (x=y))) w:=by
 obtain ⟨i5,h5⟩:=Option.isSome_iff_exists.1 afk;have h:=run_equalIn_array (P:=prog) w 9999 (dW x).toArray (dW y).toArray GA h5;rw [IE,yH w 9998 _ _ (fun i=>(x.getD i 0).toNat) (fun i=>(y.getD i 0).toNat) (List.range 512) (fun i hi=>by
  have hi:=List.mem_range.1 hi;constructor
  ·simp [dW,show i<x.length by omega]
  ·simp [dW,show i<y.length by omega])] at h
 rw [run_eql_struct,h,Result.andThen_ok];generalize hn:512=n at *;have e0:((List.range n).all fun i=>(x.getD i 0).toNat == (y.getD i 0).toNat)=decide (x=y):=by
  rw [kC];simp only [ma,List.mem_range,beq_iff_eq,decide_eq_true_eq];exact U5 x y n hx hy
 rw [e0]
theorem zc:zeroCells144=(dW (fF 512)).toArray:=by kernel_rfl
theorem BR:(prog.info? 144).map (·.size)=some 512:=by kernel_rfl
theorem uT:(prog.info? 5).map (·.size)=some 1:=by kernel_rfl
theorem Ac(l:List UInt8):Lib.byteCells l=dW l:=rfl
theorem ZO(k n:Nat):(dW (fF n)).drop k=dW (fF (n - k)):=by
 rw [dW,dW,fF,fF,pd,pd,nK]
theorem ZM(t:ByteArray):(zeroCells144.toList.take 0++Lib.byteCells t.data.toList++zeroCells144.toList.drop (0+t.size)).toArray=(dW (bl (pad t))).toArray:=by
 rw [zc,List.take_zero,List.nil_append,Nat.zero_add,ZO,pad,uB,jJ];rfl
theorem ZP(t:ByteArray)(w:World)(ht:t.size≤512):∃ w2,(Builtin.copy_ #[145,9] 3 #[.slice (some ⟨w.heap.size,0,none⟩) 512 512,.string t]).run prog (w.alloc (.cells zeroCells144 144)) = .ok (goInt t.size) w2∧w2.heap[w.heap.size]?=some (.cells (dW (bl (pad t))).toArray 144 (0,0))∧Below w.heap.size w w2:=by
 have mw:=heap_alloc_new w (.cells zeroCells144 144);have b8:zeroCells144.size=512:=by rw [zc,List.size_toArray,a7,jI]
 have bw:=Lib.run_copy_row_string (P:=prog) (w.alloc (.cells zeroCells144 144)) 145 9 3 5 w.heap.size 0 512 512 t _ 144 underlying145 uT mw ht (by rw [b8];omega)
 rw [ZM] at bw;exact ⟨_,bw,setRow_heap _ w.heap.size _ _ 144 _ mw,below_setRow (ai w _) (aj _) _⟩
theorem ZL(w2:World)(g:Nat)(t:ByteArray)(ht:t.size=512)(h:w2.heap[g]?=some (.cells (dW (bl t)).toArray 144 (0,0))):(Instr.loadAt 144 (.pointer (some ⟨g,0,none⟩))).run prog w2 = .ok (arr t) w2:=by
 simp only [Instr.loadAt,Instr.sureAddr,Sem.run_bind,Sem.run_pure,Result.andThen_ok];exact run_loadVar_row (P:=prog) w2 g 144 144 _ _ _ h GA rfl (by rw [BR,List.size_toArray,a7,jU,ht])
theorem WI(w:World)(x y:Operand)(t:ByteArray):(eqGuard .eql 144 x y (arr t) (.agg zeroCells144)).run prog w = .ok () w:=run_eqGuard_agg w .eql 144 x y _ _ (by kernel_rfl)
theorem zeq(w:World)(t:ByteArray)(ht:t.size=512):(binOp .eql 144 (arr t) (.agg zeroCells144)).run prog w = .ok (.bool (vV t)) w:=by
 rw [zc,arr,Yg w _ _ (by rw [jU];exact ht) (jI 512),vV,ht]
theorem oe{P:Program}{ops:Array Oper}{rest:List Oper}{op:Oper}{a:Act}{w:World}{Q:Exit→Act→World→Prop}(nH:op.guard=none)(ty:TypeId)(x:Operand)(ho:op.op = .load ty x)(p v:Value)(hx:a.eval x=p)(bw:(Instr.loadAt ty p).run P w = .ok v w)(h:wpList P ops Q rest (a.put op.dst v) w):wpList P ops Q (op::rest) a w :=
 wpList_plain nH fun _ hK=>by
  unfold Oper.wp execOp;simp only [ho,hx,Sem.run_bind,bw,Result.andThen_ok,Sem.run_pure];exact hK _ _ h
theorem LH(b mb n:Nat)(i:Int)(t:ByteArray)(l:List gL)(w:World)(c1:w.cell? ⟨b,1,none⟩=some (.map (some mb)))(aE:w.ownsMap prog 3 tE mb n (mC l))(ht:t.size≤512)(h0:0≤i)(h1:i<9223372036854775808)(hn:n<maxLen):Calls prog 42 #[.pointer (some ⟨b,0,none⟩),.int .i64 i,.string t] w fun e w'=>e = .returned (.tuple #[])∧w'.ownsMap prog 3 tE mb (n+1) (mC (rI l i (pad t)))∧w.grownBy w' (some mb):=by
 obtain ⟨w2,zr,aV,km⟩:=ZP t w ht;have kt:=DZ t ht;have hld:=ZL w2 w.heap.size (pad t) kt aV;have heq:=fun w=>zeq w (pad t) kt
 have nH:=fun w x y=>WI w x y (pad t)
 have zZ:w.grownBy w2 (some mb):=⟨km.os,km.tape,km.output,km.size,fun k hk _=>km.block k hk⟩
 have lO:=aE.kept (row:=none) ⟨km.os,km.tape,km.output,km.size,fun k hk _=>km.block k hk⟩ (by simp)
 have c2:w2.cell? ⟨b,1,none⟩=some (.map (some mb)):=(km.cell (p:=⟨b,1,none⟩) (World.block_lt_of_cell? w _ c1)).trans c1;have HS:Hid (rI l i (pad t)=if vV (pad t) then jF i l else qM ⟨i,pad t⟩ (jF i l)):=(rfl:rI l i (pad t)=_)
 have hR:=xw kt;obtain ⟨w3,VL,Qs,qN⟩:=lO.drew.store EB underlying138 hn (TW h0 h1) hR;have VO:w2.rangeAt w.heap.size 0 (dW (bl (pad t))):=fun j u hu=>by
  rw [cell_of_row _ _ _ _ _ _ aV,Nat.zero_add];simpa using hu
 have hlen:(prog.info? 144).map (·.size)=some (dW (bl (pad t))).length:=by rw [BR,a7,jU,kt]
 have V0:w2.grownBy w3 (some mb):=⟨qN.grown.os,qN.grown.tape,qN.grown.output,qN.grown.size,qN.grown.block⟩;have CU:b≠mb:=fun e=>by
  obtain ⟨es,ck,hb,_⟩:=lO;rw [e,World.cell?,hb] at c2;cases c2
 have c3:w3.cell? ⟨b,1,none⟩=some (.map (some mb)):=(World.cell?_of_block (a:=⟨b,1,none⟩) (qN.grown.block b (World.block_lt_of_cell? _ _ c2) (by simpa using CU))).trans c2
 have zT:w.heap.size≠mb:=fun e=>by have:=aE.lt;omega
 have aaN:w3.rangeAt w.heap.size 0 (dW (bl (pad t))):=fun j u hu=>(World.cell?_of_block (a:=⟨w.heap.size,0+j,none⟩) (qN.grown.block w.heap.size (World.block_lt_of_cell? _ _ (VO j u hu)) (by simpa using zT))).trans (VO j u hu)
 unfold arr at hld heq nH hR VL;obtain ⟨cs,fI⟩ : ∃ cs,cs=dW (bl (pad t)):=⟨_,rfl⟩;obtain ⟨p,hp⟩ : ∃ p,p=pad t:=⟨_,rfl⟩;rw [← fI] at hld hR VL VO hlen aaN;simp only [← fI] at heq nH;rw [← hp] at HS hR Qs ⊢;simp only [← hp] at heq;rw [Rb] at Qs;have hun:=GA;clear aE c1 kt hp fI aV;go_enter func42,ntmps42;cases hz:vV p
 ·rw [hz] at heq;go_wp2_with (first | (refine oe rfl 144 _ rfl _ _ rfl hld ?_))
  go_region_held3 (fun w'=>w'.cell? ⟨b,1,none⟩=some (.map (some mb))∧w'.rangeAt w.heap.size 0 cs) (first | exact ⟨c2,VO⟩ | exact ⟨c3,aaN⟩ | go_keep) (fail)
  go_end0
  refine ⟨rfl,?_,zZ.andThen V0 (fun j hj=>.inr (by simpa using hj))⟩
  rw [HS.out,hz];exact Qs
 ·rw [hz] at heq;go_wp2_with (first | (refine oe rfl 144 _ rfl _ _ rfl hld ?_) | (at_delete;refine wpList_delete_own _ rfl _ _ 138 3 rfl 144 EB underlying138 _ mb n _ rfl lO _ _ rfl (TW h0 h1) ?_;intro w4 EN Xq))
  go_frame
  try simp only [Exit.inBlock,Exit.then]
  refine bodyPost_ret (results_none rfl _ _ _) rfl ?_
  rw [Rg] at EN;refine ⟨rfl,?_,zZ.andThen Xq.grown (fun j hj=>.inr (by simpa using hj))⟩
  rw [HS.out,hz];exact EN.mono (Nat.le_succ _)
end S.V
end Go.Proofs.YtihmgigfkmofnaaGreatDoor
namespace Go.Proofs.YtihmgigfkmofnaaGreatDoor
namespace S.V
open Go.RowKit
def im(A:Nat→Addr)(n:Nat):Value:=if n=0 then .nilIface else .iface 360 (.pointer (some (A (n - 1))))
open Go.Maps
variable {F:Nat→Prop} {w w':World} {F':Nat→Prop} {base:Nat} {v:Value} {xs:List Value} {n b:Nat} {D:DataW Unit} {R:Value→Option (DataW Unit × List MemPlace)} {P:Program} {m:Nat} {k:TypeId} {l:List Kx} {G:Nat→Prop} {d:bE} {A:Nat→Addr}
def fG(l:List gL):List Value:=l.flatMap fun x=>[.int .i64 x.ix,.string x.lx]
def MG(l:List ND):List Value:=l.flatMap fun f=>[.int .i64 f.ix,.int .i64 f.kind,.int .i64 f.cut,.string f.junk]
theorem zL(x:gL)(l:List gL):fG (x::l) = .int .i64 x.ix::.string x.lx::fG l:=rfl
theorem BY(l m:List gL):fG (l++m)=fG l++fG m:=by simp [fG]
theorem mZ:∀ (l:List gL) (i:Nat) (h:i<l.length),(fG l)[i*2]?=some (.int .i64 l[i].ix)∧(fG l)[i*2+1]?=some (.string l[i].lx)
 | [],_,h=>absurd h (by simp)
 | x::r,0,_=>⟨rfl,rfl⟩
 | x::r,i+1,h=>by
  have ih:=mZ r i (by simpa using h)
  rw [zL,show (i+1)*2=i*2+1+1 by omega]
  simpa using ih
structure Step(F F':Nat→Prop)(w w':World):Prop where
 os:w'.os=w.os
 tape:w'.tape=w.tape
 output:w'.output=w.output
 size:w.heap.size≤w'.heap.size
 block:∀ k,k<w.heap.size→¬ F k→w'.heap[k]?=w.heap[k]?
 sub:∀ k,F' k→F k∨w.heap.size≤k
theorem Step.refl(F:Nat→Prop)(w:World):Step F F w w:=⟨rfl,rfl,rfl,aj _,fun _ _ _=>rfl,fun _ h=>.inl h⟩
theorem Step.trans{F G H:Nat→Prop}{a b c:World}(h:Step F G a b)(k:Step G H b c):Step F H a c :=
 ⟨k.os.trans h.os,k.tape.trans h.tape,k.output.trans h.output,ar h.size k.size,fun i hi hn=>(k.block i (aq hi h.size) (fun hg=>(h.sub i hg).elim hn (by omega))).trans (h.block i hi hn),
  fun i hi=>(k.sub i hi).elim (fun hg=>h.sub i hg) (fun hs=>.inr (ar h.size hs))⟩
theorem Step.bD(h:Below w.heap.size w w'):Step F F w w':=⟨h.os,h.tape,h.output,h.size,fun k hk _=>h.block k hk,fun _ h=>.inl h⟩
theorem Step.below(h:Step F F' w w')(hF:∀ k,F k→base≤k)(hb:base≤w.heap.size):Below base w w' :=
 ⟨h.os,h.tape,h.output,h.size,fun k hk=>h.block k (aq hk hb) (fun hf=>by have:=hF k hf;omega)⟩
theorem Step.D9{r:Option Nat}(h:w.grownBy w' r)(hr:∀ j,r=some j→F j∨w.heap.size≤j):Step F F w w' :=
 ⟨h.os,h.tape,h.output,h.size,fun k hk hn=>h.block k hk (fun e=>(hr k e.symm).elim hn (by omega)),fun _ h=>.inl h⟩
theorem Step.cell{F F':Nat→Prop}{w w':World}(h:Step F F' w w'){a:Addr}{v:Value}(hc:w.cell? a=some v)(hn:¬ F a.block):w'.cell? a=some v :=
 (World.cell?_of_block (a:=a) (h.block a.block (World.block_lt_of_cell? w a hc) hn)).trans hc
theorem below_drewN{B:Nat}{a:World}(h:Below B a w)(n:Nat):Below B a (w.drewN n):=⟨h.os,h.tape,h.output,h.size,h.block⟩
theorem eL{e size:Nat}(h:w.ownsRow base e size v n xs)(k:Nat)(hk:v.ownBlock=some k):base≤k∧k<w.heap.size∧∃ cur,w.heap[k]?=some (.cells cur e (0,0)):=by
 rcases h.2 with ⟨h',_⟩ | ⟨g,cap,cur,h',hb,hg,_⟩
 ·rw [h'] at hk;simp [Value.ownBlock] at hk
 ·rw [h'] at hk;simp only [Value.ownBlock,Option.some.injEq] at hk;subst hk;exact ⟨hb,(Array.getElem?_eq_some_iff.1 hg).1,cur,hg⟩
theorem fj{e size:Nat}(ho:w.ownsRow b e size v n xs)(hb:∀ g,v.ownBlock=some g→w'.heap[g]?=w.heap[g]?):w'.ownsRow b e size v n xs:=by
 refine ⟨ho.1,?_⟩;rcases ho.2 with h' | ⟨g,cap,cur,h',h1,hg,hr⟩
 ·exact .inl h'
 ·exact .inr ⟨g,cap,cur,h',h1,(hb g (by rw [h'];rfl)).trans hg,hr⟩
theorem tJ{e size g cap:Nat}(h:w.ownsRow base e size v n xs)(hv:v = .slice (some ⟨g,0,none⟩) n cap)(i:Nat)(u:Value)(hu:xs[i]?=some u):w.cell? ⟨g,i,none⟩=some u:=by
 rcases h.2 with ⟨h',_⟩ | ⟨g',eO,cur,h',_,hg,_,_,_,ht⟩
 ·rw [h'] at hv;cases hv
 ·rw [h'] at hv;cases hv;rw [cell_of_row _ g i cur e (0,0) hg];rw [← ht,cO] at hu;split at hu
  ·simpa using hu
  ·cases hu
theorem gY{e size:Nat}(h:w.ownsRow base e size v n xs):∃ a c,v = .slice a n c∧(0<n→∃ g,a=some ⟨g,0,none⟩):=by
 rcases h.2 with ⟨h',h0⟩ | ⟨g,cap,cur,h',_⟩
 ·exact ⟨none,0,by rw [h',h0],fun h=>by omega⟩
 ·exact ⟨_,cap,h',fun _=>⟨g,rfl⟩⟩
theorem ej{g:Nat}{cur:Array Value}{e:TypeId}{fr:Nat × Nat}(h:w.ownsMap P k R m n D)(hg:w.heap[g]?=some (.cells cur e fr)):g≠m:=fun he=>by
 obtain ⟨es,ck,hb,_⟩:=h;rw [he,hb] at hg;cases hg
theorem dK(h:w.ownsMap P k R m n D)(hb:w'.heap[m]?=w.heap[m]?):w'.ownsMap P k R m n D:=by
 obtain ⟨es,ck,h1,r⟩:=h;exact ⟨es,ck,hb.trans h1,r⟩
theorem zM(h:w.ownsMap P k R m n D):w.ownsMap P k R m (Maps.size D) D:=by
 obtain ⟨es,ck,h1,F,h2,rfl⟩:=h;refine ⟨es,ck,h1,F,?_,rfl⟩;simp [Maps.size,length_sorted]
theorem MO(l:List gL):Maps.size (mC l)=l.length:=by simp [Maps.size,mC]
def rq(w:World)(F:Nat→Prop)(v:Value)(l:List Kx):Prop :=
 (l=[]∧v = .slice none 0 0)∨∃ g off cap cur,∃ fv:List Value,v = .slice (some ⟨g,off,none⟩) l.length cap∧F g∧w.heap[g]?=some (.cells cur 214 (0,0))∧l.length≤cap∧cap≤maxLen∧off+cap*2≤cur.size∧fv.length=l.length ∧
  ∀ i (h:i<l.length) (h':i<fv.length),cur[off+i*2]?=some (.int .i64 l[i].after)∧cur[off+i*2+1]?=some fv[i]∧w.ownsRow 0 303 4 fv[i] l[i].fates.length (MG l[i].fates)∧∀ k,fv[i].ownBlock=some k→F k
def Vb(D:DataW Unit)(l:List gL):Prop:=∀ i:Int,Maps.has D (.int .i64 i)=(ez l i).isSome∧∀ k,ez l i=some k→D.atKey (.int .i64 i) (.lit (.int .i64 0)) = .lit (.int .i64 (k:Int))
def jv(d:bE)(mb nb:Nat)(pv av:Value):Array Value:=#[.int .i64 d.size,.map (some mb),pv,.map (some nb),av,.bool d.dead,.int .i64 d.nr,.int .i64 d.nw,.int .i64 d.ns]
structure cX(w:World)(b:Nat)(F:Nat→Prop)(d:bE)(mb nb:Nat)(pv av:Value)(Dn:DataW Unit):Prop where
 dx:w.heap[b]?=some (.cells (jv d mb nb pv av) 142 (0,0))
 fb:F b
 fm:F mb
 fn:F nb
 ne:mb≠nb
 mapD:w.ownsMap prog 3 tE mb d.eG.length (mC d.eG)
 sd:w.ownsMap prog 3 (plainElem prog 3) nb d.aX.length Dn
 new:Vb Dn d.aX
 aX:w.ownsRow 0 93 2 pv d.aX.length (fG d.aX)
 pf:∀ g,pv.ownBlock=some g→F g
 eQ:rq w F av d.eQ
 ok:d.Ok
 lt:∀ i,F i→i<w.heap.size
def cP(w:World)(b:Nat)(F:Nat→Prop)(d:bE):Prop:=∃ mb nb pv av Dn,cX w b F d mb nb pv av Dn
theorem rq.block(h:rq w F v l)(hb:∀ k cur,w.heap[k]?=some (.cells cur 214 (0,0))∨w.heap[k]?=some (.cells cur 303 (0,0))→F k→w'.heap[k]?=w.heap[k]?):rq w' F v l:=by
 rcases h with h | ⟨g,off,cap,cur,fv,h1,h2,h3,h4,h5,h6,h7,h8⟩
 ·exact .inl h
 ·refine .inr ⟨g,off,cap,cur,fv,h1,h2,(hb g cur (.inl h3) h2).trans h3,h4,h5,h6,h7,fun i h h'=>?_⟩
  obtain ⟨k1,k2,k3,k4⟩:=h8 i h h';refine ⟨k1,k2,fj k3 fun k hk=>?_,k4⟩
  obtain ⟨_,_,c,hc⟩:=eL k3 k hk;exact hb k c (.inr hc) (k4 k hk)
theorem rq.imp(h:rq w F v l)(hf:∀ k,F k→G k):rq w G v l:=by
 rcases h with h | ⟨g,off,cap,cur,fv,h1,h2,h3,h4,h5,h6,h7,h8⟩
 ·exact .inl h
 ·exact .inr ⟨g,off,cap,cur,fv,h1,hf g h2,h3,h4,h5,h6,h7,fun i h h'=>⟨(h8 i h h').1,(h8 i h h').2.1,(h8 i h h').2.2.1,fun k hk=>hf k ((h8 i h h').2.2.2 k hk)⟩⟩
theorem cP.ok{w:World}{b:Nat}{F:Nat→Prop}{d:bE}(h:cP w b F d):d.Ok:=by obtain ⟨_,_,_,_,_,h⟩:=h;exact h.ok
theorem cP.lt{w:World}{b:Nat}{F:Nat→Prop}{d:bE}(h:cP w b F d):∀ i,F i→i<w.heap.size:=by obtain ⟨_,_,_,_,_,h⟩:=h;exact h.lt
theorem cP.fb{w:World}{b:Nat}{F:Nat→Prop}{d:bE}(h:cP w b F d):F b:=by obtain ⟨_,_,_,_,_,h⟩:=h;exact h.fb
theorem cP.keep{G':Nat→Prop}(h:cP w b F d)(hs:Step G G' w w')(hn:∀ k,F k→¬ G k):cP w' b F d:=by
 obtain ⟨mb,nb,pv,av,Dn,h⟩:=h;have hb:∀ k,F k→w'.heap[k]?=w.heap[k]?:=fun k hk=>hs.block k (h.lt k hk) (hn k hk)
 exact ⟨mb,nb,pv,av,Dn,(hb b h.fb).trans h.dx,h.fb,h.fm,h.fn,h.ne,dK h.mapD (hb mb h.fm),dK h.sd (hb nb h.fn),h.new,fj h.aX (fun g hg=>hb g (h.pf g hg)),h.pf,
  h.eQ.block (fun k _ _ hk=>hb k hk),h.ok,fun i hi=>aq (h.lt i hi) hs.size⟩
theorem cP.below(h:cP w b F d)(hs:Below w.heap.size w w'):cP w' b F d :=
 h.keep (Step.bD (F:=fun _=>False) hs) (fun _ _ h=>h)
theorem cX.cell{w:World}{b:Nat}{F:Nat→Prop}{d:bE}{mb nb:Nat}{pv av:Value}{Dn:DataW Unit}(h:cX w b F d mb nb pv av Dn)(j:Nat):w.cell? ⟨b,j,none⟩=(jv d mb nb pv av)[j]?:=cell_of_row w b j _ _ _ h.dx
theorem cX.frozen{w:World}{b:Nat}{F:Nat→Prop}{d:bE}{mb nb:Nat}{pv av:Value}{Dn:DataW Unit}(h:cX w b F d mb nb pv av Dn)(j:Nat):w.frozen? ⟨b,j,none⟩=false:=by
 unfold World.frozen?;rw [show w.heap[(⟨b,j,none⟩ : Addr).block]?=_ from h.dx]
 simp
theorem DI:∀ (l:List gL) (lo hi:Int),lo≤hi→(∀ x ∈ l,lo≤x.ix∧x.ix<hi)→l.Pairwise (fun x y=>x.ix<y.ix)→(l.length:Int)≤hi - lo
 | [],lo,hi,h0,_,_=>by simp;omega
 | x::r,lo,hi,h0,h,hp=>by
  obtain ⟨h1,h2⟩:=List.pairwise_cons.1 hp;have hx:=h x (by simp)
  have ih:=DI r (x.ix+1) hi (by omega) (fun y hy=>⟨by have:=h1 y hy;omega,(h y (by simp [hy])).2⟩) h2
  simp only [List.length_cons];omega
theorem bE.Ok.UL(h:d.Ok):d.eG.length≤8388615:=by
 have:=DI d.eG 0 d.size h.s0 (fun x hx=>⟨(h.eG x hx).1.lo,(h.eG x hx).1.hi⟩) h.rise
 have:=h.s1;omega
structure mN(base:Nat)(A:Nat→Addr)(w:World):Prop where
 arg:w.cell? ⟨0,0,none⟩=some (.iface 360 (.pointer (some (A 0))))
 many:w.cell? ⟨2,0,none⟩=some (.iface 360 (.pointer (some (A 2))))
 dead:w.cell? ⟨7,0,none⟩=some (.iface 360 (.pointer (some (A 7))))
 lo:0<base∧2<base∧7<base
 size:base≤w.heap.size
theorem mN.keep(h:mN base A w)(hb:Below base w w'):mN base A w' :=
 ⟨(World.cell?_of_block (a:=⟨0,0,none⟩) (hb.block _ h.lo.1)).trans h.arg,(World.cell?_of_block (a:=⟨2,0,none⟩) (hb.block _ h.lo.2.1)).trans h.many,(World.cell?_of_block (a:=⟨7,0,none⟩) (hb.block _ h.lo.2.2)).trans h.dead,h.lo,ar h.size hb.size⟩
theorem mN.step(h:mN base A w)(hs:Step F F' w w')(hF:∀ k,F k→base≤k):mN base A w':=h.keep (hs.below hF h.size)
theorem Step.ge(h:Step F F' w w')(hF:∀ k,F k→base≤k)(hb:base≤w.heap.size):∀ k,F' k→base≤k:=fun k hk=>(h.sub k hk).elim (hF k) (fun h'=>ar hb h')
theorem Eb:Vb (.map []) []:=fun i=>⟨rfl,fun k h=>by simp [ez] at h⟩
theorem B5(w:World)(n s:Int)(hs:oY n 0 8388615=s):∃ b F,Ending.returned (Value.pointer (some ⟨w.heap.size+1+1,0,none⟩)) = .returned (.pointer (some ⟨b,0,none⟩))∧cP (((w.alloc (.map #[] 0)).alloc (.map #[] 0)).alloc (.cells #[.int .i64 s,.map (some w.heap.size),.slice none 0 0,.map (some (w.heap.size+1)),.slice none 0 0,.bool false,.int .i64 0,.int .i64 0,.int .i64 0] 142)) b F (iJ n)∧Below w.heap.size w (((w.alloc (.map #[] 0)).alloc (.map #[] 0)).alloc (.cells #[.int .i64 s,.map (some w.heap.size),.slice none 0 0,.map (some (w.heap.size+1)),.slice none 0 0,.bool false,.int .i64 0,.int .i64 0,.int .i64 0] 142))∧∀ k,F k→w.heap.size≤k:=by
 have fo:=World.ownsMap_made (H:=Unit) w prog 3 tE;have jD:=World.ownsMap_made (H:=Unit) (w.alloc (.map #[] 0)) prog 3 (plainElem prog 3);refine ⟨w.heap.size+1+1,fun k=>w.heap.size≤k∧k<w.heap.size+3,rfl,⟨w.heap.size,w.heap.size+1,.slice none 0 0,.slice none 0 0,.map [],?_,?_,?_,?_,by omega,?_,?_,Eb,World.ownsRow_nil _ _ _ _,fun g hg=>by simp [Value.ownBlock] at hg,.inl ⟨rfl,rfl⟩,LA n,?_⟩,?_,fun k hk=>hk.1⟩
 ·have h:=heap_alloc_new ((w.alloc (.map #[] 0)).alloc (.map #[] 0)) (.cells #[.int .i64 s,.map (some w.heap.size),.slice none 0 0,.map (some (w.heap.size+1)),.slice none 0 0,.bool false,.int .i64 0,.int .i64 0,.int .i64 0] 142);simp only [World.size_alloc] at h;rw [h];simp only [jv,iJ,hs]
 ·omega
 ·omega
 ·omega
 ·exact ((fo.alloc _).alloc _)
 ·have:=jD.alloc (.cells #[.int .i64 s,.map (some w.heap.size),.slice none 0 0,.map (some (w.heap.size+1)),.slice none 0 0,.bool false,.int .i64 0,.int .i64 0,.int .i64 0] 142);simp only [World.size_alloc] at this;exact this
 ·intro i hi;simp;omega
 ·exact (((ai w _).alloc (by simp) _).alloc (by simp;omega) _)
theorem wA(n:Int)(w:World):Calls prog 38 #[.int .i64 n] w fun e w'=>∃ b F,e = .returned (.pointer (some ⟨b,0,none⟩))∧cP w' b F (iJ n)∧Below w.heap.size w w'∧∀ k,F k→w.heap.size≤k:=by
 have A9:=@run_makeMap prog;go_enter func38,ntmps38;go_wp2_with fail
 ·go_ret;obtain ⟨b,F,h1,h2⟩:=B5 w n 0 (by unfold oY;rw [if_pos (by omega)])
  exact ⟨b,h1,F,h2⟩
 ·go_ret;obtain ⟨b,F,h1,h2⟩:=B5 w n 8388615 (by unfold oY;rw [if_neg (by omega),if_pos (by omega)])
  exact ⟨b,h1,F,h2⟩
 ·go_ret;obtain ⟨b,F,h1,h2⟩:=B5 w n n (by unfold oY;rw [if_neg (by omega),if_neg (by omega)])
  exact ⟨b,h1,F,h2⟩
theorem rG(b:Nat)(F:Nat→Prop)(d:bE)(w:World)(h:cP w b F d):Calls prog 133 #[.pointer (some ⟨b,0,none⟩)] w fun e w'=>e = .returned (.int .i64 d.size)∧w=w':=by
 obtain ⟨mb,nb,pv,av,Dn,h⟩:=h;have c0:w.cell? ⟨b,0,none⟩=some (.int .i64 d.size):=h.cell 0;clear h;go_enter func133,ntmps133;go_wp2;go_ret;exact ⟨rfl,rfl⟩
theorem cX.set{w:World}{b:Nat}{F:Nat→Prop}{d d':bE}{mb nb:Nat}{pv av:Value}{Dn:DataW Unit}(h:cX w b F d mb nb pv av Dn)(j:Nat)(u:Value)(hc:(jv d mb nb pv av).setIfInBounds j u=jv d' mb nb pv av)(hd:d'.eG=d.eG)(hp:d'.aX=d.aX)(ha:d'.eQ=d.eQ)(ho:d'.Ok):cX (w.setCell ⟨b,j,none⟩ u) b F d' mb nb pv av Dn∧Step F F w (w.setCell ⟨b,j,none⟩ u):=by
 have eZ:Step F F w (w.setCell ⟨b,j,none⟩ u):=⟨rfl,rfl,rfl,by simp [World.setCell],fun k _ hn=>Below.heap_setCell w ⟨b,j,none⟩ u k (fun e=>hn (by rw [e];exact h.fb)),fun _ h=>.inl h⟩
 have cY:∀ k,k≠b→(w.setCell ⟨b,j,none⟩ u).heap[k]?=w.heap[k]?:=fun k hk=>Below.heap_setCell w ⟨b,j,none⟩ u k hk
 have zR:∀ k cur e,w.heap[k]?=some (.cells cur e (0,0))→e≠142→k≠b:=fun k cur e hk he hb=>by
  rw [hb,h.dx] at hk;simp only [Option.some.injEq,Obj.cells.injEq] at hk;exact he hk.2.1.symm
 refine ⟨⟨?_,h.fb,h.fm,h.fn,h.ne,?_,?_,by rw [hp];exact h.new,?_,h.pf,?_,ho,fun i hi=>by simpa [World.setCell] using h.lt i hi⟩,eZ⟩
 ·unfold World.setCell;simp only [dL,if_true];rw [h.dx];simp only [kx,Option.some.injEq];rw [← hc];rfl
 ·rw [hd];exact dK h.mapD (cY mb (ej h.mapD h.dx).symm)
 ·rw [hp];exact dK h.sd (cY nb (ej h.sd h.dx).symm)
 ·rw [hp];exact fj h.aX fun g hg=>by
   obtain ⟨_,_,cur,nR⟩:=eL h.aX g hg;exact cY g (zR g cur _ nR (by decide))
 ·rw [ha];exact h.eQ.block fun k cur hk _=>by
   rcases hk with hk | hk
   ·exact cY k (zR k cur _ hk (by decide))
   ·exact cY k (zR k cur _ hk (by decide))
theorem A7(b:Nat)(F:Nat→Prop)(d:bE)(s n:Int)(w:World)(h:cP w b F d)(hn:n<9223372036854775808):Calls prog 41 #[.pointer (some ⟨b,0,none⟩),.int .i64 s,.int .i64 n] w fun e w'=>e = .returned (.bool (d.fits s n))∧w=w':=by
 obtain ⟨mb,nb,pv,av,Dn,h⟩:=h;have c0:w.cell? ⟨b,0,none⟩=some (.int .i64 d.size):=h.cell 0;have s0:=h.ok.s0;have s1:=h.ok.s1;obtain ⟨sz,b8⟩ : ∃ sz,sz=d.size:=⟨_,rfl⟩;rw [← b8] at c0 s0 s1;have HF:Hid (d.fits s n=decide (0≤s∧0≤n∧s≤sz - n)):=(by rw [b8];rfl:d.fits s n=_)
 clear h b8;go_enter func41,ntmps41;by_cases g1:0≤s
 ·by_cases g2:0≤n
  ·have zq:decide (0≤s)=true:=decide_eq_true g1;have Ml:decide (0≤n)=true:=decide_eq_true g2;go_wp2;go_ret;refine ⟨?_,rfl⟩;rw [HF.out];simp [g1,g2]
  ·have zq:decide (0≤s)=true:=decide_eq_true g1;have Ml:decide (0≤n)=false:=decide_eq_false g2;go_wp2;go_ret;refine ⟨?_,rfl⟩;rw [HF.out,decide_eq_false (by omega)]
   rfl
 ·have zq:decide (0≤s)=false:=decide_eq_false g1;go_wp2;go_ret;refine ⟨?_,rfl⟩;rw [HF.out,decide_eq_false (by omega)]
  rfl
variable {b:Nat} {Dn:DataW Unit} {av:Value} {nb mb:Nat} {F:Nat→Prop} {w:World} {pv:Value} {w':World} {d:bE}
theorem cX.ace{n:Nat}(h:cX w b F d mb nb pv av Dn){l:List gL}(hm:w'.ownsMap prog 3 tE mb n (mC l))(hg:w.grownBy w' (some mb))(ho:{ d with eG:=l }.Ok) :
  cX w' b F { d with eG:=l } mb nb pv av Dn∧Step F F w w':=by
 have cY:∀ k,k<w.heap.size→k≠mb→w'.heap[k]?=w.heap[k]?:=fun k hk hn=>hg.block k hk (fun e=>hn (Option.some.inj e))
 have hc:∀ k (cur:Array Value) (e:TypeId),w.heap[k]?=some (Obj.cells cur e (0,0))→w'.heap[k]?=w.heap[k]?:=fun k cur e hk=>cY k (Array.getElem?_eq_some_iff.1 hk).1 (ej h.mapD hk)
 refine ⟨⟨(hc b _ _ h.dx).trans h.dx,h.fb,h.fm,h.fn,h.ne,?_,dK h.sd (cY nb h.sd.lt h.ne.symm),h.new,fj h.aX fun g hg=>?_,h.pf,h.eQ.block fun k cur hk _=>?_,ho,fun i hi=>aq (h.lt i hi) hg.size⟩,Step.D9 hg fun j hj=>.inl (by rw [← Option.some.inj hj];exact h.fm)⟩
 ·have:=zM hm;rwa [MO] at this
 ·obtain ⟨_,_,cur,nR⟩:=eL h.aX g hg;exact hc g cur _ nR
 ·rcases hk with hk | hk
  ·exact hc k cur _ hk
  ·exact hc k cur _ hk
theorem qS{m:Nat}{a:Addr}{v:Value}(hg:w.grownBy w' (some m))(hc:w.cell? a=some v)(hn:a.block≠m):w'.cell? a=some v :=
 (World.cell?_of_block (a:=a) (hg.block a.block (World.block_lt_of_cell? w a hc) (fun e=>hn (Option.some.inj e)))).trans hc
theorem oT{r:Option Nat}(h:Below w.heap.size w w'):w.grownBy w' r:=⟨h.os,h.tape,h.output,h.size,fun k hk _=>h.block k hk⟩
theorem cX.step(h:cX w b F d mb nb pv av Dn)(hg:w.grownBy w' (some mb)):Step F F w w' :=
 Step.D9 hg fun j hj=>.inl (by rw [← Option.some.inj hj];exact h.fm)
theorem Hj(h:cX w b F d mb nb pv av Dn)(i:Int)(t:ByteArray)(ht:t.size≤512)(h0:0≤i)(h1:i<d.size):Calls prog 42 #[.pointer (some ⟨b,0,none⟩),.int .i64 i,.string t] w fun e w'=>e = .returned (.tuple #[])∧cX w' b F { d with eG:=rI d.eG i (pad t) } mb nb pv av Dn∧w.grownBy w' (some mb):=by
 have hs:=h.ok.s1;have hl:=h.ok.UL;obtain ⟨k1,k2⟩:=Tm h.ok.eG h.ok.rise (i:=i) (t:=pad t) ⟨h0,h1,DZ t ht⟩;refine (LH b mb d.eG.length i t d.eG w (h.cell 1) h.mapD ht h0 (by omega) (by unfold maxLen;omega)).mono ?_
 rintro e w' ⟨rfl,hm,hg⟩;exact ⟨rfl,(h.ace hm hg ⟨h.ok.s0,h.ok.s1,k1,k2,h.ok.aX,h.ok.eQ⟩).1,hg⟩
theorem MP(h:cX w b F d mb nb pv av Dn) :
  cP (((w.setCell ⟨b,2,none⟩ (.slice none 0 0)).setCell ⟨b,3,none⟩ (.map (some w.heap.size))).alloc (.map #[] 0)) b (fun k=>F k∨k=w.heap.size) { d with aX:=[] } ∧
  Step F (fun k=>F k∨k=w.heap.size) w (((w.setCell ⟨b,2,none⟩ (.slice none 0 0)).setCell ⟨b,3,none⟩ (.map (some w.heap.size))).alloc (.map #[] 0)):=by
 have bO:=(Array.getElem?_eq_some_iff.1 h.dx).1;have b8:((w.setCell ⟨b,2,none⟩ (.slice none 0 0)).setCell ⟨b,3,none⟩ (.map (some w.heap.size))).heap.size=w.heap.size:=by simp [World.setCell]
 have Gj:∀ k,k<w.heap.size→(((w.setCell ⟨b,2,none⟩ (.slice none 0 0)).setCell ⟨b,3,none⟩ (.map (some w.heap.size))).alloc (.map #[] 0)).heap[k]?=((w.setCell ⟨b,2,none⟩ (.slice none 0 0)).setCell ⟨b,3,none⟩ (.map (some w.heap.size))).heap[k]?:=fun k hk =>
  (ai _ _).block k (by rw [b8];exact hk)
 have cY:∀ k,k<w.heap.size→k≠b→(((w.setCell ⟨b,2,none⟩ (.slice none 0 0)).setCell ⟨b,3,none⟩ (.map (some w.heap.size))).alloc (.map #[] 0)).heap[k]?=w.heap[k]?:=fun k hk hn=>by
  rw [Gj k hk,Below.heap_setCell _ ⟨b,3,none⟩ _ k hn,Below.heap_setCell _ ⟨b,2,none⟩ _ k hn]
 have zR:∀ k (cur:Array Value) (e:TypeId),w.heap[k]?=some (Obj.cells cur e (0,0))→e≠142→(((w.setCell ⟨b,2,none⟩ (.slice none 0 0)).setCell ⟨b,3,none⟩ (.map (some w.heap.size))).alloc (.map #[] 0)).heap[k]?=w.heap[k]?:=fun k cur e hk he=>cY k (Array.getElem?_eq_some_iff.1 hk).1 fun hb=>by
  rw [hb,h.dx] at hk;simp only [Option.some.injEq,Obj.cells.injEq] at hk;exact he hk.2.1.symm
 have mw:=World.ownsMap_made (H:=Unit) ((w.setCell ⟨b,2,none⟩ (.slice none 0 0)).setCell ⟨b,3,none⟩ (.map (some w.heap.size))) prog 3 (plainElem prog 3);rw [b8] at mw;refine ⟨⟨mb,w.heap.size,.slice none 0 0,av,.map [],?_,.inl h.fb,.inl h.fm,.inr rfl,?_,dK h.mapD (cY mb h.mapD.lt (ej h.mapD h.dx).symm),mw,Eb,World.ownsRow_nil _ _ _ _,fun g hg=>by simp [Value.ownBlock] at hg,?_,?_,?_⟩,?_⟩
 ·rw [Gj b bO];unfold World.setCell;simp only [dL,if_true];rw [h.dx];rfl
 ·have:=h.mapD.lt;omega
 ·exact (h.eQ.block fun k cur hk _=>by
   rcases hk with hk | hk
   ·exact zR k cur _ hk (by decide)
   ·exact zR k cur _ hk (by decide)).imp fun k hk=>.inl hk
 ·exact ⟨h.ok.s0,h.ok.s1,h.ok.eG,h.ok.rise,by simp,h.ok.eQ⟩
 ·intro i hi;simp only [World.size_alloc,b8];rcases hi with hi | hi
  ·have:=h.lt i hi;omega
  ·omega
 ·exact ⟨rfl,rfl,rfl,by simp only [World.size_alloc,b8];omega,fun k hk hn=>cY k hk fun e=>hn (by rw [e];exact h.fb),fun k hk=>hk.elim .inl (fun e=>.inr (by omega))⟩
theorem Ri(b:Nat)(F:Nat→Prop)(d:bE)(w:World)(h:cP w b F d):Calls prog 100 #[.pointer (some ⟨b,0,none⟩)] w fun e w'=>e = .returned (.tuple #[])∧cP w' b (fun k=>F k∨k=w.heap.size) { d with aX:=[] }∧Step F (fun k=>F k∨k=w.heap.size) w w':=by
 obtain ⟨mb,nb,pv,av,Dn,h⟩:=h;have c2:w.cell? ⟨b,2,none⟩=some pv:=h.cell 2;have c3:w.cell? ⟨b,3,none⟩=some (.map (some nb)):=h.cell 3;have f2:=h.frozen 2;have f3:=h.frozen 3;have A9:=@run_makeMap prog;have bQ:b<w.heap.size:=(Array.getElem?_eq_some_iff.1 h.dx).1;have aV:(w.setCell ⟨b,2,none⟩ (.slice none 0 0)).heap[b]?=some (.cells ((jv d mb nb pv av).setIfInBounds 2 (.slice none 0 0)) 142 (0,0)):=by
  unfold World.setCell;simp only [dL,if_true];rw [h.dx];rfl
 have bW:((w.setCell ⟨b,2,none⟩ (.slice none 0 0)).alloc (.map #[] 0)).heap[b]?=some (.cells ((jv d mb nb pv av).setIfInBounds 2 (.slice none 0 0)) 142 (0,0)) :=
  ((ai _ _).block b (by simpa [World.setCell] using bQ)).trans aV
 have d3:((w.setCell ⟨b,2,none⟩ (.slice none 0 0)).alloc (.map #[] 0)).cell? ⟨b,3,none⟩=some (.map (some nb)):=by rw [cell_of_row _ _ _ _ _ _ bW];rfl
 have g3:((w.setCell ⟨b,2,none⟩ (.slice none 0 0)).alloc (.map #[] 0)).frozen? ⟨b,3,none⟩=false:=by
  unfold World.frozen?;rw [show ((w.setCell ⟨b,2,none⟩ (.slice none 0 0)).alloc (.map #[] 0)).heap[(⟨b,3,none⟩ : Addr).block]?=_ from bW]
  simp
 clear aV bW c3 f3;have HH:Hid _:=MP h;clear h;go_enter func100,ntmps100;go_wp2;go_end0
 exact ⟨rfl,HH.out⟩
theorem wrap_i64(n:Int)(h1 : -9223372036854775808≤n)(h2:n≤9223372036854775807):IntKind.i64.wrap n=n:=by
 simp [IntKind.wrap,IntKind.bits,IntKind.signed]
 omega
theorem cX.alloc{w:World}{b:Nat}{F:Nat→Prop}{d:bE}{mb nb:Nat}{pv av:Value}{Dn:DataW Unit}(h:cX w b F d mb nb pv av Dn){w':World}(hb:Below w.heap.size w w'):cX w' b F d mb nb pv av Dn:=by
 have hk:∀ k,F k→w'.heap[k]?=w.heap[k]?:=fun k hk=>hb.block k (h.lt k hk)
 exact ⟨(hk b h.fb).trans h.dx,h.fb,h.fm,h.fn,h.ne,dK h.mapD (hk mb h.fm),dK h.sd (hk nb h.fn),h.new,fj h.aX (fun g hg=>hk g (h.pf g hg)),h.pf,
  h.eQ.block (fun k _ _ hf=>hk k hf),h.ok,fun i hi=>aq (h.lt i hi) hb.size⟩
theorem DC{d:bE}(h:d.Ok){j:Nat}(hj:j<d.aX.length):sM d.size d.aX[j]:=h.aX _ (aJ hj)
theorem GD{α:Type}(l:List α)(k:Nat)(h:k<l.length):l.take (k+1)=l.take k++[l[k]]:=by rw [ax h]
end S.V
end Go.Proofs.YtihmgigfkmofnaaGreatDoor
