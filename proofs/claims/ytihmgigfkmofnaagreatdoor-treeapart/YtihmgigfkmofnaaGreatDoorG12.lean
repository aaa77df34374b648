import Derived.Test.YtihmgigfkmofnaaGreatDoorG11
import Derived.Deep.QuietTactic
import Derived.Lib.BufferWrite
import Derived.Deep.WholeRow
set_option maxHeartbeats 4000000
set_option maxRecDepth 100000
open Go.Proofs.Tryz
namespace Go.Proofs.YtihmgigfkmofnaaGreatDoor
open Go.RowKit
def I2(c:UInt8):Bool:=c == 0
def iT(l:List UInt8):List UInt8:=l.dropWhile I2
def JT(s:ByteArray):ByteArray:=⟨(iT s.data.toList).toArray⟩
def FH(s:ByteArray):ByteArray:=⟨(iT s.data.toList.reverse).reverse.toArray⟩
theorem ext_toList(s:ByteArray)(a b:Nat):(s.extract a b).data.toList=(s.data.toList.drop a).take (b - a):=by
 rw [ByteArray.data_extract,Array.toList_extract]
theorem tq{x y:ByteArray}(h:x.data.toList=y.data.toList):x=y:=by
 have h2:x.data=y.data:=Array.toList_inj.1 h;cases x;exact congrArg ByteArray.mk h2
theorem Cw(x:ByteArray)(k:Nat)(hk:k=x.size - 1)(h:k<x.size):x.data.toList=x.data.toList.take k++[x[k]]:=by
 have h1:k<x.data.toList.length:=by rw [bsize];exact h
 have:=ay h1;rw [al (by rw [bsize];omega)] at this
 exact this
theorem AV(x:ByteArray)(h:0<x.size):x.data.toList=x[0]::x.data.toList.drop 1:=by
 have h1:0<x.data.toList.length:=by rw [bsize];exact h
 have:=aZ h1;rw [List.drop_zero] at this;exact this
theorem JR(s:ByteArray)(w:World)(hs:s.size≤140737488355328):Calls prog 245 #[.string s,.int .u8 0] w fun e w'=>e = .returned (.string (FH s))∧w'=w:=by
 obtain ⟨t,ht⟩ : ∃ t,t=FH s:=⟨_,rfl⟩;rw [← ht];have HT:=ab ht;clear ht;go_enter func245,ntmps245;go_wp2;go_loop [0] (fun v=>∃ (x:ByteArray),v = .string x∧iT x.data.toList.reverse=iT s.data.toList.reverse∧x.size≤s.size) (fun v=>match v with | .string x=>x.size | _=>0)
 case atStart=>exact ⟨s,rfl,rfl,aj _⟩
 case round =>
  obtain ⟨x,rfl,he,hle⟩:=hrel;have HE:=ab he;clear he;by_cases h0:0<x.size
  ·have h0I:(0:Int)<(x.size:Int):=by omega
   obtain ⟨k,hk⟩ : ∃ k,k=x.size - 1:=⟨_,rfl⟩;have hw:IntKind.i64.wrap ((x.size:Int) - 1)=(k:Int):=by rw [IntKind.wrap_i64];omega
   have bN:k<x.size:=by omega
   have dP:(k:Int)<(x.size:Int):=by omega
   have Rk:(0:Int)≤(k:Int):=by omega
   have aib:(k:Int)≤(x.size:Int):=by omega
   have HK:=ab hk;have HL:=ab (Cw x k hk bN);clear hk;by_cases hz:x[k]=0
   ·have VG:((x[k].toNat:Int) == 0)=true:=by rw [hz];rfl
    have HZ:=ab hz;clear hz;go_wp2;go_round
    case rel =>
     refine ⟨_,rfl,?_,?_⟩
     ·rw [← HE.out,ext_toList,List.drop_zero,Nat.sub_zero];conv=>rhs;rw [HL.out,HZ.out,List.reverse_append]
      rfl
     ·rw [ByteArray.size_extract];omega
    case measure=>simp [ByteArray.size_extract];omega
   ·have VG:((x[k].toNat:Int) == 0)=false:=by
     rw [beq_eq_false_iff_ne];intro h;exact hz (UInt8.toNat_inj.1 (by simpa using h))
    have HX:Hid (x=t):=by
     have hb:I2 x[k]=false:=by simpa [I2] using hz
     refine tq ?_
     rw [HT.out];show _=(iT s.data.toList.reverse).reverse.toArray.toList
     rw [← HE.out,HL.out,List.reverse_append];show _=(List.dropWhile I2 (x[k]::_)).reverse.toArray.toList
     rw [jk (by rw [hb];decide)]
     simp
    clear hz;go_wp2;go_ret;exact ⟨by rw [← HX.out];rfl,rfl⟩
  ·have h0I:¬ (0:Int)<(x.size:Int):=by omega
   have HX:Hid (x=t):=by
    refine tq ?_
    rw [HT.out];show _=(iT s.data.toList.reverse).reverse.toArray.toList
    have hn:x.data.toList=[]:=List.length_eq_zero_iff.1 (by rw [bsize];omega)
    rw [← HE.out,hn];rfl
   go_wp2;go_ret;exact ⟨by rw [← HX.out];rfl,rfl⟩
theorem JS(s:ByteArray)(w:World):Calls prog 244 #[.string s,.int .u8 0] w fun e w'=>e = .returned (.string (JT s))∧w'=w:=by
 obtain ⟨t,ht⟩ : ∃ t,t=JT s:=⟨_,rfl⟩;rw [← ht];have HT:=ab ht;clear ht;go_enter func244,ntmps244;go_wp2;go_loop [0] (fun v=>∃ (x:ByteArray),v = .string x∧iT x.data.toList=iT s.data.toList∧x.size≤s.size) (fun v=>match v with | .string x=>x.size | _=>0)
 case atStart=>exact ⟨s,rfl,rfl,aj _⟩
 case round =>
  obtain ⟨x,rfl,he,hle⟩:=hrel;have HE:=ab he;clear he;by_cases h0:0<x.size
  ·have h0I:(0:Int)<(x.size:Int):=by omega
   have h1I:(1:Int)≤(x.size:Int):=by omega
   have HL:=ab (AV x h0);by_cases hz:x[0]=0
   ·have VG:((x[0].toNat:Int) == 0)=true:=by rw [hz];rfl
    have HZ:=ab hz;clear hz;go_wp2;go_round
    case rel =>
     refine ⟨_,rfl,?_,?_⟩
     ·rw [← HE.out,ext_toList,al (by rw [ao,bsize];omega)]
      conv=>rhs;rw [HL.out,HZ.out]
      rfl
     ·rw [ByteArray.size_extract];omega
    case measure=>simp [ByteArray.size_extract];omega
   ·have VG:((x[0].toNat:Int) == 0)=false:=by
     rw [beq_eq_false_iff_ne];intro h;exact hz (UInt8.toNat_inj.1 (by simpa using h))
    have HX:Hid (x=t):=by
     have hb:I2 x[0]=false:=by simpa [I2] using hz
     refine tq ?_
     rw [HT.out];show _=(iT s.data.toList).toArray.toList
     rw [← HE.out];conv=>rhs;rw [HL.out]
     show _=(List.dropWhile I2 (x[0]::_)).toArray.toList
     rw [jk (by rw [hb];decide)]
     exact HL.out
    clear hz;go_wp2;go_ret;exact ⟨by rw [← HX.out];rfl,rfl⟩
  ·have h0I:¬ (0:Int)<(x.size:Int):=by omega
   have HX:Hid (x=t):=by
    refine tq ?_
    rw [HT.out];show _=(iT s.data.toList).toArray.toList
    have hn:x.data.toList=[]:=List.length_eq_zero_iff.1 (by rw [bsize];omega)
    rw [← HE.out,hn];rfl
   go_wp2;go_ret;exact ⟨by rw [← HX.out];rfl,rfl⟩
theorem AB(l:List UInt8):iT l=[]↔∀ x ∈ l,I2 x=true:=by
 induction l with
 | nil=>simp [iT]
 | cons a r ih =>
  unfold iT at ih ⊢;cases ha:I2 a with
  | true=>rw [List.dropWhile_cons_of_pos ha,ih];simp [ha]
  | false=>rw [jk (by rw [ha];decide)];simp [ha]
theorem G7(l:List UInt8)(a:UInt8)(r:List UInt8)(h:iT l=a::r):I2 a=false:=by
 induction l with
 | nil=>simp [iT] at h
 | cons b q ih =>
  unfold iT at ih h;cases hb:I2 b with
  | true=>rw [List.dropWhile_cons_of_pos hb] at h;exact ih h
  | false =>
   rw [jk (by rw [hb];decide)] at h
   cases h;exact hb
theorem Ct(s:ByteArray):JT (FH s)=ByteArray.empty↔∀ j,j<s.size→s.data.toList.getD j 0=0:=by
 have h1:JT (FH s)=ByteArray.empty↔iT (iT s.data.toList.reverse).reverse=[]:=by
  constructor
  ·intro h;have:=congrArg (fun x=>x.data.toList) h
   simpa [JT,FH] using this
  ·intro h;refine tq ?_
   simpa [JT,FH] using h
 rw [h1];rw [AB];constructor
 ·intro h j hj;have hz:iT s.data.toList.reverse=[]:=by
   cases hd:iT s.data.toList.reverse with
   | nil=>rfl
   | cons a r =>
    exfalso
    have hp:=h a (by rw [hd];simp)
    rw [G7 _ a r hd] at hp;cases hp
  rw [AB] at hz;rw [BS s j hj];have:=hz s[j] (by rw [List.mem_reverse];show s.data[j] ∈ _;simp)
  simpa [I2] using this
 ·intro h x hx;rw [List.mem_reverse] at hx;have vu:=(List.dropWhile_sublist I2 (l:=s.data.toList.reverse)).mem hx;rw [List.mem_reverse] at vu;obtain ⟨j,hj,rfl⟩:=aQ vu;have:=h j (by rw [bsize] at hj;exact hj)
  rw [aJ,af hj] at this;simpa [I2] using this
theorem AA(s:ByteArray):s.toList.isEmpty=decide (s=ByteArray.empty):=(decide_eq_emptyBytes s).symm
theorem Ni(s:ByteArray)(w:World)(hs:s.size≤140737488355328):Calls prog 228 #[.string s,.string ⟨#[0]⟩] w fun e w'=>e = .returned (.string (JT (FH s)))∧Below w.heap.size w w':=by
 by_cases h0:s=⟨#[]⟩
 ·subst h0;have HT:Hid (JT (FH ⟨#[]⟩)=⟨#[]⟩):=rfl;rw [HT.out];go_enter func228,ntmps228;go_wp2;go_ret;exact ⟨rfl,Below.refl _ _⟩
 ·have dE:s.toList.isEmpty=false:=by rw [AA];exact decide_eq_false h0
  have Bq:¬ s.toList=[]:=fun h=>by rw [h] at dE;cases dE
  have xL:(((({ data:=#[0] }:ByteArray)[0]).toNat:Nat):Int)=0:=rfl;have HR:=ab (fun w=>JR s w hs)
  have HL:=ab (fun w=>JS (FH s) w)
  generalize JT (FH s)=t at *;generalize FH s=r at *;go_enter func228,ntmps228;go_wp2_with fail;go_quiet ((first | (go_at_call 245;exact Calls.quiet_of_same (HR.out _)) | (go_at_call 244;exact Calls.quiet_of_same (HL.out _))))
  go_wp2;go_ret;exact ⟨rfl,aA (Below.refl _ _) _⟩
theorem tO:(prog.info? 5).map (·.size)=some 1:=by kernel_rfl
structure bJ(rb:Nat)(w w':World):Prop where
 os:w'.os=w.os
 tape:w'.tape=w.tape
 output:w'.output=w.output
 size:w.heap.size≤w'.heap.size
 block:∀ k,k<w.heap.size→k≠rb→w'.heap[k]?=w.heap[k]?
theorem bJ.refl(rb:Nat)(w:World):bJ rb w w:=⟨rfl,rfl,rfl,aj _,fun _ _ _=>rfl⟩
theorem bJ.trans{rb:Nat}{a b c:World}(h:bJ rb a b)(k:bJ rb b c):bJ rb a c :=
 ⟨k.os.trans h.os,k.tape.trans h.tape,k.output.trans h.output,ar h.size k.size,fun i hi hn=>(k.block i (aq hi h.size) hn).trans (h.block i hi hn)⟩
theorem bJ.bw{rb:Nat}{w w':World}(h:Below w.heap.size w w'):bJ rb w w':=⟨h.os,h.tape,h.output,h.size,fun k hk _=>h.block k hk⟩
theorem bJ.set(rb o:Nat)(w:World)(u:Value):bJ rb w (w.setCell ⟨rb,o,none⟩ u) :=
 ⟨rfl,rfl,rfl,by simp [World.setCell],fun k _ hn=>Below.heap_setCell w ⟨rb,o,none⟩ u k (fun e=>hn e)⟩
theorem bJ.setRow(rb:Nat)(w:World)(cs:Array Value):bJ rb w (w.setRow rb cs) :=
 ⟨rfl,rfl,rfl,by simp [World.setRow],fun k _ hn=>setRow_other w rb k cs hn⟩
theorem bJ.below{rb:Nat}{w0 w w':World}(h:bJ rb w w')(hb:Below w0.heap.size w0 w)(hr:w0.heap.size≤rb):Below w0.heap.size w0 w' :=
 hb.trans ⟨h.os,h.tape,h.output,h.size,fun k hk=>h.block k (aq hk hb.size) (by omega)⟩
theorem bJ.cell{rb:Nat}{w w':World}(h:bJ rb w w'){a:Addr}{v:Value}(hc:w.cell? a=some v)(hn:a.block≠rb):w'.cell? a=some v :=
 (World.cell?_of_block (a:=a) (h.block a.block (World.block_lt_of_cell? w a hc) hn)).trans hc
def nG(t:TypeId)(w:World)(g:Nat)(l:List UInt8):Prop:=w.heap[g]?=some (.cells (dS l).toArray t (0,0))
theorem nG.cell{t:TypeId}{w:World}{g:Nat}{l:List UInt8}(h:nG t w g l)(j:Nat)(hj:j<l.length):w.cell? ⟨g,j,none⟩=some (.int .u8 (l[j].toNat:Int)):=by
 rw [cell_of_row w g j _ _ _ h];simpa using iu l j hj
theorem pY(l:List UInt8)(o:Nat)(c:List UInt8):splice (dS l) o (dS c)=dS (splice l o c):=by
 simp [splice,dS]
theorem NI(t:TypeId)(w:World)(l:List UInt8):nG t (w.alloc (.cells (dS l).toArray t)) w.heap.size l:=heap_alloc_new w _
def MA(s:ByteArray):Prop:=∀ j,j<s.size→s.data.toList.getD j 0=0
theorem QB(s:ByteArray)(w:World)(hs:s.size≤140737488355328):Calls prog 190 #[.string s] w fun e w'=>((MA s∧e = .returned (.bool true))∨(¬ MA s∧e = .returned (.bool false)))∧Below w.heap.size w w':=by
 have HT:=ab (Ni s w hs);by_cases hz:MA s
 ·have ht:JT (FH s)=ByteArray.empty:=(Ct s).2 hz;rw [ht] at HT;have HZ:=ab hz;clear hz ht;go_enter func190,ntmps190;go_wp2_with fail;refine HT.out.mono ?_
  rintro e w' ⟨rfl,hb⟩;go_wp2;go_ret;exact ⟨.inl ⟨HZ.out,rfl⟩,hb⟩
 ·have ht:¬ JT (FH s)=ByteArray.empty:=fun h=>hz ((Ct s).1 h)
  have dE:(JT (FH s)).toList.isEmpty=false:=by rw [AA];exact decide_eq_false ht
  have HZ:=ab hz;generalize JT (FH s)=t at *;have Bq:¬ t.toList=[]:=fun h=>by rw [h] at dE;cases dE
  clear hz ht;go_enter func190,ntmps190;go_wp2_with fail;refine HT.out.mono ?_
  rintro e w' ⟨rfl,hb⟩;go_wp2;go_ret;exact ⟨.inr ⟨HZ.out,rfl⟩,hb⟩
def uM(b:List UInt8)(n k:Nat):List Value:=strs ((bX b n).take k)++List.replicate (n - k) (.string ByteArray.empty)
theorem Ka(b:List UInt8)(n:Nat):uM b n 0=List.replicate n (.string ByteArray.empty):=by simp [uM,strs]
theorem NK(b:List UInt8)(n:Nat):uM b n n=strs (bX b n):=by
 unfold uM;rw [al (by rw [fY];exact aj _),dL];simp
theorem CO(b:List UInt8)(n k:Nat)(h:k≤n):(uM b n k).length=n:=by
 simp [uM,strs,fY];omega
theorem NJ(b:List UInt8)(n k:Nat)(h:k<n)(hk:k<(bX b n).length):(uM b n k).set k (.string (bX b n)[k])=uM b n (k+1):=by
 unfold uM;rw [bV _ _ (by rw [jS,ag,fY];omega),ay hk,n7]
 rw [jS,ag,fY,a7 (by omega),dL,show n - k=(n - (k+1))+1 by omega,List.replicate_succ,List.set_cons_zero]
 simp [strs]
theorem getD_drop(l:List UInt8)(a j:Nat):(l.drop a).getD j 0=l.getD (a+j) 0:=by
 rw [aJ,aJ,dk]
theorem QA(s:ByteArray)(a:Nat)(ha:a≤s.size):MA (s.extract a s.size)↔∀ j,a≤j→j<s.size→s.data.toList.getD j 0=0:=by
 have hl:(s.extract a s.size).data.toList=s.data.toList.drop a:=by
  rw [ext_toList,al (by rw [ao,bsize];omega)]
 have b7:(s.extract a s.size).size=s.size - a:=by rw [ByteArray.size_extract];omega
 unfold MA;rw [hl,b7];constructor
 ·intro h j h1 h2;have:=h (j - a) (by omega)
  rw [getD_drop,show a+(j - a)=j by omega] at this
  exact this
 ·intro h j hj;rw [getD_drop];exact h _ (by omega) (by omega)
def UU(A:Nat→Addr)(c:Int)(s:ByteArray)(w:World)(e:Ending)(w':World):Prop :=
 (0≤c∧Mn s.data.toList c.toNat∧∃ g,e = .returned (.tuple #[.slice (some ⟨g,0,none⟩) c.toNat c.toNat,.nilIface])∧w'.ownsRow w.heap.size 9 1 (.slice (some ⟨g,0,none⟩) c.toNat c.toNat) c.toNat (strs (bX s.data.toList c.toNat))) ∨
  (¬ (0≤c∧Mn s.data.toList c.toNat)∧e = .returned (.tuple #[.slice none 0 0,.iface 360 (.pointer (some (A 1)))]))
theorem R7(A:Nat→Addr)(n:Nat)(s:ByteArray)(w:World)(hn:n≤2036)(b7:s.size=4072)(hE:dA 4 eR A w):Calls prog 153 #[.int .i64 (n:Int),.string s] w fun e w'=>UU A n s w e w'∧Below w.heap.size w w':=by
 obtain ⟨i0,hi,nK,mG,o7⟩:=info_parts info9;obtain ⟨w1,pC,lp,fG⟩:=run_make_full (P:=prog) w w.heap.size 231 9 i0 (.string ByteArray.empty) 1 underlying231 hi nK mG .i64 .i64 n (by rw [o7];omega) (by unfold maxLen;omega) (aj _)
 have aL:Below w.heap.size w w1:=(Below.refl _ _).grown fG (aj _) (fun j hj=>by cases hj)
 rw [Nat.mul_one,show (Value.string ByteArray.empty).cells=#[.string ByteArray.empty] from rfl,toList_madeCells_one] at lp
 have qP:Hid (w1.ownsRow w.heap.size 9 1 (.slice (some ⟨w.heap.size,0,none⟩) n n) n (uM s.data.toList n 0)):=by
  show World.ownsRow _ _ _ _ _ _ _
  rw [Ka];exact lp
 have bP:=ab aL;have HE:=ab hE;have gD:=ab b7;have d1:((s.size:Int) != 4072)=false:=by rw [b7];rfl
 have hnI:(n:Int)≤2036:=by omega
 have Aq:¬ (n:Int)<0:=by omega
 have Pd:¬ (2036:Int)<(n:Int):=by omega
 have Rg:(0:Int)≤(n:Int):=by omega
 have GB:IntKind.i64.wrap (2*(n:Int))=((2*n:Nat):Int):=by rw [IntKind.wrap_i64];omega
 obtain ⟨n2,V0⟩ : ∃ n2,n2=2*n:=⟨_,rfl⟩;rw [← V0] at GB;have E3:=ab V0;have HLB:Hid (s.data.toList.length=4072):=by show _=_;rw [bsize];exact b7
 obtain ⟨q,hq⟩ : ∃ q,q=w.heap.size:=⟨_,rfl⟩;rw [← hq] at pC qP;have HQ:=ab hq;clear lp fG aL hE b7 nK mG o7 hi V0 hq;go_enter func153,ntmps153;go_wp2_with fail;clear pC;go_loopw [7,28] (fun st i wr=>∃ k:Nat,k≤n∧i = .int .i64 k∧st = .int .i64 ((kY s.data.toList n k:Nat):Int)∧kY s.data.toList n k≤4072∧(∀ i,i<k→kY s.data.toList n i≤kY s.data.toList n (i+1)∧kY s.data.toList n (i+1)≤4072)∧wr.ownsRow q 9 1 (.slice (some ⟨q,0,none⟩) n n) n (uM s.data.toList n k)∧Below w.heap.size w wr) (fun _ i _=>n - (intOf i).toNat)
 case atStart=>exact ⟨0,aD _,rfl,by rw [E3.out];rfl,by show 2*n≤4072;omega,fun i h=>by omega,qP.out,bP.out⟩
 case round =>
  obtain ⟨k,hk,rfl,rfl,h4,UJ,aE,bO⟩:=hrel;have Vd:=ab UJ;clear UJ qP bP E3;by_cases bN:k<n
  ·have QM:=ab (NB s k wr (by have:=gD.out;omega) gD.out)
   have hes:kY s.data.toList n (k+1)=zH s.data.toList k:=rfl;rw [← hes] at QM;have qO:=ab aE;have jQ:=ab bO;obtain ⟨a,ha⟩ : ∃ a,a=kY s.data.toList n k:=⟨_,rfl⟩;obtain ⟨e,he⟩ : ∃ e,e=kY s.data.toList n (k+1):=⟨_,rfl⟩;rw [← ha] at h4 ⊢;rw [← he] at QM;have HA:Hid (a=kY s.data.toList n k∧e=kY s.data.toList n (k+1)):=⟨ha,he⟩;have c1:=aE.cellAt k (by omega)
   rw [af (by rw [CO _ _ _ hk];exact bN)] at c1
   have dP:(k:Int)<(n:Int):=by omega
   clear ha he aE hes bO;by_cases hbad:e<a
   ·have ZX:(e:Int)<(a:Int):=by omega
    have HV:Hid (¬ (0≤(n:Int)∧Mn s.data.toList (n:Int).toNat)):=fun h=>by
     have:=(h.2.2.1 k bN).1;rw [bm,← HA.out.1,← HA.out.2] at this;omega
    clear c1;go_wp2_with fail;refine QM.out.mono ?_
    rintro e' w2 ⟨rfl,aU⟩;have c0:w2.cell? ⟨1,0,none⟩=some (.iface 360 (.pointer (some (A 1)))):=((dA.keep HE.out (Below.next jQ.out aU)).1 1 (by decide)).1
    have bH:=ab (Below.next jQ.out aU);clear aU;go_wp2;go_quiet (fail)
    go_wp2;go_ret2;exact ⟨.inr ⟨HV.out,rfl⟩,aA bH.out _⟩
   ·have ZX:¬ (e:Int)<(a:Int):=by omega
    by_cases fW:4072<e
    ·have ZT:(s.size:Int)<(e:Int):=by have:=gD.out;omega
     have HV:Hid (¬ (0≤(n:Int)∧Mn s.data.toList (n:Int).toNat)):=fun h=>by
      have:=(h.2.2.1 k bN).2;rw [bm,← HA.out.2] at this;omega
     clear c1;go_wp2_with fail;refine QM.out.mono ?_
     rintro e' w2 ⟨rfl,aU⟩;have c0:w2.cell? ⟨1,0,none⟩=some (.iface 360 (.pointer (some (A 1)))):=((dA.keep HE.out (Below.next jQ.out aU)).1 1 (by decide)).1
     have bH:=ab (Below.next jQ.out aU);clear aU;go_wp2;go_quiet (fail)
     go_wp2;go_ret2;exact ⟨.inr ⟨HV.out,rfl⟩,aA bH.out _⟩
    ·have ZT:¬ (s.size:Int)<(e:Int):=by have:=gD.out;omega
     have s1:(a:Int)≤(e:Int):=by omega
     have s2:(e:Int)≤(s.size:Int):=by omega
     have s3:(0:Int)≤(a:Int):=by omega
     have s4:a≤e:=by omega
     have s5:e≤s.size:=by omega
     have Fj:k<(bX s.data.toList n).length:=by rw [fY];exact bN
     have HC:Hid (s.extract a e=(bX s.data.toList n)[k]):=by
      refine tq ?_
      rw [ext_toList,mZ,HA.out.1,HA.out.2];rfl
     have TP:=ab (NJ s.data.toList n k bN Fj);clear c1;go_wp2_with fail;refine QM.out.mono ?_
     rintro e' w2 ⟨rfl,aU⟩;have mU:=qO.out;have SQ:w2.ownsRow q 9 1 (.slice (some ⟨q,0,none⟩) n n) n (uM s.data.toList n k):=by
      refine ⟨mU.1,?_⟩;rcases mU.2 with h' | ⟨g',cap,cur,hv,nN,hg,B4,sf,fH,mH⟩
      ·exact .inl h'
      ·have hl:g'<wr.heap.size:=by
        rcases bg g' wr.heap.size with h' | h'
        ·exact h'
        ·rw [aX h'] at hg;cases hg
       exact .inr ⟨g',cap,cur,hv,nN,(aU.block g' hl).trans hg,B4,sf,fH,mH⟩
     have c1:=SQ.cellAt k (by omega)
     rw [af (by rw [CO _ _ _ hk];exact bN)] at c1
     have z1:=SQ.frozenAt k;have fj:=(SQ.stored k (.string (s.extract a e))).1;rw [HC.out,TP.out] at fj;rw [← HC.out] at fj;have gS:=ab fj;have bH:Hid (Below w.heap.size w (w2.setCell ⟨q,k,none⟩ (.string (s.extract a e)))):=(Below.next jQ.out aU).setCell (by show w.heap.size≤q;rw [HQ.out];exact aj _) _
     clear aU mU SQ fj;go_wp2;go_roundw
     case rel =>
      refine ⟨k+1,by omega,by go_num,by rw [← HA.out.2],by rw [← HA.out.2];omega,fun i hi=>?_,gS.out,bH.out⟩
      by_cases Fk:i=k
      ·subst Fk;rw [← HA.out.1,← HA.out.2];omega
      ·exact Vd.out i (by omega)
     case measure=>simp [intOf];omega
  ·have nM:k=n:=by omega
   have dP:¬ (k:Int)<(n:Int):=by omega
   subst nM;obtain ⟨a,ha⟩ : ∃ a,a=kY s.data.toList k k:=⟨_,rfl⟩;rw [← ha] at h4 ⊢;have s1:(a:Int)≤(s.size:Int):=by have:=gD.out;omega
   have s2:(0:Int)≤(a:Int):=by omega
   have HZ:=ab (QB (s.extract a s.size) wr (by rw [ByteArray.size_extract];have:=gD.out;omega))
   have HX:=ab (QA s a (by omega))
   have HAE:=ab ha;have qO:=ab aE;have jQ:=ab bO;clear ha aE bO;by_cases hz:MA (s.extract a s.size)
   ·have pw:Hid (Mn s.data.toList k):=⟨⟨hn,HLB.out⟩,Vd.out,fun j h1 h2=>HX.out.1 hz j (by rw [HAE.out];exact h1) (by rw [gD.out];exact h2)⟩
    have HZ2:Hid (Calls prog 190 #[.string (s.extract a s.size)] wr fun e w'=>e = .returned (.bool true)∧Below wr.heap.size wr w'):=by
     refine HZ.out.mono ?_
     rintro e w' ⟨h | h,hb⟩
     ·exact ⟨h.2,hb⟩
     ·exact absurd hz h.1
    clear HZ hz HX;go_wp2_with fail;refine HZ2.out.mono ?_
    rintro e w2 ⟨rfl,aU⟩;have mU:=qO.out;have jP:Hid (w2.ownsRow w.heap.size 9 1 (.slice (some ⟨q,0,none⟩) k k) k (strs (bX s.data.toList k))):=by
     rw [NK,HQ.out] at mU;show World.ownsRow _ _ _ _ _ _ _
     rw [HQ.out];refine ⟨mU.1,?_⟩;rcases mU.2 with h' | ⟨g',cap,cur,hv,nN,hg,B4,sf,fH,mH⟩
     ·exact .inl h'
     ·have hl:g'<wr.heap.size:=by
       rcases bg g' wr.heap.size with h' | h'
       ·exact h'
       ·rw [aX h'] at hg;cases hg
      exact .inr ⟨g',cap,cur,hv,nN,(aU.block g' hl).trans hg,B4,sf,fH,mH⟩
    have bH:=ab (Below.next jQ.out aU);clear mU aU;go_wp2;go_ret2;exact ⟨.inl ⟨Rg,pw.out,q,rfl,jP.out⟩,bH.out⟩
   ·have HV:Hid (¬ (0≤(k:Int)∧Mn s.data.toList (k:Int).toNat)):=fun h=>hz (HX.out.2 (fun j h1 h2=>h.2.2.2 j (by rw [bm,← HAE.out];exact h1) (by rw [← gD.out];exact h2)))
    have HZ2:Hid (Calls prog 190 #[.string (s.extract a s.size)] wr fun e w'=>e = .returned (.bool false)∧Below wr.heap.size wr w'):=by
     refine HZ.out.mono ?_
     rintro e w' ⟨h | h,hb⟩
     ·exact absurd h.1 hz
     ·exact ⟨h.2,hb⟩
    clear HZ hz HX;go_wp2_with fail;refine HZ2.out.mono ?_
    rintro e w2 ⟨rfl,aU⟩;have c0:w2.cell? ⟨1,0,none⟩=some (.iface 360 (.pointer (some (A 1)))):=((dA.keep HE.out (Below.next jQ.out aU)).1 1 (by decide)).1
    have bH:=ab (Below.next jQ.out aU);clear aU;go_wp2;go_quiet (fail)
    go_wp2;go_ret2;exact ⟨.inr ⟨HV.out,rfl⟩,aA bH.out _⟩
theorem lY(A:Nat→Addr)(c:Int)(s:ByteArray)(w:World)(hE:dA 4 eR A w):Calls prog 153 #[.int .i64 c,.string s] w fun e w'=>UU A c s w e w'∧Below w.heap.size w w':=by
 by_cases h:(0≤c∧c≤2036)∧s.size=4072
 ·obtain ⟨n,rfl⟩:=cy h.1.1;exact R7 A n s w (by omega) h.2 hE
 ·have HV:Hid (¬ (0≤c∧Mn s.data.toList c.toNat)):=fun hh=>h ⟨⟨hh.1,by have:=hh.2.1.1;omega⟩,by have:=hh.2.1.2;rw [bsize] at this;exact this⟩
  have c0:w.cell? ⟨1,0,none⟩=some (.iface 360 (.pointer (some (A 1)))):=(hE.1 1 (by decide)).1
  clear hE;by_cases h1:c<0
  ·clear h;go_enter func153,ntmps153;go_wp2;go_quiet (fail)
   go_wp2;go_ret2;exact ⟨.inr ⟨HV.out,rfl⟩,aA (Below.refl _ _) _⟩
  ·by_cases h2:2036<c
   ·clear h;go_enter func153,ntmps153;go_wp2;go_quiet (fail)
    go_wp2;go_ret2;exact ⟨.inr ⟨HV.out,rfl⟩,aA (Below.refl _ _) _⟩
   ·have d1:((s.size:Int) != 4072)=true:=by
     rw [bne_iff_ne];intro he;exact h ⟨⟨by omega,by omega⟩,by omega⟩
    clear h;go_enter func153,ntmps153;go_wp2;go_quiet (fail)
    go_wp2;go_ret2;exact ⟨.inr ⟨HV.out,rfl⟩,aA (Below.refl _ _) _⟩
def tm(L:List Pr)(k:Nat):List Value:=iy (L.take k)++List.replicate ((L.length - k)*2) (.string ByteArray.empty)
theorem P5(L:List Pr)(k:Nat)(h:k≤L.length):(tm L k).length=L.length*2:=by
 unfold tm;rw [ae,eI,ag,bu];omega
theorem P4(L:List Pr)(k:Nat)(h:k<L.length):((tm L k).set (k*2) (.string L[k].1)).set (k*2+1) (.string L[k].2)=tm L (k+1):=by
 have hl:(iy (L.take k)).length=k*2:=by rw [eI,ag];omega
 unfold tm;rw [bV _ _ (by omega),hl,dL,show (L.length - k)*2=(L.length - (k+1))*2+1+1 by omega,List.replicate_succ,List.replicate_succ,List.set_cons_zero]
 rw [bV _ _ (by omega),hl,show k*2+1 - k*2=1 by omega,List.set_cons_succ,List.set_cons_zero,ay h,wH,ax]
 rfl
theorem LP(L:List Pr):tm L 0=List.replicate (L.length*2) (.string ByteArray.empty):=by simp [tm,iy]
theorem P6(L:List Pr):tm L L.length=iy L:=by simp [tm]
theorem Ot(z:Value)(n:Nat):(madeCells #[z,z] n).toList=List.replicate n z:=by
 apply pV
 intro j;by_cases hj:j<n
 ·rcases bU j with h | h <;> simp [madeCells,hj,h]
 ·simp [madeCells,hj]
theorem Ge{w w':World}{base e n:Nat}{v:Value}{xs:List Value}(h:w.ownsRow base e 2 v n xs)(hb:Below w.heap.size w w'):w'.ownsRow base e 2 v n xs:=by
 refine ⟨h.1,?_⟩;rcases h.2 with h' | ⟨g,cap,cur,h',h1,h2,hr⟩
 ·exact .inl h'
 ·refine .inr ⟨g,cap,cur,h',h1,?_,hr⟩;have hg:g<w.heap.size:=by
   rcases bg g w.heap.size with h' | h'
   ·exact h'
   ·rw [aX h'] at h2;cases h2
  rw [hb.block g hg];exact h2
def abb(A:Nat→Addr)(c:Int)(s:ByteArray)(base:Nat)(e:Ending)(w:World):Prop :=
 (0≤c∧mD c.toNat s.data.toList∧∃ u,e = .returned (.tuple #[u,.nilIface])∧ij w base u (BG c.toNat s.data.toList)) ∨
  (¬ (0≤c∧mD c.toNat s.data.toList)∧e = .returned (.tuple #[.slice none 0 0,.iface 360 (.pointer (some (A 1)))]))
theorem DE(A:Nat→Addr)(c:Int)(s:ByteArray)(w:World)(hE:jL A w):Calls prog 114 #[.int .i64 c,.string s] w fun e w'=>abb A c s w.heap.size e w'∧Below w.heap.size w w':=by
 have Mo:=ab (lY A c s w hE.1);have HE:=ab hE;obtain ⟨i0,hi,hz,b7,kF⟩:=info_parts I3;clear hE;obtain ⟨Q,hQ⟩ : ∃ Q:Ending→World→Prop,Q=fun e w'=>abb A c s w.heap.size e w'∧Below w.heap.size w w':=⟨_,rfl⟩
 rw [← hQ];have HQ:=ab hQ;clear hQ;go_enter func114,ntmps114;go_wp2_with fail;refine Mo.out.mono ?_
 rintro e w1 ⟨⟨xL,cN,g,rfl,aE⟩ | ⟨fJ,rfl⟩,aL⟩
 ·obtain ⟨n,rfl⟩:=cy xL;simp only [bm] at cN aE ⊢;have hn:=cN.1.1;obtain ⟨B,hB⟩ : ∃ B,B=s.data.toList:=⟨_,rfl⟩;obtain ⟨CB,hCB⟩ : ∃ CB,CB=bX B n:=⟨_,rfl⟩;have hCl:CB.length=n:=by rw [hCB,fY]
  rw [← hB] at cN aE;rw [← hCB] at aE;have aab:∀ x ∈ CB,x.size≤4072:=fun x hx=>by
   rw [hCB] at hx;obtain ⟨j,hj,rfl⟩:=aQ hx;rw [fY] at hj;rw [← bsize,mZ,L4 cN j hj];have:=Jk cN (j+1) (by omega)
   omega
  have PJ:(CB.map dt).length=n:=by rw [az,hCl]
  obtain ⟨wm,pC,fP,pR⟩:=run_make_full (P:=prog) w1 w1.heap.size 63 52 i0 _ 2 underlying63 hi hz b7 .i64 .i64 n (by rw [kF];omega) (by unfold maxLen;omega) (aj _)
  have nK:(madeCells (Value.agg #[.string ByteArray.empty,.string ByteArray.empty]).cells (n*2)).toList=tm (CB.map dt) 0:=by
   rw [LP,PJ];exact Ot _ _
  rw [nK] at fP;have Ca:Below w1.heap.size w1 wm:=(Below.refl _ _).grown pR (aj _) (fun j hj=>by cases hj)
  obtain ⟨b,hb⟩ : ∃ b,b=w1.heap.size:=⟨_,rfl⟩;rw [← hb] at pC fP;have HB:=ab hb;have HO:=ab fP;have JA:=ab Ca;have bP:=ab aL;have UY:=ab (fT aE).strs;have pw:=ab cN;have uX:=ab hCl;have Fv:=ab aab;have lU:=ab PJ;have HCB:=ab hCB;have mJ:=ab hB;clear hb fP Ca pR hi hz b7 kF nK aL Mo aE cN hCl aab PJ hCB hB xL;go_wp2;clear pC;go_loopw [27] (fun i wr=>∃ k:Nat,k≤n∧i = .int .i64 k∧wr.ownsRow b 52 2 (.slice (some ⟨b,0,none⟩) n n) n (tm (CB.map dt) k)∧(∀ j (h:j<CB.length),j<k→E9 CB[j]=true)∧Below w1.heap.size w1 wr) (fun i _=>n - (intOf i).toNat)
  case atStart=>exact ⟨0,aD _,rfl,HO.out,fun j _ h=>absurd h (im _),JA.out⟩
  case round =>
   obtain ⟨k,hk,rfl,aE,jg,bO⟩:=hrel;clear HO JA;have HP:=ab jg;clear jg;by_cases bN:k<n
   ·have cL:k<CB.length:=by have:=uX.out;omega
    have hkL:k<(CB.map dt).length:=by rw [lU.out];exact bN
    have Q7:=UY.out.below bO;obtain ⟨ta,tc,hte,_,s7⟩:=Q7;obtain ⟨g',o',ha,f1⟩:=s7 k cL;simp only [Value.slice.injEq] at hte;obtain ⟨rfl,-⟩:=hte;simp only [Option.some.injEq,Addr.mk.injEq,and_true] at ha;obtain ⟨rfl,rfl⟩:=ha;rw [Nat.zero_add] at f1;have U3:=ab (fun W=>F8 CB[k] W (Fv.out _ (aG _)))
    have ir:Hid (((tm (CB.map dt) k).set (k*2) (.string (dt CB[k]).1)).set (k*2+1) (.string (dt CB[k]).2)=tm (CB.map dt) (k+1)):=by
     have:=P4 (CB.map dt) k hkL;simp only [bZ] at this;exact this
    have pI:Hid (E9 CB[k]=true→∀ j (h:j<CB.length),j<k+1→E9 CB[j]=true):=fun hl j h hj=>by
     by_cases he:j=k
     ·subst he;exact hl
     ·exact HP.out j h (by omega)
    have kB:Hid (E9 CB[k]=false→¬ (0≤(n:Int)∧mD (n:Int).toNat s.data.toList)):=fun hl hd=>by
     have:=hd.2.2.1;rw [← mJ.out,bm,← HCB.out] at this;have h2:=this CB[k] (aG _);rw [hl] at h2;cases h2
    obtain ⟨ck,lu⟩ : ∃ ck,ck=CB[k]:=⟨_,rfl⟩;rw [← lu] at f1 U3 ir pI kB;have jQ:=ab bO;have qO:=ab aE;have kH:=ab (P5 (CB.map dt) k (by omega))
    have dP:(k:Int)<(n:Int):=by omega
    have j0:(0:Int)≤(k:Int):=by omega
    clear lu s7 bO aE;go_wp2_with fail;refine (U3.out _).mono ?_
    rintro e w2 ⟨⟨hok1,rfl⟩ | ⟨Zb,x,y,rfl⟩,aU⟩
    ·have tF:=ab (pI.out hok1);obtain ⟨p,hp⟩ : ∃ p,p=dt ck:=⟨_,rfl⟩;rw [← hp] at ir ⊢;have eU:=ai w2 (.cells #[.string p.1,.string p.2] 52);have jE:=Ge qO.out (Below.next aU eU);have hq:∀ j,j<n*2→∃ u,(w2.alloc (.cells #[.string p.1,.string p.2] 52)).cell? ⟨b,j,none⟩=some u:=fun j hj=>by
      rw [World.ownsRow.cellAt jE j hj];exact ⟨_,af (by rw [kH.out,lU.out];exact hj)⟩
     obtain ⟨u1,q1⟩:=hq (k*2) (by omega)
     obtain ⟨u2,q2⟩:=hq (k*2+1) (by omega)
     have z1:=World.ownsRow.frozenAt jE (k*2);have z2:=World.ownsRow.frozenAt jE (k*2+1);have fj:=(World.ownsRow.stored (World.ownsRow.stored jE (k*2) (.string p.1)).1 (k*2+1) (.string p.2)).1;rw [ir.out] at fj;have jP:=ab fj;have BA:w1.heap.size≤b:=by rw [HB.out];exact aj _
     have bH:Hid (Below w1.heap.size w1 (((w2.alloc (.cells #[.string p.1,.string p.2] 52)).setCell ⟨b,k*2,none⟩ (.string p.1)).setCell ⟨b,k*2+1,none⟩ (.string p.2))):=((Below.next jQ.out (Below.next aU eU)).setCell BA _).setCell BA _;clear hp aU eU jE hq fj ir qO jQ U3 pI kB hok1 f1;go_wp2;go_roundw
     case rel=>exact ⟨k+1,by omega,by go_num,jP.out,tF.out,bH.out⟩
     case measure=>simp [intOf];omega
    ·have QP:=ab (kB.out Zb);have eU:=ai w2 (.cells #[.string x,.string y] 52);have bH:=ab (Below.next bP.out (Below.next jQ.out (Below.next aU eU)));have k1:(w2.alloc (.cells #[.string x,.string y] 52)).cell? ⟨1,0,none⟩=some (.iface 360 (.pointer (some (A 1)))):=((HE.out.below bH.out).1.1 1 (by decide)).1
     clear aU eU ir qO jQ U3 pI kB Zb f1;go_wp2;go_quiet (fail)
     go_wp2;rw [HQ.out];exact ⟨.inr ⟨QP.out,rfl⟩,aA bH.out _⟩
   ·have nM:k=n:=by omega
    rw [nM,← lU.out,P6,lU.out] at aE;have hpo:ij wr b (.slice (some ⟨b,0,none⟩) n n) (CB.map dt):=by unfold ij;rw [lU.out];exact aE
    have Y4:TL (CB.map dt):=fun p hp=>by
     obtain ⟨c0,xL,rfl⟩:=List.mem_map.1 hp;have:=Fv.out c0 xL;have h1:=IL c0;have h2:=IK c0;have h3:=(oZ c0.data.toList).1;omega
    have Ci:=ab (Below.next bP.out bO);have nO:=ab (qk A _ (CB.map dt) true wr Y4 (by rw [lU.out];omega) hpo.at (HE.out.below Ci.out))
    have U3:=ab (hpo.mono (show w.heap.size≤b by rw [HB.out];exact bP.out.size))
    have H7:Hid (∀ x ∈ CB,E9 x=true):=fun x hx=>by
     obtain ⟨j,hj,rfl⟩:=aQ hx;exact HP.out j hj (by have:=uX.out;omega)
    have dP:¬ (k:Int)<(n:Int):=by omega
    have HDL:Hid (BG (n:Int).toNat s.data.toList=CB.map dt):=by show _=_;rw [bm,← mJ.out,HCB.out];rfl
    have HDO:Hid (mD (n:Int).toNat s.data.toList↔zh (CB.map dt) true=none):=by
     show _↔_
     rw [bm,← mJ.out];unfold mD;rw [← HCB.out];exact ⟨fun h=>h.2.2,fun h=>⟨pw.out,H7.out,h⟩⟩
    clear aE bO hpo Y4 HP UY nM;cases lu:zh (CB.map dt) true with
    | none =>
     rw [lu] at nO;have HD:=ab (HDO.out.2 lu);clear lu;go_wp2_with fail;refine nO.out.mono ?_
     rintro e w3 ⟨rfl,bT⟩;have BY:=ab (U3.out.below bT);have eG:=ab (Below.next Ci.out bT);clear bT nO U3 Ci;unfold ig;go_wp2;rw [HQ.out];exact ⟨.inl ⟨by omega,HD.out,_,rfl,by rw [HDL.out];exact BY.out⟩,eG.out⟩
    | some m =>
     rw [lu] at nO;have HD:Hid (¬ (0≤(n:Int)∧mD (n:Int).toNat s.data.toList)):=fun h=>by
      have:=HDO.out.1 h.2;rw [lu] at this;cases this
     have D6:=fun W=>eZ (some (A m)) W
     clear lu;go_wp2_with fail;refine nO.out.mono ?_
     rintro e w3 ⟨rfl,bT⟩;have eG:=ab (Below.next Ci.out bT);have k1:w3.cell? ⟨1,0,none⟩=some (.iface 360 (.pointer (some (A 1)))):=((HE.out.below eG.out).1.1 1 (by decide)).1
     clear bT nO U3 Ci;unfold ig;go_wp2;go_quiet (fail)
     go_wp2;rw [HQ.out];exact ⟨.inr ⟨HD.out,rfl⟩,aA eG.out _⟩
 ·have kB:Hid (¬ (0≤c∧mD c.toNat s.data.toList)):=fun h=>fJ ⟨h.1,h.2.1⟩
  have bP:=ab aL;have k1:w1.cell? ⟨1,0,none⟩=some (.iface 360 (.pointer (some (A 1)))):=((HE.out.below aL).1.1 1 (by decide)).1
  have D6:=fun W=>eZ (some (A 1)) W
  clear aL fJ Mo hi hz b7 kF;go_wp2;go_quiet (fail)
  go_wp2;rw [HQ.out];exact ⟨.inr ⟨kB.out,rfl⟩,aA bP.out _⟩
namespace B
def jY(n:Nat):ByteArray:=⟨(bI n 4).toArray⟩
def mq(p:Lk):ByteArray:=⟨([UInt8.ofNat p.1.size]++(p.1.data.toList++bI p.2.toNat 4)).toArray⟩
theorem qE(n:Nat):(jY n).data.toList=bI n 4:=by simp [jY]
theorem jH(p:Lk):(mq p).data.toList=[UInt8.ofNat p.1.size]++(p.1.data.toList++bI p.2.toNat 4):=by simp [mq]
theorem qD(n:Nat):(jY n).size=4:=by rw [← bsize,qE,eA n 4 (by decide)]
theorem xZ(p:Lk):(mq p).size=5+p.1.size:=by
 rw [← bsize,jH,ae,ae,eA _ 4 (by decide),bsize];simp;omega
def dw(f:Int)(l:List Lk):List ByteArray:=jY f.toNat::l.map mq
theorem mY(f:Int)(l:List Lk):(dw f l).length=l.length+1:=by simp [dw]
theorem G3(L:List ByteArray):(dV L L.length)=L.flatMap (fun c=>c.data.toList):=by
 unfold dV;rw [al (aj _)]
theorem Em:∀ l:List Lk,((l.map mq).flatMap (fun c=>c.data.toList)).length+2*l.length+6=jM l
 | []=>by simp [jM]
 | p::l=>by
  have:=Em l;rw [List.map_cons,List.flatMap_cons,ae,bsize,xZ,nX,List.length_cons];unfold yu;omega
theorem n9(f:Int)(l:List Lk):dO (dw f l)=jM l:=by
 have h:=Em l;unfold dO fs;rw [mY,show (l.length+1)=(dw f l).length from (mY f l).symm,G3]
 unfold dw;rw [List.flatMap_cons,ae,bsize,qD,List.length_cons,az];omega
def pF(f:Int)(l:List Lk):ByteArray:=⟨(js (dw f l)).toArray⟩
theorem EG(f:Int)(l:List Lk)(k:Nat)(h:k<l.length):dw f (l.take (k+1))=dw f (l.take k)++[mq l[k]]:=by
 unfold dw;rw [ay h,bt];rfl
end B
theorem zC(l:List UInt8)(k:Nat)(h:k<l.length):l.take (k+1)=l.take k++[l[k]]:=ay h
def eo(l:List UInt8):Nat:=l.foldl (fun n c=>n*256+c.toNat) 0
theorem qF(l:List UInt8)(c:UInt8):eo (l++[c])=eo l*256+c.toNat:=by simp [eo,List.foldl_append]
theorem yf(l:List UInt8):eo l<256 ^ l.length:=by
 have:∀ (l:List UInt8) (n k:Nat),n<256 ^ k→l.foldl (fun n c=>n*256+c.toNat) n<256 ^ (k+l.length):=by
  intro l;induction l with
  | nil=>intro n k h;simpa using h
  | cons c r ih =>
   intro n k h;have hc:=UInt8.toNat_lt c;have:=ih (n*256+c.toNat) (k+1) (by rw [Nat.pow_succ];omega)
   simp only [List.foldl_cons,List.length_cons];rwa [show k+(r.length+1)=k+1+r.length by omega]
 have h:=this l 0 0 (by decide)
 rwa [Nat.zero_add] at h
def jB(l:List UInt8):List UInt8:=List.replicate (8 - l.length) 0++l
theorem Gb(l:List UInt8)(h:l.length≤8):(jB l).length=8:=by simp [jB];omega
theorem BQ(l:List UInt8):eo (jB l)=eo l:=by
 have:∀ k,(List.replicate k (0:UInt8)).foldl (fun n c=>n*256+c.toNat) 0=0:=by
  intro k;induction k with
  | zero=>rfl
  | succ k ih=>rw [List.replicate_succ,List.foldl_cons];exact ih
 unfold eo jB;rw [gq,this]
theorem Tp(g o cap:Nat)(l:List UInt8)(w:World)(hg:g<w.heap.size)(hc:∀ j (h:j<l.length),w.cell? ⟨g,o+j,none⟩=some (.int .u8 (l[j].toNat:Int)))(h8:l.length≤8):∃ w2,(Builtin.copy_ #[145,145] 3 #[.slice (some ⟨w.heap.size,8 - l.length,none⟩) l.length l.length,.slice (some ⟨g,o,none⟩) l.length cap]).run prog (w.alloc (.cells #[.int .u8 0,.int .u8 0,.int .u8 0,.int .u8 0,.int .u8 0,.int .u8 0,.int .u8 0,.int .u8 0] 328)) = .ok (goInt l.length) w2∧Below w.heap.size w w2∧∀ j (h:j<(jB l).length),w2.cell? ⟨w.heap.size,j,none⟩=some (.int .u8 ((jB l)[j].toNat:Int)):=by
 have me:=heap_alloc_new w (.cells #[.int .u8 0,.int .u8 0,.int .u8 0,.int .u8 0,.int .u8 0,.int .u8 0,.int .u8 0,.int .u8 0] 328);have bn:=run_copy_row (P:=prog) (w.alloc (.cells #[.int .u8 0,.int .u8 0,.int .u8 0,.int .u8 0,.int .u8 0,.int .u8 0,.int .u8 0,.int .u8 0] 328)) 145 145 3 5 w.heap.size (8 - l.length) l.length l.length ⟨g,o,none⟩ l.length cap _ 328 (dS l) underlying145 tO me (by rw [aY];exact (Nat.min_self _).symm)
  (fun j v hv=>by
   by_cases hj:j<l.length
   ·rw [iu l j hj] at hv;cases hv;rw [show (⟨g,o,none⟩ : Addr).add j=⟨g,o+j,none⟩ by simp [Addr.add]]
    rw [(ai w _).cell (p:=⟨g,o+j,none⟩) hg];exact hc j hj
   ·rw [bD (by rw [aY];omega)] at hv;cases hv)
  (by rw [aY];simp;omega) (qR l)
 rw [aY] at bn;have hl:(List.take (8 - l.length) (#[.int .u8 0,.int .u8 0,.int .u8 0,.int .u8 0,.int .u8 0,.int .u8 0,.int .u8 0,.int .u8 0] : Array Value).toList++dS l++List.drop (8 - l.length+l.length) (#[.int .u8 0,.int .u8 0,.int .u8 0,.int .u8 0,.int .u8 0,.int .u8 0,.int .u8 0,.int .u8 0] : Array Value).toList)=dS (jB l):=by
  have hz:(#[.int .u8 0,.int .u8 0,.int .u8 0,.int .u8 0,.int .u8 0,.int .u8 0,.int .u8 0,.int .u8 0] : Array Value).toList=List.replicate 8 (.int .u8 0):=rfl;rw [hz,show 8 - l.length+l.length=8 by omega,List.take_replicate,nA,jB,jA]
  simp [dS,Nat.min_eq_left (show 8 - l.length≤8 by omega)]
 rw [hl] at bn;refine ⟨_,bn,below_setRow (ai w _) (aj _) _,fun j hj=>?_⟩
 have bE:=setRow_heap _ w.heap.size _ (dS (jB l)).toArray 328 _ me;rw [cell_of_row _ w.heap.size j _ 328 _ bE];simpa using iu (jB l) j hj
theorem NL{k:IntKind}{a b:Nat}{v:Value}(h:a=b):Ending.returned (.tuple #[.int k (a:Int),v]) = .returned (.tuple #[.int k (b:Int),v]):=by rw [h]
theorem Sg(y c:Nat)(hy:y<72057594037927936)(hc:c<256):bits BinOp.or IntKind.u64 ((y:Int)*256) (c:Int)=((y*256+c:Nat):Int):=by
 have h:=u64_or_nat (y*256) c (by omega) (by omega)
 rw [nat_join 8 (y*256) c (by omega) (by simpa using hc)] at h
 rw [← h];rfl
theorem PO(g o cap:Nat)(l:List UInt8)(w:World)(h1:1≤l.length)(h8:l.length≤8)(hg:g<w.heap.size)(hc:∀ j (h:j<l.length),w.cell? ⟨g,o+j,none⟩=some (.int .u8 (l[j].toNat:Int))):Calls prog 227 #[.slice (some ⟨g,o,none⟩) l.length cap] w fun e w'=>e = .returned (.tuple #[.int .u64 ((eo l:Nat):Int),.nilIface])∧Below w.heap.size w w':=by
 obtain ⟨cs,fH⟩ : ∃ cs,cs=dS l:=⟨_,rfl⟩;obtain ⟨len,hlen⟩ : ∃ len,len=l.length:=⟨_,rfl⟩;rw [← hlen] at h1 h8;have qN:cs.length=len:=by rw [fH,aY,hlen]
 have Fv:Hid (cs=dS l):=fH;have kH:Hid (len=l.length):=hlen;rw [← kH.out];clear fH hlen;have qq:=zI w.heap.size len h1 h8;go_enter func227,ntmps227;obtain ⟨w2,yz,aU,bh⟩:=Tp g o cap l w hg hc (by rw [← kH.out];exact h8)
 rw [← kH.out] at yz;clear hc;have Bz:decide ((len:Int)<1)=false:=decide_eq_false (by omega)
 have Ld:decide ((8:Int)<(len:Int))=false:=decide_eq_false (by omega)
 go_wp2_with fail;have Fg:(jB l).length=8:=Gb l (by rw [← kH.out];exact h8)
 have HB:Hid (eo (jB l)=eo l):=BQ l;generalize jB l=pl at *;go_loop [5,22] (fun r i=>∃ k y:Nat,k≤8∧i = .int .i64 k∧r = .int .u64 (y:Int)∧y=eo (pl.take k)) (fun _ i=>8 - (intOf i).toNat)
 case atStart=>exact ⟨0,0,by omega,rfl,rfl,rfl⟩
 case round =>
  obtain ⟨k,y,hk,rfl,rfl,VH⟩:=hrel;have HY:Hid (y=eo (pl.take k)):=VH;clear VH;by_cases bN:k<8
  ·have lu:=bh k (by omega)
   obtain ⟨c,MF⟩ : ∃ c:Nat,c=(pl[k]'(by omega)).toNat:=⟨_,rfl⟩
   have UM:c<256:=by rw [MF];exact UInt8.toNat_lt _
   rw [← MF] at lu;have HR:Hid (y*256+c=eo (pl.take (k+1))):=by
    show y*256+c=_
    rw [zC pl k (by omega),qF,← HY.out,MF]
   have hyb:y<72057594037927936:=by
    rw [HY.out];have h:=yf (pl.take k);rw [ag,a7 (by omega)] at h
    exact aq h (ar (my (n:=256) (i:=k) (j:=7) (by decide) (by omega)) (by decide))
   have e1:=Sg y c hyb UM;clear MF bh qq yz;go_wp2;go_round
   case rel=>exact ⟨k+1,y*256+c,by omega,by go_num,by go_num,HR.out⟩
   case measure=>simp [intOf];omega
  ·have HE:Hid (y=eo l):=by
    show y=_
    rw [HY.out,al (by omega),HB.out]
   clear bh qq yz;go_wp2;go_ret2;exact ⟨NL HE.out,aU⟩
theorem Jn(n m:Nat)(hm:m+1≤8):bI n (m+1)=bI (n / 256) m++[UInt8.ofNat n]:=by
 apply lR
 ·rw [ae,eA n _ hm,eA _ m (by omega)];rfl
 ·intro i h1 h2;rw [eA n _ hm] at h1;simp only [bI,cW];rw [xT];by_cases hi:i<m
  ·rw [aI (by rw [ao,mo];omega)]
   simp only [cW];rw [xT];unfold ko;rw [Nat.div_div_eq_div_mul,show (256:Nat)=2 ^ 8 from rfl,← Nat.pow_add,show 8*(7 - (8 - (m+1)+i))=8+8*(7 - (8 - m+i)) by omega]
  ·have he:i=m:=by omega
   subst he;rw [bo (by rw [ao,mo];omega)]
   simp [ko,show 7 - (7 - i+i)=0 by omega]
theorem mr(m:Nat):∀ n,m≤8→n<2 ^ (8*m)→eo (bI n m)=n:=by
 induction m with
 | zero =>
  intro n _ hn;have h0:n=0:=by simpa using hn
  subst h0;decide
 | succ m ih =>
  intro n hm hn;have h1:n / 256<2 ^ (8*m):=by
   rw [show 8*(m+1)=8*m+8 by omega,Nat.pow_add] at hn
   exact Nat.div_lt_of_lt_mul (by rw [Nat.mul_comm];simpa using hn)
  rw [Jn n m hm,qF,ih (n / 256) (by omega) h1]
  simp only [UInt8.toNat_ofNat'];omega
theorem yh(k:Nat):∀ l:List UInt8,l.length=k→k≤8→bI (eo l) k=l:=by
 induction k with
 | zero =>
  intro l hl _;rw [List.length_eq_zero_iff.1 hl];decide
 | succ k ih =>
  intro l hl hk;obtain ⟨r,c,rfl⟩ : ∃ r c,l=r++[c]:=⟨l.dropLast,l.getLast (by intro h;simp [h] at hl),(iq _).symm⟩
  have hr:r.length=k:=by simpa using hl
  have hc:=UInt8.toNat_lt c;rw [qF,Jn _ k hk,show (eo r*256+c.toNat) / 256=eo r by omega,ih r hr (by omega)]
  congr 2
  apply UInt8.toNat_inj.1
  simp only [UInt8.toNat_ofNat'];omega
end Go.Proofs.YtihmgigfkmofnaaGreatDoor
