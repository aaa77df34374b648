import Derived.Test.YtihmgigfkmofnaaGreatDoorG11
import Derived.Deep.QuietTactic
import Derived.Lib.BufferWrite
import Derived.Deep.WholeRow
set_option maxHeartbeats 4000000
set_option maxRecDepth 100000
open Go.Proofs.Tryz
namespace Go.Proofs.YtihmgigfkmofnaaGreatDoor
open Go.RowKit
def Ja(c:UInt8):Bool:=c == 0
def je(l:List UInt8):List UInt8:=l.dropWhile Ja
def J5(s:ByteArray):ByteArray:=⟨(je s.data.toList).toArray⟩
def F8(s:ByteArray):ByteArray:=⟨(je s.data.toList.reverse).reverse.toArray⟩
theorem ext_toList(s:ByteArray)(a b:Nat):(s.extract a b).data.toList=(s.data.toList.drop a).take (b - a):=by
 rw [ByteArray.data_extract,Array.toList_extract]
theorem ud{x y:ByteArray}(h:x.data.toList=y.data.toList):x=y:=by
 have h2:x.data=y.data:=Array.toList_inj.1 h;cases x;exact congrArg ByteArray.mk h2
theorem CS(x:ByteArray)(k:Nat)(hk:k=x.size - 1)(h:k<x.size):x.data.toList=x.data.toList.take k++[x[k]]:=by
 have h1:k<x.data.toList.length:=by rw [bsize];exact h
 have:=az h1;rw [aq (by rw [bsize];omega)] at this
 exact this
theorem Be(x:ByteArray)(h:0<x.size):x.data.toList=x[0]::x.data.toList.drop 1:=by
 have h1:0<x.data.toList.length:=by rw [bsize];exact h
 have:=bf h1;rw [List.drop_zero] at this;exact this
theorem J3(s:ByteArray)(w:World)(hs:s.size≤140737488355328):Calls prog 245 #[.string s,.int .u8 0] w fun e w'=>e = .returned (.string (F8 s))∧w'=w:=by
 obtain ⟨t,ht⟩ : ∃ t,t=F8 s:=⟨_,rfl⟩;rw [← ht];have HT:=ab ht;clear ht;go_enter func245,ntmps245;go_wp2;go_loop [0] (fun v=>∃ (x:ByteArray),v = .string x∧je x.data.toList.reverse=je s.data.toList.reverse∧x.size≤s.size) (fun v=>match v with | .string x=>x.size | _=>0)
 case atStart=>exact ⟨s,rfl,rfl,aj _⟩
 case round =>
  obtain ⟨x,rfl,he,hle⟩:=hrel;have HE:=ab he;clear he;by_cases h0:0<x.size
  ·have h0I:(0:Int)<(x.size:Int):=by omega
   obtain ⟨k,hk⟩ : ∃ k,k=x.size - 1:=⟨_,rfl⟩;have hw:IntKind.i64.wrap ((x.size:Int) - 1)=(k:Int):=by rw [IntKind.wrap_i64];omega
   have bP:k<x.size:=by omega
   have dS:(k:Int)<(x.size:Int):=by omega
   have Rs:(0:Int)≤(k:Int):=by omega
   have ahG:(k:Int)≤(x.size:Int):=by omega
   have HK:=ab hk;have HL:=ab (CS x k hk bP);clear hk;by_cases hz:x[k]=0
   ·have VE:((x[k].toNat:Int) == 0)=true:=by rw [hz];rfl
    have HZ:=ab hz;clear hz;go_wp2;go_round
    case rel =>
     refine ⟨_,rfl,?_,?_⟩
     ·rw [← HE.out,ext_toList,List.drop_zero,Nat.sub_zero];conv=>rhs;rw [HL.out,HZ.out,List.reverse_append]
      rfl
     ·rw [ByteArray.size_extract];omega
    case measure=>simp [ByteArray.size_extract];omega
   ·have VE:((x[k].toNat:Int) == 0)=false:=by
     rw [beq_eq_false_iff_ne];intro h;exact hz (UInt8.toNat_inj.1 (by simpa using h))
    have HX:Hid (x=t):=by
     have hb:Ja x[k]=false:=by simpa [Ja] using hz
     refine ud ?_
     rw [HT.out];show _=(je s.data.toList.reverse).reverse.toArray.toList
     rw [← HE.out,HL.out,List.reverse_append];show _=(List.dropWhile Ja (x[k]::_)).reverse.toArray.toList
     rw [jx (by rw [hb];decide)]
     simp
    clear hz;go_wp2;go_ret;exact ⟨by rw [← HX.out];rfl,rfl⟩
  ·have h0I:¬ (0:Int)<(x.size:Int):=by omega
   have HX:Hid (x=t):=by
    refine ud ?_
    rw [HT.out];show _=(je s.data.toList.reverse).reverse.toArray.toList
    have hn:x.data.toList=[]:=List.length_eq_zero_iff.1 (by rw [bsize];omega)
    rw [← HE.out,hn];rfl
   go_wp2;go_ret;exact ⟨by rw [← HX.out];rfl,rfl⟩
theorem J4(s:ByteArray)(w:World):Calls prog 244 #[.string s,.int .u8 0] w fun e w'=>e = .returned (.string (J5 s))∧w'=w:=by
 obtain ⟨t,ht⟩ : ∃ t,t=J5 s:=⟨_,rfl⟩;rw [← ht];have HT:=ab ht;clear ht;go_enter func244,ntmps244;go_wp2;go_loop [0] (fun v=>∃ (x:ByteArray),v = .string x∧je x.data.toList=je s.data.toList∧x.size≤s.size) (fun v=>match v with | .string x=>x.size | _=>0)
 case atStart=>exact ⟨s,rfl,rfl,aj _⟩
 case round =>
  obtain ⟨x,rfl,he,hle⟩:=hrel;have HE:=ab he;clear he;by_cases h0:0<x.size
  ·have h0I:(0:Int)<(x.size:Int):=by omega
   have h1I:(1:Int)≤(x.size:Int):=by omega
   have HL:=ab (Be x h0);by_cases hz:x[0]=0
   ·have VE:((x[0].toNat:Int) == 0)=true:=by rw [hz];rfl
    have HZ:=ab hz;clear hz;go_wp2;go_round
    case rel =>
     refine ⟨_,rfl,?_,?_⟩
     ·rw [← HE.out,ext_toList,aq (by rw [ao,bsize];omega)]
      conv=>rhs;rw [HL.out,HZ.out]
      rfl
     ·rw [ByteArray.size_extract];omega
    case measure=>simp [ByteArray.size_extract];omega
   ·have VE:((x[0].toNat:Int) == 0)=false:=by
     rw [beq_eq_false_iff_ne];intro h;exact hz (UInt8.toNat_inj.1 (by simpa using h))
    have HX:Hid (x=t):=by
     have hb:Ja x[0]=false:=by simpa [Ja] using hz
     refine ud ?_
     rw [HT.out];show _=(je s.data.toList).toArray.toList
     rw [← HE.out];conv=>rhs;rw [HL.out]
     show _=(List.dropWhile Ja (x[0]::_)).toArray.toList
     rw [jx (by rw [hb];decide)]
     exact HL.out
    clear hz;go_wp2;go_ret;exact ⟨by rw [← HX.out];rfl,rfl⟩
  ·have h0I:¬ (0:Int)<(x.size:Int):=by omega
   have HX:Hid (x=t):=by
    refine ud ?_
    rw [HT.out];show _=(je s.data.toList).toArray.toList
    have hn:x.data.toList=[]:=List.length_eq_zero_iff.1 (by rw [bsize];omega)
    rw [← HE.out,hn];rfl
   go_wp2;go_ret;exact ⟨by rw [← HX.out];rfl,rfl⟩
theorem AY(l:List UInt8):je l=[]↔∀ x ∈ l,Ja x=true:=by
 induction l with
 | nil=>simp [je]
 | cons a r ih =>
  unfold je at ih ⊢;cases ha:Ja a with
  | true=>rw [List.dropWhile_cons_of_pos ha,ih];simp [ha]
  | false=>rw [jx (by rw [ha];decide)];simp [ha]
theorem Hn(l:List UInt8)(a:UInt8)(r:List UInt8)(h:je l=a::r):Ja a=false:=by
 induction l with
 | nil=>simp [je] at h
 | cons b q ih =>
  unfold je at ih h;cases hb:Ja b with
  | true=>rw [List.dropWhile_cons_of_pos hb] at h;exact ih h
  | false =>
   rw [jx (by rw [hb];decide)] at h
   cases h;exact hb
theorem CP(s:ByteArray):J5 (F8 s)=ByteArray.empty↔∀ j,j<s.size→s.data.toList.getD j 0=0:=by
 have h1:J5 (F8 s)=ByteArray.empty↔je (je s.data.toList.reverse).reverse=[]:=by
  constructor
  ·intro h;have:=congrArg (fun x=>x.data.toList) h
   simpa [J5,F8] using this
  ·intro h;refine ud ?_
   simpa [J5,F8] using h
 rw [h1];rw [AY];constructor
 ·intro h j hj;have hz:je s.data.toList.reverse=[]:=by
   cases hd:je s.data.toList.reverse with
   | nil=>rfl
   | cons a r =>
    exfalso
    have hp:=h a (by rw [hd];simp)
    rw [Hn _ a r hd] at hp;cases hp
  rw [AY] at hz;rw [Ca s j hj];have:=hz s[j] (by rw [List.mem_reverse];show s.data[j] ∈ _;simp)
  simpa [Ja] using this
 ·intro h x hx;rw [List.mem_reverse] at hx;have vR:=(List.dropWhile_sublist Ja (l:=s.data.toList.reverse)).mem hx;rw [List.mem_reverse] at vR;obtain ⟨j,hj,rfl⟩:=aQ vR;have:=h j (by rw [bsize] at hj;exact hj)
  rw [aK,af hj] at this;simpa [Ja] using this
theorem AX(s:ByteArray):s.toList.isEmpty=decide (s=ByteArray.empty):=(decide_eq_emptyBytes s).symm
theorem Ns(s:ByteArray)(w:World)(hs:s.size≤140737488355328):Calls prog 228 #[.string s,.string ⟨#[0]⟩] w fun e w'=>e = .returned (.string (J5 (F8 s)))∧Below w.heap.size w w':=by
 by_cases h0:s=⟨#[]⟩
 ·subst h0;have HT:Hid (J5 (F8 ⟨#[]⟩)=⟨#[]⟩):=rfl;rw [HT.out];go_enter func228,ntmps228;go_wp2;go_ret;exact ⟨rfl,Below.refl _ _⟩
 ·have dK:s.toList.isEmpty=false:=by rw [AX];exact decide_eq_false h0
  have BL:¬ s.toList=[]:=fun h=>by rw [h] at dK;cases dK
  have yh:(((({ data:=#[0] }:ByteArray)[0]).toNat:Nat):Int)=0:=rfl;have HR:=ab (fun w=>J3 s w hs)
  have HL:=ab (fun w=>J4 (F8 s) w)
  generalize J5 (F8 s)=t at *;generalize F8 s=r at *;go_enter func228,ntmps228;go_wp2_with fail;go_quiet ((first | (go_at_call 245;exact Calls.quiet_of_same (HR.out _)) | (go_at_call 244;exact Calls.quiet_of_same (HL.out _))))
  go_wp2;go_ret;exact ⟨rfl,aB (Below.refl _ _) _⟩
theorem uz:(prog.info? 5).map (·.size)=some 1:=by kernel_rfl
structure bL(rb:Nat)(w w':World):Prop where
 os:w'.os=w.os
 tape:w'.tape=w.tape
 output:w'.output=w.output
 size:w.heap.size≤w'.heap.size
 block:∀ k,k<w.heap.size→k≠rb→w'.heap[k]?=w.heap[k]?
theorem bL.refl(rb:Nat)(w:World):bL rb w w:=⟨rfl,rfl,rfl,aj _,fun _ _ _=>rfl⟩
theorem bL.trans{rb:Nat}{a b c:World}(h:bL rb a b)(k:bL rb b c):bL rb a c :=
 ⟨k.os.trans h.os,k.tape.trans h.tape,k.output.trans h.output,al h.size k.size,fun i hi hn=>(k.block i (ar hi h.size) hn).trans (h.block i hi hn)⟩
theorem bL.bA{rb:Nat}{w w':World}(h:Below w.heap.size w w'):bL rb w w':=⟨h.os,h.tape,h.output,h.size,fun k hk _=>h.block k hk⟩
theorem bL.set(rb o:Nat)(w:World)(u:Value):bL rb w (w.setCell ⟨rb,o,none⟩ u) :=
 ⟨rfl,rfl,rfl,by simp [World.setCell],fun k _ hn=>Below.heap_setCell w ⟨rb,o,none⟩ u k (fun e=>hn e)⟩
theorem bL.setRow(rb:Nat)(w:World)(cs:Array Value):bL rb w (w.setRow rb cs) :=
 ⟨rfl,rfl,rfl,by simp [World.setRow],fun k _ hn=>setRow_other w rb k cs hn⟩
theorem bL.below{rb:Nat}{w0 w w':World}(h:bL rb w w')(hb:Below w0.heap.size w0 w)(hr:w0.heap.size≤rb):Below w0.heap.size w0 w' :=
 hb.trans ⟨h.os,h.tape,h.output,h.size,fun k hk=>h.block k (ar hk hb.size) (by omega)⟩
theorem bL.cell{rb:Nat}{w w':World}(h:bL rb w w'){a:Addr}{v:Value}(hc:w.cell? a=some v)(hn:a.block≠rb):w'.cell? a=some v :=
 (World.cell?_of_block (a:=a) (h.block a.block (World.block_lt_of_cell? w a hc) hn)).trans hc
def nU(t:TypeId)(w:World)(g:Nat)(l:List UInt8):Prop:=w.heap[g]?=some (.cells (dW l).toArray t (0,0))
theorem nU.cell{t:TypeId}{w:World}{g:Nat}{l:List UInt8}(h:nU t w g l)(j:Nat)(hj:j<l.length):w.cell? ⟨g,j,none⟩=some (.int .u8 (l[j].toNat:Int)):=by
 rw [cell_of_row w g j _ _ _ h];simpa using iL l j hj
theorem qq(l:List UInt8)(o:Nat)(c:List UInt8):splice (dW l) o (dW c)=dW (splice l o c):=by
 simp [splice,dW]
theorem NR(t:TypeId)(w:World)(l:List UInt8):nU t (w.alloc (.cells (dW l).toArray t)) w.heap.size l:=heap_alloc_new w _
def MH(s:ByteArray):Prop:=∀ j,j<s.size→s.data.toList.getD j 0=0
theorem QQ(s:ByteArray)(w:World)(hs:s.size≤140737488355328):Calls prog 190 #[.string s] w fun e w'=>((MH s∧e = .returned (.bool true))∨(¬ MH s∧e = .returned (.bool false)))∧Below w.heap.size w w':=by
 have HT:=ab (Ns s w hs);by_cases hz:MH s
 ·have ht:J5 (F8 s)=ByteArray.empty:=(CP s).2 hz;rw [ht] at HT;have HZ:=ab hz;clear hz ht;go_enter func190,ntmps190;go_wp2_with fail;refine HT.out.mono ?_
  rintro e w' ⟨rfl,hb⟩;go_wp2;go_ret;exact ⟨.inl ⟨HZ.out,rfl⟩,hb⟩
 ·have ht:¬ J5 (F8 s)=ByteArray.empty:=fun h=>hz ((CP s).1 h)
  have dK:(J5 (F8 s)).toList.isEmpty=false:=by rw [AX];exact decide_eq_false ht
  have HZ:=ab hz;generalize J5 (F8 s)=t at *;have BL:¬ t.toList=[]:=fun h=>by rw [h] at dK;cases dK
  clear hz ht;go_enter func190,ntmps190;go_wp2_with fail;refine HT.out.mono ?_
  rintro e w' ⟨rfl,hb⟩;go_wp2;go_ret;exact ⟨.inr ⟨HZ.out,rfl⟩,hb⟩
def vo(b:List UInt8)(n k:Nat):List Value:=strs ((b8 b n).take k)++List.replicate (n - k) (.string ByteArray.empty)
theorem Ko(b:List UInt8)(n:Nat):vo b n 0=List.replicate n (.string ByteArray.empty):=by simp [vo,strs]
theorem NT(b:List UInt8)(n:Nat):vo b n n=strs (b8 b n):=by
 unfold vo;rw [aq (by rw [fY];exact aj _),dO];simp
theorem Db(b:List UInt8)(n k:Nat)(h:k≤n):(vo b n k).length=n:=by
 simp [vo,strs,fY];omega
theorem NS(b:List UInt8)(n k:Nat)(h:k<n)(hk:k<(b8 b n).length):(vo b n k).set k (.string (b8 b n)[k])=vo b n (k+1):=by
 unfold vo;rw [bX _ _ (by rw [kh,ag,fY];omega),az hk,ow]
 rw [kh,ag,fY,a8 (by omega),dO,show n - k=(n - (k+1))+1 by omega,List.replicate_succ,List.set_cons_zero]
 simp [strs]
theorem getD_drop(l:List UInt8)(a j:Nat):(l.drop a).getD j 0=l.getD (a+j) 0:=by
 rw [aK,aK,cN]
theorem QP(s:ByteArray)(a:Nat)(ha:a≤s.size):MH (s.extract a s.size)↔∀ j,a≤j→j<s.size→s.data.toList.getD j 0=0:=by
 have hl:(s.extract a s.size).data.toList=s.data.toList.drop a:=by
  rw [ext_toList,aq (by rw [ao,bsize];omega)]
 have cx:(s.extract a s.size).size=s.size - a:=by rw [ByteArray.size_extract];omega
 unfold MH;rw [hl,cx];constructor
 ·intro h j h1 h2;have:=h (j - a) (by omega)
  rw [getD_drop,show a+(j - a)=j by omega] at this
  exact this
 ·intro h j hj;rw [getD_drop];exact h _ (by omega) (by omega)
def UU(A:Nat→Addr)(c:Int)(s:ByteArray)(w:World)(e:Ending)(w':World):Prop :=
 (0≤c∧Mu s.data.toList c.toNat∧∃ g,e = .returned (.tuple #[.slice (some ⟨g,0,none⟩) c.toNat c.toNat,.nilIface])∧w'.ownsRow w.heap.size 9 1 (.slice (some ⟨g,0,none⟩) c.toNat c.toNat) c.toNat (strs (b8 s.data.toList c.toNat))) ∨
  (¬ (0≤c∧Mu s.data.toList c.toNat)∧e = .returned (.tuple #[.slice none 0 0,.iface 360 (.pointer (some (A 1)))]))
theorem Si(A:Nat→Addr)(n:Nat)(s:ByteArray)(w:World)(hn:n≤2036)(cx:s.size=4072)(hE:du 4 fl A w):Calls prog 153 #[.int .i64 (n:Int),.string s] w fun e w'=>UU A n s w e w'∧Below w.heap.size w w':=by
 obtain ⟨i0,hi,n7,mW,pH⟩:=info_parts info9;obtain ⟨w1,pV,jT,fK⟩:=run_make_full (P:=prog) w w.heap.size 231 9 i0 (.string ByteArray.empty) 1 underlying231 hi n7 mW .i64 .i64 n (by rw [pH];omega) (by unfold maxLen;omega) (aj _)
 have aP:Below w.heap.size w w1:=(Below.refl _ _).grown fK (aj _) (fun j hj=>by cases hj)
 rw [Nat.mul_one,show (Value.string ByteArray.empty).cells=#[.string ByteArray.empty] from rfl,toList_madeCells_one] at jT
 have nR:Hid (w1.ownsRow w.heap.size 9 1 (.slice (some ⟨w.heap.size,0,none⟩) n n) n (vo s.data.toList n 0)):=by
  show World.ownsRow _ _ _ _ _ _ _
  rw [Ko];exact jT
 have bQ:=ab aP;have HE:=ab hE;have ji:=ab cx;have d1:((s.size:Int) != 4072)=false:=by rw [cx];rfl
 have hnI:(n:Int)≤2036:=by omega
 have AO:¬ (n:Int)<0:=by omega
 have Pt:¬ (2036:Int)<(n:Int):=by omega
 have Rp:(0:Int)≤(n:Int):=by omega
 have GS:IntKind.i64.wrap (2*(n:Int))=((2*n:Nat):Int):=by rw [IntKind.wrap_i64];omega
 obtain ⟨n2,VV⟩ : ∃ n2,n2=2*n:=⟨_,rfl⟩;rw [← VV] at GS;have Ft:=ab VV;have HLB:Hid (s.data.toList.length=4072):=by show _=_;rw [bsize];exact cx
 obtain ⟨q,hq⟩ : ∃ q,q=w.heap.size:=⟨_,rfl⟩;rw [← hq] at pV nR;have HQ:=ab hq;clear jT fK aP hE cx n7 mW pH hi VV hq;go_enter func153,ntmps153;go_wp2_with fail;clear pV;go_loopw [7,28] (fun st i wr=>∃ k:Nat,k≤n∧i = .int .i64 k∧st = .int .i64 ((lD s.data.toList n k:Nat):Int)∧lD s.data.toList n k≤4072∧(∀ i,i<k→lD s.data.toList n i≤lD s.data.toList n (i+1)∧lD s.data.toList n (i+1)≤4072)∧wr.ownsRow q 9 1 (.slice (some ⟨q,0,none⟩) n n) n (vo s.data.toList n k)∧Below w.heap.size w wr) (fun _ i _=>n - (intOf i).toNat)
 case atStart=>exact ⟨0,aD _,rfl,by rw [Ft.out];rfl,by show 2*n≤4072;omega,fun i h=>by omega,nR.out,bQ.out⟩
 case round =>
  obtain ⟨k,hk,rfl,rfl,h4,UJ,aE,bO⟩:=hrel;have Va:=ab UJ;clear UJ nR bQ Ft;by_cases bP:k<n
  ·have QZ:=ab (NL s k wr (by have:=ji.out;omega) ji.out)
   have hes:lD s.data.toList n (k+1)=Ac s.data.toList k:=rfl;rw [← hes] at QZ;have rp:=ab aE;have kF:=ab bO;obtain ⟨a,ha⟩ : ∃ a,a=lD s.data.toList n k:=⟨_,rfl⟩;obtain ⟨e,he⟩ : ∃ e,e=lD s.data.toList n (k+1):=⟨_,rfl⟩;rw [← ha] at h4 ⊢;rw [← he] at QZ;have HA:Hid (a=lD s.data.toList n k∧e=lD s.data.toList n (k+1)):=⟨ha,he⟩;have c1:=aE.cellAt k (by omega)
   rw [af (by rw [Db _ _ _ hk];exact bP)] at c1
   have dS:(k:Int)<(n:Int):=by omega
   clear ha he aE hes bO;by_cases hbad:e<a
   ·have ZL:(e:Int)<(a:Int):=by omega
    have HV:Hid (¬ (0≤(n:Int)∧Mu s.data.toList (n:Int).toNat)):=fun h=>by
     have:=(h.2.2.1 k bP).1;rw [bo,← HA.out.1,← HA.out.2] at this;omega
    clear c1;go_wp2_with fail;refine QZ.out.mono ?_
    rintro e' w2 ⟨rfl,aO⟩;have c0:w2.cell? ⟨1,0,none⟩=some (.iface 360 (.pointer (some (A 1)))):=((du.keep HE.out (Below.next kF.out aO)).1 1 (by decide)).1
    have bJ:=ab (Below.next kF.out aO);clear aO;go_wp2;go_quiet (fail)
    go_wp2;go_ret2;exact ⟨.inr ⟨HV.out,rfl⟩,aB bJ.out _⟩
   ·have ZL:¬ (e:Int)<(a:Int):=by omega
    by_cases fW:4072<e
    ·have ZI:(s.size:Int)<(e:Int):=by have:=ji.out;omega
     have HV:Hid (¬ (0≤(n:Int)∧Mu s.data.toList (n:Int).toNat)):=fun h=>by
      have:=(h.2.2.1 k bP).2;rw [bo,← HA.out.2] at this;omega
     clear c1;go_wp2_with fail;refine QZ.out.mono ?_
     rintro e' w2 ⟨rfl,aO⟩;have c0:w2.cell? ⟨1,0,none⟩=some (.iface 360 (.pointer (some (A 1)))):=((du.keep HE.out (Below.next kF.out aO)).1 1 (by decide)).1
     have bJ:=ab (Below.next kF.out aO);clear aO;go_wp2;go_quiet (fail)
     go_wp2;go_ret2;exact ⟨.inr ⟨HV.out,rfl⟩,aB bJ.out _⟩
    ·have ZI:¬ (s.size:Int)<(e:Int):=by have:=ji.out;omega
     have s1:(a:Int)≤(e:Int):=by omega
     have s2:(e:Int)≤(s.size:Int):=by omega
     have s3:(0:Int)≤(a:Int):=by omega
     have s4:a≤e:=by omega
     have s5:e≤s.size:=by omega
     have FI:k<(b8 s.data.toList n).length:=by rw [fY];exact bP
     have HC:Hid (s.extract a e=(b8 s.data.toList n)[k]):=by
      refine ud ?_
      rw [ext_toList,nD,HA.out.1,HA.out.2];rfl
     have TZ:=ab (NS s.data.toList n k bP FI);clear c1;go_wp2_with fail;refine QZ.out.mono ?_
     rintro e' w2 ⟨rfl,aO⟩;have nz:=rp.out;have S2:w2.ownsRow q 9 1 (.slice (some ⟨q,0,none⟩) n n) n (vo s.data.toList n k):=by
      refine ⟨nz.1,?_⟩;rcases nz.2 with h' | ⟨g',cap,cur,hv,lU,hg,Cn,sQ,fs,mX⟩
      ·exact .inl h'
      ·have hl:g'<wr.heap.size:=by
        rcases a7 g' wr.heap.size with h' | h'
        ·exact h'
        ·rw [aY h'] at hg;cases hg
       exact .inr ⟨g',cap,cur,hv,lU,(aO.block g' hl).trans hg,Cn,sQ,fs,mX⟩
     have c1:=S2.cellAt k (by omega)
     rw [af (by rw [Db _ _ _ hk];exact bP)] at c1
     have z1:=S2.frozenAt k;have fi:=(S2.stored k (.string (s.extract a e))).1;rw [HC.out,TZ.out] at fi;rw [← HC.out] at fi;have gY:=ab fi;have bJ:Hid (Below w.heap.size w (w2.setCell ⟨q,k,none⟩ (.string (s.extract a e)))):=(Below.next kF.out aO).setCell (by show w.heap.size≤q;rw [HQ.out];exact aj _) _
     clear aO nz S2 fi;go_wp2;go_roundw
     case rel =>
      refine ⟨k+1,by omega,by go_num,by rw [← HA.out.2],by rw [← HA.out.2];omega,fun i hi=>?_,gY.out,bJ.out⟩
      by_cases Rv:i=k
      ·subst Rv;rw [← HA.out.1,← HA.out.2];omega
      ·exact Va.out i (by omega)
     case measure=>simp [intOf];omega
  ·have n9:k=n:=by omega
   have dS:¬ (k:Int)<(n:Int):=by omega
   subst n9;obtain ⟨a,ha⟩ : ∃ a,a=lD s.data.toList k k:=⟨_,rfl⟩;rw [← ha] at h4 ⊢;have s1:(a:Int)≤(s.size:Int):=by have:=ji.out;omega
   have s2:(0:Int)≤(a:Int):=by omega
   have HZ:=ab (QQ (s.extract a s.size) wr (by rw [ByteArray.size_extract];have:=ji.out;omega))
   have HX:=ab (QP s a (by omega))
   have HAE:=ab ha;have rp:=ab aE;have kF:=ab bO;clear ha aE bO;by_cases hz:MH (s.extract a s.size)
   ·have pN:Hid (Mu s.data.toList k):=⟨⟨hn,HLB.out⟩,Va.out,fun j h1 h2=>HX.out.1 hz j (by rw [HAE.out];exact h1) (by rw [ji.out];exact h2)⟩
    have HZ2:Hid (Calls prog 190 #[.string (s.extract a s.size)] wr fun e w'=>e = .returned (.bool true)∧Below wr.heap.size wr w'):=by
     refine HZ.out.mono ?_
     rintro e w' ⟨h | h,hb⟩
     ·exact ⟨h.2,hb⟩
     ·exact absurd hz h.1
    clear HZ hz HX;go_wp2_with fail;refine HZ2.out.mono ?_
    rintro e w2 ⟨rfl,aO⟩;have nz:=rp.out;have im:Hid (w2.ownsRow w.heap.size 9 1 (.slice (some ⟨q,0,none⟩) k k) k (strs (b8 s.data.toList k))):=by
     rw [NT,HQ.out] at nz;show World.ownsRow _ _ _ _ _ _ _
     rw [HQ.out];refine ⟨nz.1,?_⟩;rcases nz.2 with h' | ⟨g',cap,cur,hv,lU,hg,Cn,sQ,fs,mX⟩
     ·exact .inl h'
     ·have hl:g'<wr.heap.size:=by
       rcases a7 g' wr.heap.size with h' | h'
       ·exact h'
       ·rw [aY h'] at hg;cases hg
      exact .inr ⟨g',cap,cur,hv,lU,(aO.block g' hl).trans hg,Cn,sQ,fs,mX⟩
    have bJ:=ab (Below.next kF.out aO);clear nz aO;go_wp2;go_ret2;exact ⟨.inl ⟨Rp,pN.out,q,rfl,im.out⟩,bJ.out⟩
   ·have HV:Hid (¬ (0≤(k:Int)∧Mu s.data.toList (k:Int).toNat)):=fun h=>hz (HX.out.2 (fun j h1 h2=>h.2.2.2 j (by rw [bo,← HAE.out];exact h1) (by rw [← ji.out];exact h2)))
    have HZ2:Hid (Calls prog 190 #[.string (s.extract a s.size)] wr fun e w'=>e = .returned (.bool false)∧Below wr.heap.size wr w'):=by
     refine HZ.out.mono ?_
     rintro e w' ⟨h | h,hb⟩
     ·exact absurd h.1 hz
     ·exact ⟨h.2,hb⟩
    clear HZ hz HX;go_wp2_with fail;refine HZ2.out.mono ?_
    rintro e w2 ⟨rfl,aO⟩;have c0:w2.cell? ⟨1,0,none⟩=some (.iface 360 (.pointer (some (A 1)))):=((du.keep HE.out (Below.next kF.out aO)).1 1 (by decide)).1
    have bJ:=ab (Below.next kF.out aO);clear aO;go_wp2;go_quiet (fail)
    go_wp2;go_ret2;exact ⟨.inr ⟨HV.out,rfl⟩,aB bJ.out _⟩
theorem mm(A:Nat→Addr)(c:Int)(s:ByteArray)(w:World)(hE:du 4 fl A w):Calls prog 153 #[.int .i64 c,.string s] w fun e w'=>UU A c s w e w'∧Below w.heap.size w w':=by
 by_cases h:(0≤c∧c≤2036)∧s.size=4072
 ·obtain ⟨n,rfl⟩:=cD h.1.1;exact Si A n s w (by omega) h.2 hE
 ·have HV:Hid (¬ (0≤c∧Mu s.data.toList c.toNat)):=fun hh=>h ⟨⟨hh.1,by have:=hh.2.1.1;omega⟩,by have:=hh.2.1.2;rw [bsize] at this;exact this⟩
  have c0:w.cell? ⟨1,0,none⟩=some (.iface 360 (.pointer (some (A 1)))):=(hE.1 1 (by decide)).1
  clear hE;by_cases h1:c<0
  ·clear h;go_enter func153,ntmps153;go_wp2;go_quiet (fail)
   go_wp2;go_ret2;exact ⟨.inr ⟨HV.out,rfl⟩,aB (Below.refl _ _) _⟩
  ·by_cases h2:2036<c
   ·clear h;go_enter func153,ntmps153;go_wp2;go_quiet (fail)
    go_wp2;go_ret2;exact ⟨.inr ⟨HV.out,rfl⟩,aB (Below.refl _ _) _⟩
   ·have d1:((s.size:Int) != 4072)=true:=by
     rw [bne_iff_ne];intro he;exact h ⟨⟨by omega,by omega⟩,by omega⟩
    clear h;go_enter func153,ntmps153;go_wp2;go_quiet (fail)
    go_wp2;go_ret2;exact ⟨.inr ⟨HV.out,rfl⟩,aB (Below.refl _ _) _⟩
def tY(L:List Pr)(k:Nat):List Value:=iD (L.take k)++List.replicate ((L.length - k)*2) (.string ByteArray.empty)
theorem Ql(L:List Pr)(k:Nat)(h:k≤L.length):(tY L k).length=L.length*2:=by
 unfold tY;rw [ae,eJ,ag,bw];omega
theorem Qk(L:List Pr)(k:Nat)(h:k<L.length):((tY L k).set (k*2) (.string L[k].1)).set (k*2+1) (.string L[k].2)=tY L (k+1):=by
 have hl:(iD (L.take k)).length=k*2:=by rw [eJ,ag];omega
 unfold tY;rw [bX _ _ (by omega),hl,dO,show (L.length - k)*2=(L.length - (k+1))*2+1+1 by omega,List.replicate_succ,List.replicate_succ,List.set_cons_zero]
 rw [bX _ _ (by omega),hl,show k*2+1 - k*2=1 by omega,List.set_cons_succ,List.set_cons_zero,az h,wZ,ay]
 rfl
theorem LY(L:List Pr):tY L 0=List.replicate (L.length*2) (.string ByteArray.empty):=by simp [tY,iD]
theorem Qm(L:List Pr):tY L L.length=iD L:=by simp [tY]
theorem OF(z:Value)(n:Nat):(madeCells #[z,z] n).toList=List.replicate n z:=by
 apply ql
 intro j;by_cases hj:j<n
 ·rcases bW j with h | h <;> simp [madeCells,hj,h]
 ·simp [madeCells,hj]
theorem Gy{w w':World}{base e n:Nat}{v:Value}{xs:List Value}(h:w.ownsRow base e 2 v n xs)(hb:Below w.heap.size w w'):w'.ownsRow base e 2 v n xs:=by
 refine ⟨h.1,?_⟩;rcases h.2 with h' | ⟨g,cap,cur,h',h1,h2,hr⟩
 ·exact .inl h'
 ·refine .inr ⟨g,cap,cur,h',h1,?_,hr⟩;have hg:g<w.heap.size:=by
   rcases a7 g w.heap.size with h' | h'
   ·exact h'
   ·rw [aY h'] at h2;cases h2
  rw [hb.block g hg];exact h2
def aa0(A:Nat→Addr)(c:Int)(s:ByteArray)(base:Nat)(e:Ending)(w:World):Prop :=
 (0≤c∧mT c.toNat s.data.toList∧∃ u,e = .returned (.tuple #[u,.nilIface])∧iC w base u (BY c.toNat s.data.toList)) ∨
  (¬ (0≤c∧mT c.toNat s.data.toList)∧e = .returned (.tuple #[.slice none 0 0,.iface 360 (.pointer (some (A 1)))]))
theorem DY(A:Nat→Addr)(c:Int)(s:ByteArray)(w:World)(hE:j7 A w):Calls prog 114 #[.int .i64 c,.string s] w fun e w'=>aa0 A c s w.heap.size e w'∧Below w.heap.size w w':=by
 have Mw:=ab (mm A c s w hE.1);have HE:=ab hE;obtain ⟨i0,hi,hz,cx,kU⟩:=info_parts Jb;clear hE;obtain ⟨Q,hQ⟩ : ∃ Q:Ending→World→Prop,Q=fun e w'=>aa0 A c s w.heap.size e w'∧Below w.heap.size w w':=⟨_,rfl⟩
 rw [← hQ];have HQ:=ab hQ;clear hQ;go_enter func114,ntmps114;go_wp2_with fail;refine Mw.out.mono ?_
 rintro e w1 ⟨⟨yh,cT,g,rfl,aE⟩ | ⟨fM,rfl⟩,aP⟩
 ·obtain ⟨n,rfl⟩:=cD yh;simp only [bo] at cT aE ⊢;have hn:=cT.1.1;obtain ⟨B,hB⟩ : ∃ B,B=s.data.toList:=⟨_,rfl⟩;obtain ⟨CB,ZW⟩ : ∃ CB,CB=b8 B n:=⟨_,rfl⟩;have hCl:CB.length=n:=by rw [ZW,fY]
  rw [← hB] at cT aE;rw [← ZW] at aE;have ZV:∀ x ∈ CB,x.size≤4072:=fun x hx=>by
   rw [ZW] at hx;obtain ⟨j,hj,rfl⟩:=aQ hx;rw [fY] at hj;rw [← bsize,nD,L9 cT j hj];have:=Ju cT (j+1) (by omega)
   omega
  have PZ:(CB.map dx).length=n:=by rw [aA,hCl]
  obtain ⟨wm,pV,fR,qh⟩:=run_make_full (P:=prog) w1 w1.heap.size 63 52 i0 _ 2 underlying63 hi hz cx .i64 .i64 n (by rw [kU];omega) (by unfold maxLen;omega) (aj _)
  have n7:(madeCells (Value.agg #[.string ByteArray.empty,.string ByteArray.empty]).cells (n*2)).toList=tY (CB.map dx) 0:=by
   rw [LY,PZ];exact OF _ _
  rw [n7] at fR;have Cs:Below w1.heap.size w1 wm:=(Below.refl _ _).grown qh (aj _) (fun j hj=>by cases hj)
  obtain ⟨b,hb⟩ : ∃ b,b=w1.heap.size:=⟨_,rfl⟩;rw [← hb] at pV fR;have HB:=ab hb;have HO:=ab fR;have JL:=ab Cs;have bQ:=ab aP;have UY:=ab (fT aE).strs;have pN:=ab cT;have vD:=ab hCl;have FR:=ab ZV;have iq:=ab PZ;have HCB:=ab ZW;have nc:=ab hB;clear hb fR Cs qh hi hz cx kU n7 aP Mw aE cT hCl ZV PZ ZW hB yh;go_wp2;clear pV;go_loopw [27] (fun i wr=>∃ k:Nat,k≤n∧i = .int .i64 k∧wr.ownsRow b 52 2 (.slice (some ⟨b,0,none⟩) n n) n (tY (CB.map dx) k)∧(∀ j (h:j<CB.length),j<k→FA CB[j]=true)∧Below w1.heap.size w1 wr) (fun i _=>n - (intOf i).toNat)
  case atStart=>exact ⟨0,aD _,rfl,HO.out,fun j _ h=>absurd h (eX _),JL.out⟩
  case round =>
   obtain ⟨k,hk,rfl,aE,gB,bO⟩:=hrel;clear HO JL;have HP:=ab gB;clear gB;by_cases bP:k<n
   ·have dm:k<CB.length:=by have:=vD.out;omega
    have hkL:k<(CB.map dx).length:=by rw [iq.out];exact bP
    have Rj:=UY.out.below bO;obtain ⟨ta,tc,hte,_,tO⟩:=Rj;obtain ⟨g',o',ha,f1⟩:=tO k dm;simp only [Value.slice.injEq] at hte;obtain ⟨rfl,-⟩:=hte;simp only [Option.some.injEq,Addr.mk.injEq,and_true] at ha;obtain ⟨rfl,rfl⟩:=ha;rw [Nat.zero_add] at f1;have U3:=ab (fun W=>Gt CB[k] W (FR.out _ (aH _)))
    have iJ:Hid (((tY (CB.map dx) k).set (k*2) (.string (dx CB[k]).1)).set (k*2+1) (.string (dx CB[k]).2)=tY (CB.map dx) (k+1)):=by
     have:=Qk (CB.map dx) k hkL;simp only [cd] at this;exact this
    have p7:Hid (FA CB[k]=true→∀ j (h:j<CB.length),j<k+1→FA CB[j]=true):=fun hl j h hj=>by
     by_cases he:j=k
     ·subst he;exact hl
     ·exact HP.out j h (by omega)
    have kO:Hid (FA CB[k]=false→¬ (0≤(n:Int)∧mT (n:Int).toNat s.data.toList)):=fun hl hd=>by
     have:=hd.2.2.1;rw [← nc.out,bo,← HCB.out] at this;have h2:=this CB[k] (aH _);rw [hl] at h2;cases h2
    obtain ⟨ck,lJ⟩ : ∃ ck,ck=CB[k]:=⟨_,rfl⟩;rw [← lJ] at f1 U3 iJ p7 kO;have kF:=ab bO;have rp:=ab aE;have kV:=ab (Ql (CB.map dx) k (by omega))
    have dS:(k:Int)<(n:Int):=by omega
    have j0:(0:Int)≤(k:Int):=by omega
    clear lJ tO bO aE;go_wp2_with fail;refine (U3.out _).mono ?_
    rintro e w2 ⟨⟨hok1,rfl⟩ | ⟨Y1,x,y,rfl⟩,aO⟩
    ·have uh:=ab (p7.out hok1);obtain ⟨p,hp⟩ : ∃ p,p=dx ck:=⟨_,rfl⟩;rw [← hp] at iJ ⊢;have fh:=ai w2 (.cells #[.string p.1,.string p.2] 52);have gC:=Gy rp.out (Below.next aO fh);have hq:∀ j,j<n*2→∃ u,(w2.alloc (.cells #[.string p.1,.string p.2] 52)).cell? ⟨b,j,none⟩=some u:=fun j hj=>by
      rw [World.ownsRow.cellAt gC j hj];exact ⟨_,af (by rw [kV.out,iq.out];exact hj)⟩
     obtain ⟨u1,q1⟩:=hq (k*2) (by omega)
     obtain ⟨u2,q2⟩:=hq (k*2+1) (by omega)
     have z1:=World.ownsRow.frozenAt gC (k*2);have z2:=World.ownsRow.frozenAt gC (k*2+1);have fi:=(World.ownsRow.stored (World.ownsRow.stored gC (k*2) (.string p.1)).1 (k*2+1) (.string p.2)).1;rw [iJ.out] at fi;have im:=ab fi;have BQ:w1.heap.size≤b:=by rw [HB.out];exact aj _
     have bJ:Hid (Below w1.heap.size w1 (((w2.alloc (.cells #[.string p.1,.string p.2] 52)).setCell ⟨b,k*2,none⟩ (.string p.1)).setCell ⟨b,k*2+1,none⟩ (.string p.2))):=((Below.next kF.out (Below.next aO fh)).setCell BQ _).setCell BQ _;clear hp aO fh gC hq fi iJ rp kF U3 p7 kO hok1 f1;go_wp2;go_roundw
     case rel=>exact ⟨k+1,by omega,by go_num,im.out,uh.out,bJ.out⟩
     case measure=>simp [intOf];omega
    ·have Q3:=ab (kO.out Y1);have fh:=ai w2 (.cells #[.string x,.string y] 52);have bJ:=ab (Below.next bQ.out (Below.next kF.out (Below.next aO fh)));have k1:(w2.alloc (.cells #[.string x,.string y] 52)).cell? ⟨1,0,none⟩=some (.iface 360 (.pointer (some (A 1)))):=((HE.out.below bJ.out).1.1 1 (by decide)).1
     clear aO fh iJ rp kF U3 p7 kO Y1 f1;go_wp2;go_quiet (fail)
     go_wp2;rw [HQ.out];exact ⟨.inr ⟨Q3.out,rfl⟩,aB bJ.out _⟩
   ·have n9:k=n:=by omega
    rw [n9,← iq.out,Qm,iq.out] at aE;have hpo:iC wr b (.slice (some ⟨b,0,none⟩) n n) (CB.map dx):=by unfold iC;rw [iq.out];exact aE
    have YT:TU (CB.map dx):=fun p hp=>by
     obtain ⟨c0,yh,rfl⟩:=List.mem_map.1 hp;have:=FR.out c0 yh;have h1:=IU c0;have h2:=IT c0;have h3:=(pG c0.data.toList).1;omega
    have CE:=ab (Below.next bQ.out bO);have od:=ab (qG A _ (CB.map dx) true wr YT (by rw [iq.out];omega) hpo.at (HE.out.below CE.out))
    have U3:=ab (hpo.mono (show w.heap.size≤b by rw [HB.out];exact bQ.out.size))
    have Ih:Hid (∀ x ∈ CB,FA x=true):=fun x hx=>by
     obtain ⟨j,hj,rfl⟩:=aQ hx;exact HP.out j hj (by have:=vD.out;omega)
    have dS:¬ (k:Int)<(n:Int):=by omega
    have HDL:Hid (BY (n:Int).toNat s.data.toList=CB.map dx):=by show _=_;rw [bo,← nc.out,HCB.out];rfl
    have HDO:Hid (mT (n:Int).toNat s.data.toList↔zL (CB.map dx) true=none):=by
     show _↔_
     rw [bo,← nc.out];unfold mT;rw [← HCB.out];exact ⟨fun h=>h.2.2,fun h=>⟨pN.out,Ih.out,h⟩⟩
    clear aE bO hpo YT HP UY n9;cases lJ:zL (CB.map dx) true with
    | none =>
     rw [lJ] at od;have HD:=ab (HDO.out.2 lJ);clear lJ;go_wp2_with fail;refine od.out.mono ?_
     rintro e w3 ⟨rfl,bF⟩;have vC:=ab (U3.out.below bF);have dD:=ab (Below.next CE.out bF);clear bF od U3 CE;unfold iz;go_wp2;rw [HQ.out];exact ⟨.inl ⟨by omega,HD.out,_,rfl,by rw [HDL.out];exact vC.out⟩,dD.out⟩
    | some m =>
     rw [lJ] at od;have HD:Hid (¬ (0≤(n:Int)∧mT (n:Int).toNat s.data.toList)):=fun h=>by
      have:=HDO.out.1 h.2;rw [lJ] at this;cases this
     have Er:=fun W=>ff (some (A m)) W
     clear lJ;go_wp2_with fail;refine od.out.mono ?_
     rintro e w3 ⟨rfl,bF⟩;have dD:=ab (Below.next CE.out bF);have k1:w3.cell? ⟨1,0,none⟩=some (.iface 360 (.pointer (some (A 1)))):=((HE.out.below dD.out).1.1 1 (by decide)).1
     clear bF od U3 CE;unfold iz;go_wp2;go_quiet (fail)
     go_wp2;rw [HQ.out];exact ⟨.inr ⟨HD.out,rfl⟩,aB dD.out _⟩
 ·have kO:Hid (¬ (0≤c∧mT c.toNat s.data.toList)):=fun h=>fM ⟨h.1,h.2.1⟩
  have bQ:=ab aP;have k1:w1.cell? ⟨1,0,none⟩=some (.iface 360 (.pointer (some (A 1)))):=((HE.out.below aP).1.1 1 (by decide)).1
  have Er:=fun W=>ff (some (A 1)) W
  clear aP fM Mw hi hz cx kU;go_wp2;go_quiet (fail)
  go_wp2;rw [HQ.out];exact ⟨.inr ⟨kO.out,rfl⟩,aB bQ.out _⟩
namespace B
def kA(n:Nat):ByteArray:=⟨(bK n 4).toArray⟩
def mJ(p:Lk):ByteArray:=⟨([UInt8.ofNat p.1.size]++(p.1.data.toList++bK p.2.toNat 4)).toArray⟩
theorem qX(n:Nat):(kA n).data.toList=bK n 4:=by simp [kA]
theorem jX(p:Lk):(mJ p).data.toList=[UInt8.ofNat p.1.size]++(p.1.data.toList++bK p.2.toNat 4):=by simp [mJ]
theorem qW(n:Nat):(kA n).size=4:=by rw [← bsize,qX,eC n 4 (by decide)]
theorem yv(p:Lk):(mJ p).size=5+p.1.size:=by
 rw [← bsize,jX,ae,ae,eC _ 4 (by decide),bsize];simp;omega
def dz(f:Int)(l:List Lk):List ByteArray:=kA f.toNat::l.map mJ
theorem nC(f:Int)(l:List Lk):(dz f l).length=l.length+1:=by simp [dz]
theorem Hi(L:List ByteArray):(dY L L.length)=L.flatMap (fun c=>c.data.toList):=by
 unfold dY;rw [aq (aj _)]
theorem EG:∀ l:List Lk,((l.map mJ).flatMap (fun c=>c.data.toList)).length+2*l.length+6=jL l
 | []=>by simp [jL]
 | p::l=>by
  have:=EG l;rw [List.map_cons,List.flatMap_cons,ae,bsize,yv,ot,List.length_cons];unfold yQ;omega
theorem ox(f:Int)(l:List Lk):dR (dz f l)=jL l:=by
 have h:=EG l;unfold dR fw;rw [nC,show (l.length+1)=(dz f l).length from (nC f l).symm,Hi]
 unfold dz;rw [List.flatMap_cons,ae,bsize,qW,List.length_cons,aA];omega
def pX(f:Int)(l:List Lk):ByteArray:=⟨(jC (dz f l)).toArray⟩
theorem E0(f:Int)(l:List Lk)(k:Nat)(h:k<l.length):dz f (l.take (k+1))=dz f (l.take k)++[mJ l[k]]:=by
 unfold dz;rw [az h,bn];rfl
end B
theorem z6(l:List UInt8)(k:Nat)(h:k<l.length):l.take (k+1)=l.take k++[l[k]]:=az h
def ey(l:List UInt8):Nat:=l.foldl (fun n c=>n*256+c.toNat) 0
theorem qY(l:List UInt8)(c:UInt8):ey (l++[c])=ey l*256+c.toNat:=by simp [ey,List.foldl_append]
theorem yz(l:List UInt8):ey l<256 ^ l.length:=by
 have:∀ (l:List UInt8) (n k:Nat),n<256 ^ k→l.foldl (fun n c=>n*256+c.toNat) n<256 ^ (k+l.length):=by
  intro l;induction l with
  | nil=>intro n k h;simpa using h
  | cons c r ih =>
   intro n k h;have hc:=UInt8.toNat_lt c;have:=ih (n*256+c.toNat) (k+1) (by rw [Nat.pow_succ];omega)
   simp only [List.foldl_cons,List.length_cons];rwa [show k+(r.length+1)=k+1+r.length by omega]
 have h:=this l 0 0 (by decide)
 rwa [Nat.zero_add] at h
def jN(l:List UInt8):List UInt8:=List.replicate (8 - l.length) 0++l
theorem Gw(l:List UInt8)(h:l.length≤8):(jN l).length=8:=by simp [jN];omega
theorem B7(l:List UInt8):ey (jN l)=ey l:=by
 have:∀ k,(List.replicate k (0:UInt8)).foldl (fun n c=>n*256+c.toNat) 0=0:=by
  intro k;induction k with
  | zero=>rfl
  | succ k ih=>rw [List.replicate_succ,List.foldl_cons];exact ih
 unfold ey jN;rw [gq,this]
theorem TD(g o cap:Nat)(l:List UInt8)(w:World)(hg:g<w.heap.size)(hc:∀ j (h:j<l.length),w.cell? ⟨g,o+j,none⟩=some (.int .u8 (l[j].toNat:Int)))(h8:l.length≤8):∃ w2,(Builtin.copy_ #[145,145] 3 #[.slice (some ⟨w.heap.size,8 - l.length,none⟩) l.length l.length,.slice (some ⟨g,o,none⟩) l.length cap]).run prog (w.alloc (.cells #[.int .u8 0,.int .u8 0,.int .u8 0,.int .u8 0,.int .u8 0,.int .u8 0,.int .u8 0,.int .u8 0] 328)) = .ok (goInt l.length) w2∧Below w.heap.size w w2∧∀ j (h:j<(jN l).length),w2.cell? ⟨w.heap.size,j,none⟩=some (.int .u8 ((jN l)[j].toNat:Int)):=by
 have mx:=heap_alloc_new w (.cells #[.int .u8 0,.int .u8 0,.int .u8 0,.int .u8 0,.int .u8 0,.int .u8 0,.int .u8 0,.int .u8 0] 328);have bg:=run_copy_row (P:=prog) (w.alloc (.cells #[.int .u8 0,.int .u8 0,.int .u8 0,.int .u8 0,.int .u8 0,.int .u8 0,.int .u8 0,.int .u8 0] 328)) 145 145 3 5 w.heap.size (8 - l.length) l.length l.length ⟨g,o,none⟩ l.length cap _ 328 (dW l) underlying145 uz mx (by rw [a6];exact (Nat.min_self _).symm)
  (fun j v hv=>by
   by_cases hj:j<l.length
   ·rw [iL l j hj] at hv;cases hv;rw [show (⟨g,o,none⟩ : Addr).add j=⟨g,o+j,none⟩ by simp [Addr.add]]
    rw [(ai w _).cell (p:=⟨g,o+j,none⟩) hg];exact hc j hj
   ·rw [bE (by rw [a6];omega)] at hv;cases hv)
  (by rw [a6];simp;omega) (rr l)
 rw [a6] at bg;have hl:(List.take (8 - l.length) (#[.int .u8 0,.int .u8 0,.int .u8 0,.int .u8 0,.int .u8 0,.int .u8 0,.int .u8 0,.int .u8 0] : Array Value).toList++dW l++List.drop (8 - l.length+l.length) (#[.int .u8 0,.int .u8 0,.int .u8 0,.int .u8 0,.int .u8 0,.int .u8 0,.int .u8 0,.int .u8 0] : Array Value).toList)=dW (jN l):=by
  have hz:(#[.int .u8 0,.int .u8 0,.int .u8 0,.int .u8 0,.int .u8 0,.int .u8 0,.int .u8 0,.int .u8 0] : Array Value).toList=List.replicate 8 (.int .u8 0):=rfl;rw [hz,show 8 - l.length+l.length=8 by omega,List.take_replicate,nP,jN,jK]
  simp [dW,Nat.min_eq_left (show 8 - l.length≤8 by omega)]
 rw [hl] at bg;refine ⟨_,bg,below_setRow (ai w _) (aj _) _,fun j hj=>?_⟩
 have bG:=setRow_heap _ w.heap.size _ (dW (jN l)).toArray 328 _ mx;rw [cell_of_row _ w.heap.size j _ 328 _ bG];simpa using iL (jN l) j hj
theorem NU{k:IntKind}{a b:Nat}{v:Value}(h:a=b):Ending.returned (.tuple #[.int k (a:Int),v]) = .returned (.tuple #[.int k (b:Int),v]):=by rw [h]
theorem St(y c:Nat)(hy:y<72057594037927936)(hc:c<256):bits BinOp.or IntKind.u64 ((y:Int)*256) (c:Int)=((y*256+c:Nat):Int):=by
 have h:=u64_or_nat (y*256) c (by omega) (by omega)
 rw [nat_join 8 (y*256) c (by omega) (by simpa using hc)] at h
 rw [← h];rfl
theorem P6(g o cap:Nat)(l:List UInt8)(w:World)(h1:1≤l.length)(h8:l.length≤8)(hg:g<w.heap.size)(hc:∀ j (h:j<l.length),w.cell? ⟨g,o+j,none⟩=some (.int .u8 (l[j].toNat:Int))):Calls prog 227 #[.slice (some ⟨g,o,none⟩) l.length cap] w fun e w'=>e = .returned (.tuple #[.int .u64 ((ey l:Nat):Int),.nilIface])∧Below w.heap.size w w':=by
 obtain ⟨cs,fs⟩ : ∃ cs,cs=dW l:=⟨_,rfl⟩;obtain ⟨len,hlen⟩ : ∃ len,len=l.length:=⟨_,rfl⟩;rw [← hlen] at h1 h8;have rl:cs.length=len:=by rw [fs,a6,hlen]
 have FR:Hid (cs=dW l):=fs;have kV:Hid (len=l.length):=hlen;rw [← kV.out];clear fs hlen;have qM:=Ad w.heap.size len h1 h8;go_enter func227,ntmps227;obtain ⟨w2,yV,aO,aX⟩:=TD g o cap l w hg hc (by rw [← kV.out];exact h8)
 rw [← kV.out] at yV;clear hc;have sP:decide ((len:Int)<1)=false:=decide_eq_false (by omega)
 have Ll:decide ((8:Int)<(len:Int))=false:=decide_eq_false (by omega)
 go_wp2_with fail;have FF:(jN l).length=8:=Gw l (by rw [← kV.out];exact h8)
 have HB:Hid (ey (jN l)=ey l):=B7 l;generalize jN l=pl at *;go_loop [5,22] (fun r i=>∃ k y:Nat,k≤8∧i = .int .i64 k∧r = .int .u64 (y:Int)∧y=ey (pl.take k)) (fun _ i=>8 - (intOf i).toNat)
 case atStart=>exact ⟨0,0,by omega,rfl,rfl,rfl⟩
 case round =>
  obtain ⟨k,y,hk,rfl,rfl,VF⟩:=hrel;have HY:Hid (y=ey (pl.take k)):=VF;clear VF;by_cases bP:k<8
  ·have lJ:=aX k (by omega)
   obtain ⟨c,MP⟩ : ∃ c:Nat,c=(pl[k]'(by omega)).toNat:=⟨_,rfl⟩
   have UL:c<256:=by rw [MP];exact UInt8.toNat_lt _
   rw [← MP] at lJ;have HR:Hid (y*256+c=ey (pl.take (k+1))):=by
    show y*256+c=_
    rw [z6 pl k (by omega),qY,← HY.out,MP]
   have hyb:y<72057594037927936:=by
    rw [HY.out];have h:=yz (pl.take k);rw [ag,a8 (by omega)] at h
    exact ar h (al (mO (n:=256) (i:=k) (j:=7) (by decide) (by omega)) (by decide))
   have e1:=St y c hyb UL;clear MP aX qM yV;go_wp2;go_round
   case rel=>exact ⟨k+1,y*256+c,by omega,by go_num,by go_num,HR.out⟩
   case measure=>simp [intOf];omega
  ·have HE:Hid (y=ey l):=by
    show y=_
    rw [HY.out,aq (by omega),HB.out]
   clear aX qM yV;go_wp2;go_ret2;exact ⟨NU HE.out,aO⟩
theorem Jy(n m:Nat)(hm:m+1≤8):bK n (m+1)=bK (n / 256) m++[UInt8.ofNat n]:=by
 apply mc
 ·rw [ae,eC n _ hm,eC _ m (by omega)];rfl
 ·intro i h1 h2;rw [eC n _ hm] at h1;simp only [bK,dd];rw [yo];by_cases hi:i<m
  ·rw [aI (by rw [ao,mI];omega)]
   simp only [dd];rw [yo];unfold kJ;rw [Nat.div_div_eq_div_mul,show (256:Nat)=2 ^ 8 from rfl,← Nat.pow_add,show 8*(7 - (8 - (m+1)+i))=8+8*(7 - (8 - m+i)) by omega]
  ·have he:i=m:=by omega
   subst he;rw [bt (by rw [ao,mI];omega)]
   simp [kJ,show 7 - (7 - i+i)=0 by omega]
theorem mK(m:Nat):∀ n,m≤8→n<2 ^ (8*m)→ey (bK n m)=n:=by
 induction m with
 | zero =>
  intro n _ hn;have h0:n=0:=by simpa using hn
  subst h0;decide
 | succ m ih =>
  intro n hm hn;have h1:n / 256<2 ^ (8*m):=by
   rw [show 8*(m+1)=8*m+8 by omega,Nat.pow_add] at hn
   exact Nat.div_lt_of_lt_mul (by rw [Nat.mul_comm];simpa using hn)
  rw [Jy n m hm,qY,ih (n / 256) (by omega) h1]
  simp only [UInt8.toNat_ofNat'];omega
theorem yB(k:Nat):∀ l:List UInt8,l.length=k→k≤8→bK (ey l) k=l:=by
 induction k with
 | zero =>
  intro l hl _;rw [List.length_eq_zero_iff.1 hl];decide
 | succ k ih =>
  intro l hl hk;obtain ⟨r,c,rfl⟩ : ∃ r c,l=r++[c]:=⟨l.dropLast,l.getLast (by intro h;simp [h] at hl),(iI _).symm⟩
  have hr:r.length=k:=by simpa using hl
  have hc:=UInt8.toNat_lt c;rw [qY,Jy _ k hk,show (ey r*256+c.toNat) / 256=ey r by omega,ih r hr (by omega)]
  congr 2
  apply UInt8.toNat_inj.1
  simp only [UInt8.toNat_ofNat'];omega
end Go.Proofs.YtihmgigfkmofnaaGreatDoor
