import Derived.Test.YtihmgigfkmofnaaGreatDoorG11
import Derived.Deep.QuietTactic
import Derived.Lib.BufferWrite
import Derived.Deep.WholeRow
set_option maxHeartbeats 4000000
set_option maxRecDepth 100000
open Go.Proofs.Tryz
namespace Go.Proofs.YtihmgigfkmofnaaGreatDoor
open Go.RowKit
def Jg(c:UInt8):Bool:=c == 0
def iW(l:List UInt8):List UInt8:=l.dropWhile Jg
def Kd(s:ByteArray):ByteArray:=⟨(iW s.data.toList).toArray⟩
def Ga(s:ByteArray):ByteArray:=⟨(iW s.data.toList.reverse).reverse.toArray⟩
theorem ext_toList(s:ByteArray)(a b:Nat):(s.extract a b).data.toList=(s.data.toList.drop a).take (b - a):=by
 rw [ByteArray.data_extract,Array.toList_extract]
theorem tO{x y:ByteArray}(h:x.data.toList=y.data.toList):x=y:=by
 have h2:x.data=y.data:=Array.toList_inj.1 h;cases x;exact congrArg ByteArray.mk h2
theorem CW(x:ByteArray)(k:Nat)(hk:k=x.size - 1)(h:k<x.size):x.data.toList=x.data.toList.take k++[x[k]]:=by
 have h1:k<x.data.toList.length:=by rw [bsize];exact h
 have:=ax h1;rw [al (by rw [bsize];omega)] at this
 exact this
theorem Bi(x:ByteArray)(h:0<x.size):x.data.toList=x[0]::x.data.toList.drop 1:=by
 have h1:0<x.data.toList.length:=by rw [bsize];exact h
 have:=a7 h1;rw [List.drop_zero] at this;exact this
theorem Kb(s:ByteArray)(w:World)(hs:s.size≤140737488355328):Calls prog 245 #[.string s,.int .u8 0] w fun e w'=>e = .returned (.string (Ga s))∧w'=w:=by
 obtain ⟨t,ht⟩ : ∃ t,t=Ga s:=⟨_,rfl⟩;rw [← ht];have HT:=ab ht;clear ht;go_enter func245,ntmps245;go_wp2;go_loop [0] (fun v=>∃ (x:ByteArray),v = .string x∧iW x.data.toList.reverse=iW s.data.toList.reverse∧x.size≤s.size) (fun v=>match v with | .string x=>x.size | _=>0)
 case atStart=>exact ⟨s,rfl,rfl,aj _⟩
 case round =>
  obtain ⟨x,rfl,he,hle⟩:=hrel;have HE:=ab he;clear he;by_cases h0:0<x.size
  ·have h0I:(0:Int)<(x.size:Int):=by omega
   obtain ⟨k,hk⟩ : ∃ k,k=x.size - 1:=⟨_,rfl⟩;have hw:IntKind.i64.wrap ((x.size:Int) - 1)=(k:Int):=by rw [IntKind.wrap_i64];omega
   have bK:k<x.size:=by omega
   have dK:(k:Int)<(x.size:Int):=by omega
   have RO:(0:Int)≤(k:Int):=by omega
   have aiA:(k:Int)≤(x.size:Int):=by omega
   have HK:=ab hk;have HL:=ab (CW x k hk bK);clear hk;by_cases hz:x[k]=0
   ·have We:((x[k].toNat:Int) == 0)=true:=by rw [hz];rfl
    have HZ:=ab hz;clear hz;go_wp2;go_round
    case rel =>
     refine ⟨_,rfl,?_,?_⟩
     ·rw [← HE.out,ext_toList,List.drop_zero,Nat.sub_zero];conv=>rhs;rw [HL.out,HZ.out,List.reverse_append]
      rfl
     ·rw [ByteArray.size_extract];omega
    case measure=>simp [ByteArray.size_extract];omega
   ·have We:((x[k].toNat:Int) == 0)=false:=by
     rw [beq_eq_false_iff_ne];intro h;exact hz (UInt8.toNat_inj.1 (by simpa using h))
    have HX:Hid (x=t):=by
     have hb:Jg x[k]=false:=by simpa [Jg] using hz
     refine tO ?_
     rw [HT.out];show _=(iW s.data.toList.reverse).reverse.toArray.toList
     rw [← HE.out,HL.out,List.reverse_append];show _=(List.dropWhile Jg (x[k]::_)).reverse.toArray.toList
     rw [ju (by rw [hb];decide)]
     simp
    clear hz;go_wp2;go_ret;exact ⟨by rw [← HX.out];rfl,rfl⟩
  ·have h0I:¬ (0:Int)<(x.size:Int):=by omega
   have HX:Hid (x=t):=by
    refine tO ?_
    rw [HT.out];show _=(iW s.data.toList.reverse).reverse.toArray.toList
    have hn:x.data.toList=[]:=List.length_eq_zero_iff.1 (by rw [bsize];omega)
    rw [← HE.out,hn];rfl
   go_wp2;go_ret;exact ⟨by rw [← HX.out];rfl,rfl⟩
theorem Kc(s:ByteArray)(w:World):Calls prog 244 #[.string s,.int .u8 0] w fun e w'=>e = .returned (.string (Kd s))∧w'=w:=by
 obtain ⟨t,ht⟩ : ∃ t,t=Kd s:=⟨_,rfl⟩;rw [← ht];have HT:=ab ht;clear ht;go_enter func244,ntmps244;go_wp2;go_loop [0] (fun v=>∃ (x:ByteArray),v = .string x∧iW x.data.toList=iW s.data.toList∧x.size≤s.size) (fun v=>match v with | .string x=>x.size | _=>0)
 case atStart=>exact ⟨s,rfl,rfl,aj _⟩
 case round =>
  obtain ⟨x,rfl,he,hle⟩:=hrel;have HE:=ab he;clear he;by_cases h0:0<x.size
  ·have h0I:(0:Int)<(x.size:Int):=by omega
   have h1I:(1:Int)≤(x.size:Int):=by omega
   have HL:=ab (Bi x h0);by_cases hz:x[0]=0
   ·have We:((x[0].toNat:Int) == 0)=true:=by rw [hz];rfl
    have HZ:=ab hz;clear hz;go_wp2;go_round
    case rel =>
     refine ⟨_,rfl,?_,?_⟩
     ·rw [← HE.out,ext_toList,al (by rw [ao,bsize];omega)]
      conv=>rhs;rw [HL.out,HZ.out]
      rfl
     ·rw [ByteArray.size_extract];omega
    case measure=>simp [ByteArray.size_extract];omega
   ·have We:((x[0].toNat:Int) == 0)=false:=by
     rw [beq_eq_false_iff_ne];intro h;exact hz (UInt8.toNat_inj.1 (by simpa using h))
    have HX:Hid (x=t):=by
     have hb:Jg x[0]=false:=by simpa [Jg] using hz
     refine tO ?_
     rw [HT.out];show _=(iW s.data.toList).toArray.toList
     rw [← HE.out];conv=>rhs;rw [HL.out]
     show _=(List.dropWhile Jg (x[0]::_)).toArray.toList
     rw [ju (by rw [hb];decide)]
     exact HL.out
    clear hz;go_wp2;go_ret;exact ⟨by rw [← HX.out];rfl,rfl⟩
  ·have h0I:¬ (0:Int)<(x.size:Int):=by omega
   have HX:Hid (x=t):=by
    refine tO ?_
    rw [HT.out];show _=(iW s.data.toList).toArray.toList
    have hn:x.data.toList=[]:=List.length_eq_zero_iff.1 (by rw [bsize];omega)
    rw [← HE.out,hn];rfl
   go_wp2;go_ret;exact ⟨by rw [← HX.out];rfl,rfl⟩
theorem A2(l:List UInt8):iW l=[]↔∀ x ∈ l,Jg x=true:=by
 induction l with
 | nil=>simp [iW]
 | cons a r ih =>
  unfold iW at ih ⊢;cases ha:Jg a with
  | true=>rw [List.dropWhile_cons_of_pos ha,ih];simp [ha]
  | false=>rw [ju (by rw [ha];decide)];simp [ha]
theorem Ho(l:List UInt8)(a:UInt8)(r:List UInt8)(h:iW l=a::r):Jg a=false:=by
 induction l with
 | nil=>simp [iW] at h
 | cons b q ih =>
  unfold iW at ih h;cases hb:Jg b with
  | true=>rw [List.dropWhile_cons_of_pos hb] at h;exact ih h
  | false =>
   rw [ju (by rw [hb];decide)] at h
   cases h;exact hb
theorem CR(s:ByteArray):Kd (Ga s)=ByteArray.empty↔∀ j,j<s.size→s.data.toList.getD j 0=0:=by
 have h1:Kd (Ga s)=ByteArray.empty↔iW (iW s.data.toList.reverse).reverse=[]:=by
  constructor
  ·intro h;have:=congrArg (fun x=>x.data.toList) h
   simpa [Kd,Ga] using this
  ·intro h;refine tO ?_
   simpa [Kd,Ga] using h
 rw [h1];rw [A2];constructor
 ·intro h j hj;have hz:iW s.data.toList.reverse=[]:=by
   cases hd:iW s.data.toList.reverse with
   | nil=>rfl
   | cons a r =>
    exfalso
    have hp:=h a (by rw [hd];simp)
    rw [Ho _ a r hd] at hp;cases hp
  rw [A2] at hz;rw [Ce s j hj];have:=hz s[j] (by rw [List.mem_reverse];show s.data[j] ∈ _;simp)
  simpa [Jg] using this
 ·intro h x hx;rw [List.mem_reverse] at hx;have vQ:=(List.dropWhile_sublist Jg (l:=s.data.toList.reverse)).mem hx;rw [List.mem_reverse] at vQ;obtain ⟨j,hj,rfl⟩:=aO vQ;have:=h j (by rw [bsize] at hj;exact hj)
  rw [aE,af hj] at this;simpa [Jg] using this
theorem A1(s:ByteArray):s.toList.isEmpty=decide (s=ByteArray.empty):=(decide_eq_emptyBytes s).symm
theorem NI(s:ByteArray)(w:World)(hs:s.size≤140737488355328):Calls prog 228 #[.string s,.string ⟨#[0]⟩] w fun e w'=>e = .returned (.string (Kd (Ga s)))∧Below w.heap.size w w':=by
 by_cases h0:s=⟨#[]⟩
 ·subst h0;have HT:Hid (Kd (Ga ⟨#[]⟩)=⟨#[]⟩):=rfl;rw [HT.out];go_enter func228,ntmps228;go_wp2;go_ret;exact ⟨rfl,Below.refl _ _⟩
 ·have dH:s.toList.isEmpty=false:=by rw [A1];exact decide_eq_false h0
  have BP:¬ s.toList=[]:=fun h=>by rw [h] at dH;cases dH
  have yn:(((({ data:=#[0] }:ByteArray)[0]).toNat:Nat):Int)=0:=rfl;have HR:=ab (fun w=>Kb s w hs)
  have HL:=ab (fun w=>Kc (Ga s) w)
  generalize Kd (Ga s)=t at *;generalize Ga s=r at *;go_enter func228,ntmps228;go_wp2_with fail;go_quiet ((first | (go_at_call 245;exact Calls.quiet_of_same (HR.out _)) | (go_at_call 244;exact Calls.quiet_of_same (HL.out _))))
  go_wp2;go_ret;exact ⟨rfl,aA (Below.refl _ _) _⟩
theorem uf:(prog.info? 5).map (·.size)=some 1:=by kernel_rfl
structure bJ(rb:Nat)(w w':World):Prop where
 os:w'.os=w.os
 tape:w'.tape=w.tape
 output:w'.output=w.output
 size:w.heap.size≤w'.heap.size
 block:∀ k,k<w.heap.size→k≠rb→w'.heap[k]?=w.heap[k]?
theorem bJ.refl(rb:Nat)(w:World):bJ rb w w:=⟨rfl,rfl,rfl,aj _,fun _ _ _=>rfl⟩
theorem bJ.trans{rb:Nat}{a b c:World}(h:bJ rb a b)(k:bJ rb b c):bJ rb a c :=
 ⟨k.os.trans h.os,k.tape.trans h.tape,k.output.trans h.output,ar h.size k.size,fun i hi hn=>(k.block i (aq hi h.size) hn).trans (h.block i hi hn)⟩
theorem bJ.bo{rb:Nat}{w w':World}(h:Below w.heap.size w w'):bJ rb w w':=⟨h.os,h.tape,h.output,h.size,fun k hk _=>h.block k hk⟩
theorem bJ.set(rb o:Nat)(w:World)(u:Value):bJ rb w (w.setCell ⟨rb,o,none⟩ u) :=
 ⟨rfl,rfl,rfl,by simp [World.setCell],fun k _ hn=>Below.heap_setCell w ⟨rb,o,none⟩ u k (fun e=>hn e)⟩
theorem bJ.setRow(rb:Nat)(w:World)(cs:Array Value):bJ rb w (w.setRow rb cs) :=
 ⟨rfl,rfl,rfl,by simp [World.setRow],fun k _ hn=>setRow_other w rb k cs hn⟩
theorem bJ.below{rb:Nat}{w0 w w':World}(h:bJ rb w w')(hb:Below w0.heap.size w0 w)(hr:w0.heap.size≤rb):Below w0.heap.size w0 w' :=
 hb.trans ⟨h.os,h.tape,h.output,h.size,fun k hk=>h.block k (aq hk hb.size) (by omega)⟩
theorem bJ.cell{rb:Nat}{w w':World}(h:bJ rb w w'){a:Addr}{v:Value}(hc:w.cell? a=some v)(hn:a.block≠rb):w'.cell? a=some v :=
 (World.cell?_of_block (a:=a) (h.block a.block (World.block_lt_of_cell? w a hc) hn)).trans hc
def nS(t:TypeId)(w:World)(g:Nat)(l:List UInt8):Prop:=w.heap[g]?=some (.cells (eb l).toArray t (0,0))
theorem nS.cell{t:TypeId}{w:World}{g:Nat}{l:List UInt8}(h:nS t w g l)(j:Nat)(hj:j<l.length):w.cell? ⟨g,j,none⟩=some (.int .u8 (l[j].toNat:Int)):=by
 rw [cell_of_row w g j _ _ _ h];simpa using iD l j hj
theorem qg(l:List UInt8)(o:Nat)(c:List UInt8):splice (eb l) o (eb c)=eb (splice l o c):=by
 simp [splice,eb]
theorem N8(t:TypeId)(w:World)(l:List UInt8):nS t (w.alloc (.cells (eb l).toArray t)) w.heap.size l:=heap_alloc_new w _
def MT(s:ByteArray):Prop:=∀ j,j<s.size→s.data.toList.getD j 0=0
theorem Q8(s:ByteArray)(w:World)(hs:s.size≤140737488355328):Calls prog 190 #[.string s] w fun e w'=>((MT s∧e = .returned (.bool true))∨(¬ MT s∧e = .returned (.bool false)))∧Below w.heap.size w w':=by
 have HT:=ab (NI s w hs);by_cases hz:MT s
 ·have ht:Kd (Ga s)=ByteArray.empty:=(CR s).2 hz;rw [ht] at HT;have HZ:=ab hz;clear hz ht;go_enter func190,ntmps190;go_wp2_with fail;refine HT.out.mono ?_
  rintro e w' ⟨rfl,hb⟩;go_wp2;go_ret;exact ⟨.inl ⟨HZ.out,rfl⟩,hb⟩
 ·have ht:¬ Kd (Ga s)=ByteArray.empty:=fun h=>hz ((CR s).1 h)
  have dH:(Kd (Ga s)).toList.isEmpty=false:=by rw [A1];exact decide_eq_false ht
  have HZ:=ab hz;generalize Kd (Ga s)=t at *;have BP:¬ t.toList=[]:=fun h=>by rw [h] at dH;cases dH
  clear hz ht;go_enter func190,ntmps190;go_wp2_with fail;refine HT.out.mono ?_
  rintro e w' ⟨rfl,hb⟩;go_wp2;go_ret;exact ⟨.inr ⟨HZ.out,rfl⟩,hb⟩
def uZ(b:List UInt8)(n k:Nat):List Value:=strs ((bY b n).take k)++List.replicate (n - k) (.string ByteArray.empty)
theorem Ku(b:List UInt8)(n:Nat):uZ b n 0=List.replicate n (.string ByteArray.empty):=by simp [uZ,strs]
theorem Oa(b:List UInt8)(n:Nat):uZ b n n=strs (bY b n):=by
 unfold uZ;rw [al (by rw [gk];exact aj _),dR];simp
theorem Df(b:List UInt8)(n k:Nat)(h:k≤n):(uZ b n k).length=n:=by
 simp [uZ,strs,gk];omega
theorem N9(b:List UInt8)(n k:Nat)(h:k<n)(hk:k<(bY b n).length):(uZ b n k).set k (.string (bY b n)[k])=uZ b n (k+1):=by
 unfold uZ;rw [bW _ _ (by rw [jY,ag,gk];omega),ax hk,og]
 rw [jY,ag,gk,a6 (by omega),dR,show n - k=(n - (k+1))+1 by omega,List.replicate_succ,List.set_cons_zero]
 simp [strs]
theorem getD_drop(l:List UInt8)(a j:Nat):(l.drop a).getD j 0=l.getD (a+j) 0:=by
 rw [aE,aE,dn]
theorem Q7(s:ByteArray)(a:Nat)(ha:a≤s.size):MT (s.extract a s.size)↔∀ j,a≤j→j<s.size→s.data.toList.getD j 0=0:=by
 have hl:(s.extract a s.size).data.toList=s.data.toList.drop a:=by
  rw [ext_toList,al (by rw [ao,bsize];omega)]
 have b8:(s.extract a s.size).size=s.size - a:=by rw [ByteArray.size_extract];omega
 unfold MT;rw [hl,b8];constructor
 ·intro h j h1 h2;have:=h (j - a) (by omega)
  rw [getD_drop,show a+(j - a)=j by omega] at this
  exact this
 ·intro h j hj;rw [getD_drop];exact h _ (by omega) (by omega)
def Vr(A:Nat→Addr)(c:Int)(s:ByteArray)(w:World)(e:Ending)(w':World):Prop :=
 (0≤c∧MF s.data.toList c.toNat∧∃ g,e = .returned (.tuple #[.slice (some ⟨g,0,none⟩) c.toNat c.toNat,.nilIface])∧w'.ownsRow w.heap.size 9 1 (.slice (some ⟨g,0,none⟩) c.toNat c.toNat) c.toNat (strs (bY s.data.toList c.toNat))) ∨
  (¬ (0≤c∧MF s.data.toList c.toNat)∧e = .returned (.tuple #[.slice none 0 0,.iface 360 (.pointer (some (A 1)))]))
theorem SB(A:Nat→Addr)(n:Nat)(s:ByteArray)(w:World)(hn:n≤2036)(b8:s.size=4072)(hE:dy 4 eV A w):Calls prog 153 #[.int .i64 (n:Int),.string s] w fun e w'=>Vr A n s w e w'∧Below w.heap.size w w':=by
 obtain ⟨i0,hi,mV,mU,py⟩:=info_parts info9;obtain ⟨w1,oG,kI,fO⟩:=run_make_full (P:=prog) w w.heap.size 231 9 i0 (.string ByteArray.empty) 1 underlying231 hi mV mU .i64 .i64 n (by rw [py];omega) (by unfold maxLen;omega) (aj _)
 have aM:Below w.heap.size w w1:=(Below.refl _ _).grown fO (aj _) (fun j hj=>by cases hj)
 rw [Nat.mul_one,show (Value.string ByteArray.empty).cells=#[.string ByteArray.empty] from rfl,toList_madeCells_one] at kI
 have qV:Hid (w1.ownsRow w.heap.size 9 1 (.slice (some ⟨w.heap.size,0,none⟩) n n) n (uZ s.data.toList n 0)):=by
  show World.ownsRow _ _ _ _ _ _ _
  rw [Ku];exact kI
 have bN:=ab aM;have HE:=ab hE;have jb:=ab b8;have d1:((s.size:Int) != 4072)=false:=by rw [b8];rfl
 have hnI:(n:Int)≤2036:=by omega
 have vj:¬ (n:Int)<0:=by omega
 have G7:¬ (2036:Int)<(n:Int):=by omega
 have PO:(0:Int)≤(n:Int):=by omega
 have GW:IntKind.i64.wrap (2*(n:Int))=((2*n:Nat):Int):=by rw [IntKind.wrap_i64];omega
 obtain ⟨n2,Wy⟩ : ∃ n2,n2=2*n:=⟨_,rfl⟩;rw [← Wy] at GW;have Fx:=ab Wy;have HLB:Hid (s.data.toList.length=4072):=by show _=_;rw [bsize];exact b8
 obtain ⟨q,hq⟩ : ∃ q,q=w.heap.size:=⟨_,rfl⟩;rw [← hq] at oG qV;have HQ:=ab hq;clear kI fO aM hE b8 mV mU py hi Wy hq;go_enter func153,ntmps153;go_wp2_with fail;clear oG;go_loopw [7,28] (fun st i wr=>∃ k:Nat,k≤n∧i = .int .i64 k∧st = .int .i64 ((lu s.data.toList n k:Nat):Int)∧lu s.data.toList n k≤4072∧(∀ i,i<k→lu s.data.toList n i≤lu s.data.toList n (i+1)∧lu s.data.toList n (i+1)≤4072)∧wr.ownsRow q 9 1 (.slice (some ⟨q,0,none⟩) n n) n (uZ s.data.toList n k)∧Below w.heap.size w wr) (fun _ i _=>n - (intOf i).toNat)
 case atStart=>exact ⟨0,aB _,rfl,by rw [Fx.out];rfl,by show 2*n≤4072;omega,fun i h=>by omega,qV.out,bN.out⟩
 case round =>
  obtain ⟨k,hk,rfl,rfl,h4,Vg,aF,bO⟩:=hrel;have VJ:=ab Vg;clear Vg qV bN Fx;by_cases bK:k<n
  ·have JN:=ab (N0 s k wr (by have:=jb.out;omega) jb.out)
   have hes:lu s.data.toList n (k+1)=Ad s.data.toList k:=rfl;rw [← hes] at JN;have qU:=ab aF;have jW:=ab bO;obtain ⟨a,ha⟩ : ∃ a,a=lu s.data.toList n k:=⟨_,rfl⟩;obtain ⟨e,he⟩ : ∃ e,e=lu s.data.toList n (k+1):=⟨_,rfl⟩;rw [← ha] at h4 ⊢;rw [← he] at JN;have HA:Hid (a=lu s.data.toList n k∧e=lu s.data.toList n (k+1)):=⟨ha,he⟩;have c1:=aF.cellAt k (by omega)
   rw [af (by rw [Df _ _ _ hk];exact bK)] at c1
   have dK:(k:Int)<(n:Int):=by omega
   clear ha he aF hes bO;by_cases hbad:e<a
   ·have aaz:(e:Int)<(a:Int):=by omega
    have HV:Hid (¬ (0≤(n:Int)∧MF s.data.toList (n:Int).toNat)):=fun h=>by
     have:=(h.2.2.1 k bK).1;rw [aW,← HA.out.1,← HA.out.2] at this;omega
    clear c1;go_wp2_with fail;refine JN.out.mono ?_
    rintro e' w2 ⟨rfl,aS⟩;have c0:w2.cell? ⟨1,0,none⟩=some (.iface 360 (.pointer (some (A 1)))):=((dy.keep HE.out (Below.next jW.out aS)).1 1 (by decide)).1
    have bG:=ab (Below.next jW.out aS);clear aS;go_wp2;go_quiet (fail)
    go_wp2;go_ret2;exact ⟨.inr ⟨HV.out,rfl⟩,aA bG.out _⟩
   ·have aaz:¬ (e:Int)<(a:Int):=by omega
    by_cases gi:4072<e
    ·have aav:(s.size:Int)<(e:Int):=by have:=jb.out;omega
     have HV:Hid (¬ (0≤(n:Int)∧MF s.data.toList (n:Int).toNat)):=fun h=>by
      have:=(h.2.2.1 k bK).2;rw [aW,← HA.out.2] at this;omega
     clear c1;go_wp2_with fail;refine JN.out.mono ?_
     rintro e' w2 ⟨rfl,aS⟩;have c0:w2.cell? ⟨1,0,none⟩=some (.iface 360 (.pointer (some (A 1)))):=((dy.keep HE.out (Below.next jW.out aS)).1 1 (by decide)).1
     have bG:=ab (Below.next jW.out aS);clear aS;go_wp2;go_quiet (fail)
     go_wp2;go_ret2;exact ⟨.inr ⟨HV.out,rfl⟩,aA bG.out _⟩
    ·have aav:¬ (s.size:Int)<(e:Int):=by have:=jb.out;omega
     have s1:(a:Int)≤(e:Int):=by omega
     have s2:(e:Int)≤(s.size:Int):=by omega
     have s3:(0:Int)≤(a:Int):=by omega
     have s4:a≤e:=by omega
     have s5:e≤s.size:=by omega
     have FJ:k<(bY s.data.toList n).length:=by rw [gk];exact bK
     have HC:Hid (s.extract a e=(bY s.data.toList n)[k]):=by
      refine tO ?_
      rw [ext_toList,nD,HA.out.1,HA.out.2];rfl
     have Us:=ab (N9 s.data.toList n k bK FJ);clear c1;go_wp2_with fail;refine JN.out.mono ?_
     rintro e' w2 ⟨rfl,aS⟩;have ny:=qU.out;have Tt:w2.ownsRow q 9 1 (.slice (some ⟨q,0,none⟩) n n) n (uZ s.data.toList n k):=by
      refine ⟨ny.1,?_⟩;rcases ny.2 with h' | ⟨g',cap,cur,hv,nV,hg,BQ,sB,fI,mf⟩
      ·exact .inl h'
      ·have hl:g'<wr.heap.size:=by
        rcases a8 g' wr.heap.size with h' | h'
        ·exact h'
        ·rw [aY h'] at hg;cases hg
       exact .inr ⟨g',cap,cur,hv,nV,(aS.block g' hl).trans hg,BQ,sB,fI,mf⟩
     have c1:=Tt.cellAt k (by omega)
     rw [af (by rw [Df _ _ _ hk];exact bK)] at c1
     have z1:=Tt.frozenAt k;have eK:=(Tt.stored k (.string (s.extract a e))).1;rw [HC.out,Us.out] at eK;rw [← HC.out] at eK;have gP:=ab eK;have bG:Hid (Below w.heap.size w (w2.setCell ⟨q,k,none⟩ (.string (s.extract a e)))):=(Below.next jW.out aS).setCell (by show w.heap.size≤q;rw [HQ.out];exact aj _) _
     clear aS ny Tt eK;go_wp2;go_roundw
     case rel =>
      refine ⟨k+1,by omega,by go_num,by rw [← HA.out.2],by rw [← HA.out.2];omega,fun i hi=>?_,gP.out,bG.out⟩
      by_cases RQ:i=k
      ·subst RQ;rw [← HA.out.1,← HA.out.2];omega
      ·exact VJ.out i (by omega)
     case measure=>simp [intOf];omega
  ·have nU:k=n:=by omega
   have dK:¬ (k:Int)<(n:Int):=by omega
   subst nU;obtain ⟨a,ha⟩ : ∃ a,a=lu s.data.toList k k:=⟨_,rfl⟩;rw [← ha] at h4 ⊢;have s1:(a:Int)≤(s.size:Int):=by have:=jb.out;omega
   have s2:(0:Int)≤(a:Int):=by omega
   have HZ:=ab (Q8 (s.extract a s.size) wr (by rw [ByteArray.size_extract];have:=jb.out;omega))
   have HX:=ab (Q7 s a (by omega))
   have HAE:=ab ha;have qU:=ab aF;have jW:=ab bO;clear ha aF bO;by_cases hz:MT (s.extract a s.size)
   ·have pF:Hid (MF s.data.toList k):=⟨⟨hn,HLB.out⟩,VJ.out,fun j h1 h2=>HX.out.1 hz j (by rw [HAE.out];exact h1) (by rw [jb.out];exact h2)⟩
    have HZ2:Hid (Calls prog 190 #[.string (s.extract a s.size)] wr fun e w'=>e = .returned (.bool true)∧Below wr.heap.size wr w'):=by
     refine HZ.out.mono ?_
     rintro e w' ⟨h | h,hb⟩
     ·exact ⟨h.2,hb⟩
     ·exact absurd hz h.1
    clear HZ hz HX;go_wp2_with fail;refine HZ2.out.mono ?_
    rintro e w2 ⟨rfl,aS⟩;have ny:=qU.out;have jE:Hid (w2.ownsRow w.heap.size 9 1 (.slice (some ⟨q,0,none⟩) k k) k (strs (bY s.data.toList k))):=by
     rw [Oa,HQ.out] at ny;show World.ownsRow _ _ _ _ _ _ _
     rw [HQ.out];refine ⟨ny.1,?_⟩;rcases ny.2 with h' | ⟨g',cap,cur,hv,nV,hg,BQ,sB,fI,mf⟩
     ·exact .inl h'
     ·have hl:g'<wr.heap.size:=by
       rcases a8 g' wr.heap.size with h' | h'
       ·exact h'
       ·rw [aY h'] at hg;cases hg
      exact .inr ⟨g',cap,cur,hv,nV,(aS.block g' hl).trans hg,BQ,sB,fI,mf⟩
    have bG:=ab (Below.next jW.out aS);clear ny aS;go_wp2;go_ret2;exact ⟨.inl ⟨PO,pF.out,q,rfl,jE.out⟩,bG.out⟩
   ·have HV:Hid (¬ (0≤(k:Int)∧MF s.data.toList (k:Int).toNat)):=fun h=>hz (HX.out.2 (fun j h1 h2=>h.2.2.2 j (by rw [aW,← HAE.out];exact h1) (by rw [← jb.out];exact h2)))
    have HZ2:Hid (Calls prog 190 #[.string (s.extract a s.size)] wr fun e w'=>e = .returned (.bool false)∧Below wr.heap.size wr w'):=by
     refine HZ.out.mono ?_
     rintro e w' ⟨h | h,hb⟩
     ·exact absurd h.1 hz
     ·exact ⟨h.2,hb⟩
    clear HZ hz HX;go_wp2_with fail;refine HZ2.out.mono ?_
    rintro e w2 ⟨rfl,aS⟩;have c0:w2.cell? ⟨1,0,none⟩=some (.iface 360 (.pointer (some (A 1)))):=((dy.keep HE.out (Below.next jW.out aS)).1 1 (by decide)).1
    have bG:=ab (Below.next jW.out aS);clear aS;go_wp2;go_quiet (fail)
    go_wp2;go_ret2;exact ⟨.inr ⟨HV.out,rfl⟩,aA bG.out _⟩
theorem mm(A:Nat→Addr)(c:Int)(s:ByteArray)(w:World)(hE:dy 4 eV A w):Calls prog 153 #[.int .i64 c,.string s] w fun e w'=>Vr A c s w e w'∧Below w.heap.size w w':=by
 by_cases h:(0≤c∧c≤2036)∧s.size=4072
 ·obtain ⟨n,rfl⟩:=cy h.1.1;exact SB A n s w (by omega) h.2 hE
 ·have HV:Hid (¬ (0≤c∧MF s.data.toList c.toNat)):=fun hh=>h ⟨⟨hh.1,by have:=hh.2.1.1;omega⟩,by have:=hh.2.1.2;rw [bsize] at this;exact this⟩
  have c0:w.cell? ⟨1,0,none⟩=some (.iface 360 (.pointer (some (A 1)))):=(hE.1 1 (by decide)).1
  clear hE;by_cases h1:c<0
  ·clear h;go_enter func153,ntmps153;go_wp2;go_quiet (fail)
   go_wp2;go_ret2;exact ⟨.inr ⟨HV.out,rfl⟩,aA (Below.refl _ _) _⟩
  ·by_cases h2:2036<c
   ·clear h;go_enter func153,ntmps153;go_wp2;go_quiet (fail)
    go_wp2;go_ret2;exact ⟨.inr ⟨HV.out,rfl⟩,aA (Below.refl _ _) _⟩
   ·have d1:((s.size:Int) != 4072)=true:=by
     rw [bne_iff_ne];intro he;exact h ⟨⟨by omega,by omega⟩,by omega⟩
    clear h;go_enter func153,ntmps153;go_wp2;go_quiet (fail)
    go_wp2;go_ret2;exact ⟨.inr ⟨HV.out,rfl⟩,aA (Below.refl _ _) _⟩
def tI(L:List Pr)(k:Nat):List Value:=iI (L.take k)++List.replicate ((L.length - k)*2) (.string ByteArray.empty)
theorem QB(L:List Pr)(k:Nat)(h:k≤L.length):(tI L k).length=L.length*2:=by
 unfold tI;rw [ae,eQ,ag,bA];omega
theorem QA(L:List Pr)(k:Nat)(h:k<L.length):((tI L k).set (k*2) (.string L[k].1)).set (k*2+1) (.string L[k].2)=tI L (k+1):=by
 have hl:(iI (L.take k)).length=k*2:=by rw [eQ,ag];omega
 unfold tI;rw [bW _ _ (by omega),hl,dR,show (L.length - k)*2=(L.length - (k+1))*2+1+1 by omega,List.replicate_succ,List.replicate_succ,List.set_cons_zero]
 rw [bW _ _ (by omega),hl,show k*2+1 - k*2=1 by omega,List.set_cons_succ,List.set_cons_zero,ax h,xj,ay]
 rfl
theorem L8(L:List Pr):tI L 0=List.replicate (L.length*2) (.string ByteArray.empty):=by simp [tI,iI]
theorem QC(L:List Pr):tI L L.length=iI L:=by simp [tI]
theorem OW(z:Value)(n:Nat):(madeCells #[z,z] n).toList=List.replicate n z:=by
 apply qd
 intro j;by_cases hj:j<n
 ·rcases bV j with h | h <;> simp [madeCells,hj,h]
 ·simp [madeCells,hj]
theorem GA{w w':World}{base e n:Nat}{v:Value}{xs:List Value}(h:w.ownsRow base e 2 v n xs)(hb:Below w.heap.size w w'):w'.ownsRow base e 2 v n xs:=by
 refine ⟨h.1,?_⟩;rcases h.2 with h' | ⟨g,cap,cur,h',h1,h2,hr⟩
 ·exact .inl h'
 ·refine .inr ⟨g,cap,cur,h',h1,?_,hr⟩;have hg:g<w.heap.size:=by
   rcases a8 g w.heap.size with h' | h'
   ·exact h'
   ·rw [aY h'] at h2;cases h2
  rw [hb.block g hg];exact h2
def abJ(A:Nat→Addr)(c:Int)(s:ByteArray)(base:Nat)(e:Ending)(w:World):Prop :=
 (0≤c∧mR c.toNat s.data.toList∧∃ u,e = .returned (.tuple #[u,.nilIface])∧ir w base u (B1 c.toNat s.data.toList)) ∨
  (¬ (0≤c∧mR c.toNat s.data.toList)∧e = .returned (.tuple #[.slice none 0 0,.iface 360 (.pointer (some (A 1)))]))
theorem DY(A:Nat→Addr)(c:Int)(s:ByteArray)(w:World)(hE:jS A w):Calls prog 114 #[.int .i64 c,.string s] w fun e w'=>abJ A c s w.heap.size e w'∧Below w.heap.size w w':=by
 have MI:=ab (mm A c s w hE.1);have HE:=ab hE;obtain ⟨i0,hi,hz,b8,kP⟩:=info_parts Jh;clear hE;obtain ⟨Q,hQ⟩ : ∃ Q:Ending→World→Prop,Q=fun e w'=>abJ A c s w.heap.size e w'∧Below w.heap.size w w':=⟨_,rfl⟩
 rw [← hQ];have HQ:=ab hQ;clear hQ;go_enter func114,ntmps114;go_wp2_with fail;refine MI.out.mono ?_
 rintro e w1 ⟨⟨yn,cO,g,rfl,aF⟩ | ⟨fQ,rfl⟩,aM⟩
 ·obtain ⟨n,rfl⟩:=cy yn;simp only [aW] at cO aF ⊢;have hn:=cO.1.1;obtain ⟨B,hB⟩ : ∃ B,B=s.data.toList:=⟨_,rfl⟩;obtain ⟨CB,hCB⟩ : ∃ CB,CB=bY B n:=⟨_,rfl⟩;have hCl:CB.length=n:=by rw [hCB,gk]
  rw [← hB] at cO aF;rw [← hCB] at aF;have aaK:∀ x ∈ CB,x.size≤4072:=fun x hx=>by
   rw [hCB] at hx;obtain ⟨j,hj,rfl⟩:=aO hx;rw [gk] at hj;rw [← bsize,nD,Mj cO j hj];have:=JC cO (j+1) (by omega)
   omega
  have Qg:(CB.map dw).length=n:=by rw [az,hCl]
  obtain ⟨wm,oG,fV,oH⟩:=run_make_full (P:=prog) w1 w1.heap.size 63 52 i0 _ 2 underlying63 hi hz b8 .i64 .i64 n (by rw [kP];omega) (by unfold maxLen;omega) (aj _)
  have mV:(madeCells (Value.agg #[.string ByteArray.empty,.string ByteArray.empty]).cells (n*2)).toList=tI (CB.map dw) 0:=by
   rw [L8,Qg];exact OW _ _
  rw [mV] at fV;have Cu:Below w1.heap.size w1 wm:=(Below.refl _ _).grown oH (aj _) (fun j hj=>by cases hj)
  obtain ⟨b,hb⟩ : ∃ b,b=w1.heap.size:=⟨_,rfl⟩;rw [← hb] at oG fV;have HB:=ab hb;have HO:=ab fV;have JS:=ab Cu;have bN:=ab aM;have Vv:=ab (gd aF).strs;have pF:=ab cO;have sq:=ab hCl;have FQ:=ab aaK;have lW:=ab Qg;have HCB:=ab hCB;have lI:=ab hB;clear hb fV Cu oH hi hz b8 kP mV aM MI aF cO hCl aaK Qg hCB hB yn;go_wp2;clear oG;go_loopw [27] (fun i wr=>∃ k:Nat,k≤n∧i = .int .i64 k∧wr.ownsRow b 52 2 (.slice (some ⟨b,0,none⟩) n n) n (tI (CB.map dw) k)∧(∀ j (h:j<CB.length),j<k→FD CB[j]=true)∧Below w1.heap.size w1 wr) (fun i _=>n - (intOf i).toNat)
  case atStart=>exact ⟨0,aB _,rfl,HO.out,fun j _ h=>absurd h (iA _),JS.out⟩
  case round =>
   obtain ⟨k,hk,rfl,aF,jm,bO⟩:=hrel;clear HO JS;have HP:=ab jm;clear jm;by_cases bK:k<n
   ·have de:k<CB.length:=by have:=sq.out;omega
    have hkL:k<(CB.map dw).length:=by rw [lW.out];exact bK
    have RE:=Vv.out.below bO;obtain ⟨ta,tc,hte,_,tq⟩:=RE;obtain ⟨g',o',ha,f1⟩:=tq k de;simp only [Value.slice.injEq] at hte;obtain ⟨rfl,-⟩:=hte;simp only [Option.some.injEq,Addr.mk.injEq,and_true] at ha;obtain ⟨rfl,rfl⟩:=ha;rw [Nat.zero_add] at f1;have VA:=ab (fun W=>Gv CB[k] W (FQ.out _ (aI _)))
    have iC:Hid (((tI (CB.map dw) k).set (k*2) (.string (dw CB[k]).1)).set (k*2+1) (.string (dw CB[k]).2)=tI (CB.map dw) (k+1)):=by
     have:=QA (CB.map dw) k hkL;simp only [bT] at this;exact this
    have pT:Hid (FD CB[k]=true→∀ j (h:j<CB.length),j<k+1→FD CB[j]=true):=fun hl j h hj=>by
     by_cases he:j=k
     ·subst he;exact hl
     ·exact HP.out j h (by omega)
    have kL:Hid (FD CB[k]=false→¬ (0≤(n:Int)∧mR (n:Int).toNat s.data.toList)):=fun hl hd=>by
     have:=hd.2.2.1;rw [← lI.out,aW,← HCB.out] at this;have h2:=this CB[k] (aI _);rw [hl] at h2;cases h2
    obtain ⟨ck,lG⟩ : ∃ ck,ck=CB[k]:=⟨_,rfl⟩;rw [← lG] at f1 VA iC pT kL;have jW:=ab bO;have qU:=ab aF;have kQ:=ab (QB (CB.map dw) k (by omega))
    have dK:(k:Int)<(n:Int):=by omega
    have j0:(0:Int)≤(k:Int):=by omega
    clear lG tq bO aF;go_wp2_with fail;refine (VA.out _).mono ?_
    rintro e w2 ⟨⟨hok1,rfl⟩ | ⟨ZP,x,y,rfl⟩,aS⟩
    ·have tV:=ab (pT.out hok1);obtain ⟨p,hp⟩ : ∃ p,p=dw ck:=⟨_,rfl⟩;rw [← hp] at iC ⊢;have fi:=ai w2 (.cells #[.string p.1,.string p.2] 52);have ja:=GA qU.out (Below.next aS fi);have hq:∀ j,j<n*2→∃ u,(w2.alloc (.cells #[.string p.1,.string p.2] 52)).cell? ⟨b,j,none⟩=some u:=fun j hj=>by
      rw [World.ownsRow.cellAt ja j hj];exact ⟨_,af (by rw [kQ.out,lW.out];exact hj)⟩
     obtain ⟨u1,q1⟩:=hq (k*2) (by omega)
     obtain ⟨u2,q2⟩:=hq (k*2+1) (by omega)
     have z1:=World.ownsRow.frozenAt ja (k*2);have z2:=World.ownsRow.frozenAt ja (k*2+1);have eK:=(World.ownsRow.stored (World.ownsRow.stored ja (k*2) (.string p.1)).1 (k*2+1) (.string p.2)).1;rw [iC.out] at eK;have jE:=ab eK;have BV:w1.heap.size≤b:=by rw [HB.out];exact aj _
     have bG:Hid (Below w1.heap.size w1 (((w2.alloc (.cells #[.string p.1,.string p.2] 52)).setCell ⟨b,k*2,none⟩ (.string p.1)).setCell ⟨b,k*2+1,none⟩ (.string p.2))):=((Below.next jW.out (Below.next aS fi)).setCell BV _).setCell BV _;clear hp aS fi ja hq eK iC qU jW VA pT kL hok1 f1;go_wp2;go_roundw
     case rel=>exact ⟨k+1,by omega,by go_num,jE.out,tV.out,bG.out⟩
     case measure=>simp [intOf];omega
    ·have Ro:=ab (kL.out ZP);have fi:=ai w2 (.cells #[.string x,.string y] 52);have bG:=ab (Below.next bN.out (Below.next jW.out (Below.next aS fi)));have k1:(w2.alloc (.cells #[.string x,.string y] 52)).cell? ⟨1,0,none⟩=some (.iface 360 (.pointer (some (A 1)))):=((HE.out.below bG.out).1.1 1 (by decide)).1
     clear aS fi iC qU jW VA pT kL ZP f1;go_wp2;go_quiet (fail)
     go_wp2;rw [HQ.out];exact ⟨.inr ⟨Ro.out,rfl⟩,aA bG.out _⟩
   ·have nU:k=n:=by omega
    rw [nU,← lW.out,QC,lW.out] at aF;have hpo:ir wr b (.slice (some ⟨b,0,none⟩) n n) (CB.map dw):=by unfold ir;rw [lW.out];exact aF
    have ZI:Un (CB.map dw):=fun p hp=>by
     obtain ⟨c0,yn,rfl⟩:=List.mem_map.1 hp;have:=FQ.out c0 yn;have h1:=I1 c0;have h2:=I0 c0;have h3:=(pw c0.data.toList).1;omega
    have CE:=ab (Below.next bN.out bO);have nX:=ab (qw A _ (CB.map dw) true wr ZI (by rw [lW.out];omega) hpo.at (HE.out.below CE.out))
    have VA:=ab (hpo.mono (show w.heap.size≤b by rw [HB.out];exact bN.out.size))
    have Ip:Hid (∀ x ∈ CB,FD x=true):=fun x hx=>by
     obtain ⟨j,hj,rfl⟩:=aO hx;exact HP.out j hj (by have:=sq.out;omega)
    have dK:¬ (k:Int)<(n:Int):=by omega
    have HDL:Hid (B1 (n:Int).toNat s.data.toList=CB.map dw):=by show _=_;rw [aW,← lI.out,HCB.out];rfl
    have HDO:Hid (mR (n:Int).toNat s.data.toList↔zI (CB.map dw) true=none):=by
     show _↔_
     rw [aW,← lI.out];unfold mR;rw [← HCB.out];exact ⟨fun h=>h.2.2,fun h=>⟨pF.out,Ip.out,h⟩⟩
    clear aF bO hpo ZI HP Vv nU;cases lG:zI (CB.map dw) true with
    | none =>
     rw [lG] at nX;have HD:=ab (HDO.out.2 lG);clear lG;go_wp2_with fail;refine nX.out.mono ?_
     rintro e w3 ⟨rfl,bQ⟩;have zN:=ab (VA.out.below bQ);have eG:=ab (Below.next CE.out bQ);clear bQ nX VA CE;unfold gC;go_wp2;rw [HQ.out];exact ⟨.inl ⟨by omega,HD.out,_,rfl,by rw [HDL.out];exact zN.out⟩,eG.out⟩
    | some m =>
     rw [lG] at nX;have HD:Hid (¬ (0≤(n:Int)∧mR (n:Int).toNat s.data.toList)):=fun h=>by
      have:=HDO.out.1 h.2;rw [lG] at this;cases this
     have Et:=fun W=>fh (some (A m)) W
     clear lG;go_wp2_with fail;refine nX.out.mono ?_
     rintro e w3 ⟨rfl,bQ⟩;have eG:=ab (Below.next CE.out bQ);have k1:w3.cell? ⟨1,0,none⟩=some (.iface 360 (.pointer (some (A 1)))):=((HE.out.below eG.out).1.1 1 (by decide)).1
     clear bQ nX VA CE;unfold gC;go_wp2;go_quiet (fail)
     go_wp2;rw [HQ.out];exact ⟨.inr ⟨HD.out,rfl⟩,aA eG.out _⟩
 ·have kL:Hid (¬ (0≤c∧mR c.toNat s.data.toList)):=fun h=>fQ ⟨h.1,h.2.1⟩
  have bN:=ab aM;have k1:w1.cell? ⟨1,0,none⟩=some (.iface 360 (.pointer (some (A 1)))):=((HE.out.below aM).1.1 1 (by decide)).1
  have Et:=fun W=>fh (some (A 1)) W
  clear aM fQ MI hi hz b8 kP;go_wp2;go_quiet (fail)
  go_wp2;rw [HQ.out];exact ⟨.inr ⟨kL.out,rfl⟩,aA bN.out _⟩
namespace B
def km(n:Nat):ByteArray:=⟨(bI n 4).toArray⟩
def mH(p:Lk):ByteArray:=⟨([UInt8.ofNat p.1.size]++(p.1.data.toList++bI p.2.toNat 4)).toArray⟩
theorem qN(n:Nat):(km n).data.toList=bI n 4:=by simp [km]
theorem jO(p:Lk):(mH p).data.toList=[UInt8.ofNat p.1.size]++(p.1.data.toList++bI p.2.toNat 4):=by simp [mH]
theorem qM(n:Nat):(km n).size=4:=by rw [← bsize,qN,eI n 4 (by decide)]
theorem yC(p:Lk):(mH p).size=5+p.1.size:=by
 rw [← bsize,jO,ae,ae,eI _ 4 (by decide),bsize];simp;omega
def dz(f:Int)(l:List Lk):List ByteArray:=km f.toNat::l.map mH
theorem nC(f:Int)(l:List Lk):(dz f l).length=l.length+1:=by simp [dz]
theorem Hj(L:List ByteArray):(ee L L.length)=L.flatMap (fun c=>c.data.toList):=by
 unfold ee;rw [al (aj _)]
theorem EJ:∀ l:List Lk,((l.map mH).flatMap (fun c=>c.data.toList)).length+2*l.length+6=jT l
 | []=>by simp [jT]
 | p::l=>by
  have:=EJ l;rw [List.map_cons,List.flatMap_cons,ae,bsize,yC,oc,List.length_cons];unfold yT;omega
theorem oh(f:Int)(l:List Lk):dW (dz f l)=jT l:=by
 have h:=EJ l;unfold dW fx;rw [nC,show (l.length+1)=(dz f l).length from (nC f l).symm,Hj]
 unfold dz;rw [List.flatMap_cons,ae,bsize,qM,List.length_cons,az];omega
def pQ(f:Int)(l:List Lk):ByteArray:=⟨(jy (dz f l)).toArray⟩
theorem E2(f:Int)(l:List Lk)(k:Nat)(h:k<l.length):dz f (l.take (k+1))=dz f (l.take k)++[mH l[k]]:=by
 unfold dz;rw [ax h,bz];rfl
end B
theorem zZ(l:List UInt8)(k:Nat)(h:k<l.length):l.take (k+1)=l.take k++[l[k]]:=ax h
def ez(l:List UInt8):Nat:=l.foldl (fun n c=>n*256+c.toNat) 0
theorem qO(l:List UInt8)(c:UInt8):ez (l++[c])=ez l*256+c.toNat:=by simp [ez,List.foldl_append]
theorem yG(l:List UInt8):ez l<256 ^ l.length:=by
 have:∀ (l:List UInt8) (n k:Nat),n<256 ^ k→l.foldl (fun n c=>n*256+c.toNat) n<256 ^ (k+l.length):=by
  intro l;induction l with
  | nil=>intro n k h;simpa using h
  | cons c r ih =>
   intro n k h;have hc:=UInt8.toNat_lt c;have:=ih (n*256+c.toNat) (k+1) (by rw [Nat.pow_succ];omega)
   simp only [List.foldl_cons,List.length_cons];rwa [show k+(r.length+1)=k+1+r.length by omega]
 have h:=this l 0 0 (by decide)
 rwa [Nat.zero_add] at h
def jJ(l:List UInt8):List UInt8:=List.replicate (8 - l.length) 0++l
theorem Gy(l:List UInt8)(h:l.length≤8):(jJ l).length=8:=by simp [jJ];omega
theorem Cc(l:List UInt8):ez (jJ l)=ez l:=by
 have:∀ k,(List.replicate k (0:UInt8)).foldl (fun n c=>n*256+c.toNat) 0=0:=by
  intro k;induction k with
  | zero=>rfl
  | succ k ih=>rw [List.replicate_succ,List.foldl_cons];exact ih
 unfold ez jJ;rw [gx,this]
theorem T3(g o cap:Nat)(l:List UInt8)(w:World)(hg:g<w.heap.size)(hc:∀ j (h:j<l.length),w.cell? ⟨g,o+j,none⟩=some (.int .u8 (l[j].toNat:Int)))(h8:l.length≤8):∃ w2,(Builtin.copy_ #[145,145] 3 #[.slice (some ⟨w.heap.size,8 - l.length,none⟩) l.length l.length,.slice (some ⟨g,o,none⟩) l.length cap]).run prog (w.alloc (.cells #[.int .u8 0,.int .u8 0,.int .u8 0,.int .u8 0,.int .u8 0,.int .u8 0,.int .u8 0,.int .u8 0] 328)) = .ok (goInt l.length) w2∧Below w.heap.size w w2∧∀ j (h:j<(jJ l).length),w2.cell? ⟨w.heap.size,j,none⟩=some (.int .u8 ((jJ l)[j].toNat:Int)):=by
 have mx:=heap_alloc_new w (.cells #[.int .u8 0,.int .u8 0,.int .u8 0,.int .u8 0,.int .u8 0,.int .u8 0,.int .u8 0,.int .u8 0] 328);have bq:=run_copy_row (P:=prog) (w.alloc (.cells #[.int .u8 0,.int .u8 0,.int .u8 0,.int .u8 0,.int .u8 0,.int .u8 0,.int .u8 0,.int .u8 0] 328)) 145 145 3 5 w.heap.size (8 - l.length) l.length l.length ⟨g,o,none⟩ l.length cap _ 328 (eb l) underlying145 uf mx (by rw [aZ];exact (lB _).symm)
  (fun j v hv=>by
   by_cases hj:j<l.length
   ·rw [iD l j hj] at hv;cases hv;rw [show (⟨g,o,none⟩ : Addr).add j=⟨g,o+j,none⟩ by simp [Addr.add]]
    rw [(ai w _).cell (p:=⟨g,o+j,none⟩) hg];exact hc j hj
   ·rw [bB (by rw [aZ];omega)] at hv;cases hv)
  (by rw [aZ];simp;omega) (qX l)
 rw [aZ] at bq;have hl:(List.take (8 - l.length) (#[.int .u8 0,.int .u8 0,.int .u8 0,.int .u8 0,.int .u8 0,.int .u8 0,.int .u8 0,.int .u8 0] : Array Value).toList++eb l++List.drop (8 - l.length+l.length) (#[.int .u8 0,.int .u8 0,.int .u8 0,.int .u8 0,.int .u8 0,.int .u8 0,.int .u8 0,.int .u8 0] : Array Value).toList)=eb (jJ l):=by
  have hz:(#[.int .u8 0,.int .u8 0,.int .u8 0,.int .u8 0,.int .u8 0,.int .u8 0,.int .u8 0,.int .u8 0] : Array Value).toList=List.replicate 8 (.int .u8 0):=rfl;rw [hz,show 8 - l.length+l.length=8 by omega,List.take_replicate,nN,jJ,jH]
  simp [eb,Nat.min_eq_left (show 8 - l.length≤8 by omega)]
 rw [hl] at bq;refine ⟨_,bq,below_setRow (ai w _) (aj _) _,fun j hj=>?_⟩
 have bE:=setRow_heap _ w.heap.size _ (eb (jJ l)).toArray 328 _ mx;rw [cell_of_row _ w.heap.size j _ 328 _ bE];simpa using iD (jJ l) j hj
theorem Oc{k:IntKind}{a b:Nat}{v:Value}(h:a=b):Ending.returned (.tuple #[.int k (a:Int),v]) = .returned (.tuple #[.int k (b:Int),v]):=by rw [h]
theorem SL(y c:Nat)(hy:y<72057594037927936)(hc:c<256):bits BinOp.or IntKind.u64 ((y:Int)*256) (c:Int)=((y*256+c:Nat):Int):=by
 have h:=u64_or_nat (y*256) c (by omega) (by omega)
 rw [nat_join 8 (y*256) c (by omega) (by simpa using hc)] at h
 rw [← h];rfl
theorem Ql(g o cap:Nat)(l:List UInt8)(w:World)(h1:1≤l.length)(h8:l.length≤8)(hg:g<w.heap.size)(hc:∀ j (h:j<l.length),w.cell? ⟨g,o+j,none⟩=some (.int .u8 (l[j].toNat:Int))):Calls prog 227 #[.slice (some ⟨g,o,none⟩) l.length cap] w fun e w'=>e = .returned (.tuple #[.int .u64 ((ez l:Nat):Int),.nilIface])∧Below w.heap.size w w':=by
 obtain ⟨cs,fI⟩ : ∃ cs,cs=eb l:=⟨_,rfl⟩;obtain ⟨len,hlen⟩ : ∃ len,len=l.length:=⟨_,rfl⟩;rw [← hlen] at h1 h8;have pP:cs.length=len:=by rw [fI,aZ,hlen]
 have FQ:Hid (cs=eb l):=fI;have kQ:Hid (len=l.length):=hlen;rw [← kQ.out];clear fI hlen;have pZ:=Ae w.heap.size len h1 h8;go_enter func227,ntmps227;obtain ⟨w2,tn,aS,bm⟩:=T3 g o cap l w hg hc (by rw [← kQ.out];exact h8)
 rw [← kQ.out] at tn;clear hc;have AV:decide ((len:Int)<1)=false:=decide_eq_false (by omega)
 have Jo:decide ((8:Int)<(len:Int))=false:=decide_eq_false (by omega)
 go_wp2_with fail;have zB:(jJ l).length=8:=Gy l (by rw [← kQ.out];exact h8)
 have HB:Hid (ez (jJ l)=ez l):=Cc l;generalize jJ l=pl at *;go_loop [5,22] (fun r i=>∃ k y:Nat,k≤8∧i = .int .i64 k∧r = .int .u64 (y:Int)∧y=ez (pl.take k)) (fun _ i=>8 - (intOf i).toNat)
 case atStart=>exact ⟨0,0,by omega,rfl,rfl,rfl⟩
 case round =>
  obtain ⟨k,y,hk,rfl,rfl,Wf⟩:=hrel;have HY:Hid (y=ez (pl.take k)):=Wf;clear Wf;by_cases bK:k<8
  ·have lG:=bm k (by omega)
   obtain ⟨c,M1⟩ : ∃ c:Nat,c=(pl[k]'(by omega)).toNat:=⟨_,rfl⟩
   have Vi:c<256:=by rw [M1];exact UInt8.toNat_lt _
   rw [← M1] at lG;have HR:Hid (y*256+c=ez (pl.take (k+1))):=by
    show y*256+c=_
    rw [zZ pl k (by omega),qO,← HY.out,M1]
   have hyb:y<72057594037927936:=by
    rw [HY.out];have h:=yG (pl.take k);rw [ag,a6 (by omega)] at h
    exact aq h (ar (mM (n:=256) (i:=k) (j:=7) (by decide) (by omega)) (by decide))
   have e1:=SL y c hyb Vi;clear M1 bm pZ tn;go_wp2;go_round
   case rel=>exact ⟨k+1,y*256+c,by omega,by go_num,by go_num,HR.out⟩
   case measure=>simp [intOf];omega
  ·have HE:Hid (y=ez l):=by
    show y=_
    rw [HY.out,al (by omega),HB.out]
   clear bm pZ tn;go_wp2;go_ret2;exact ⟨Oc HE.out,aS⟩
theorem JF(n m:Nat)(hm:m+1≤8):bI n (m+1)=bI (n / 256) m++[UInt8.ofNat n]:=by
 apply ma
 ·rw [ae,eI n _ hm,eI _ m (by omega)];rfl
 ·intro i h1 h2;rw [eI n _ hm] at h1;simp only [bI,cV];rw [yw];by_cases hi:i<m
  ·rw [aJ (by rw [ao,mG];omega)]
   simp only [cV];rw [yw];unfold kE;rw [Nat.div_div_eq_div_mul,show (256:Nat)=2 ^ 8 from rfl,← Nat.pow_add,show 8*(7 - (8 - (m+1)+i))=8+8*(7 - (8 - m+i)) by omega]
  ·have he:i=m:=by omega
   subst he;rw [bu (by rw [ao,mG];omega)]
   simp [kE,show 7 - (7 - i+i)=0 by omega]
theorem mI(m:Nat):∀ n,m≤8→n<2 ^ (8*m)→ez (bI n m)=n:=by
 induction m with
 | zero =>
  intro n _ hn;have h0:n=0:=by simpa using hn
  subst h0;decide
 | succ m ih =>
  intro n hm hn;have h1:n / 256<2 ^ (8*m):=by
   rw [show 8*(m+1)=8*m+8 by omega,Nat.pow_add] at hn
   exact Nat.div_lt_of_lt_mul (by rw [Nat.mul_comm];simpa using hn)
  rw [JF n m hm,qO,ih (n / 256) (by omega) h1]
  simp only [UInt8.toNat_ofNat'];omega
theorem yI(k:Nat):∀ l:List UInt8,l.length=k→k≤8→bI (ez l) k=l:=by
 induction k with
 | zero =>
  intro l hl _;rw [List.length_eq_zero_iff.1 hl];decide
 | succ k ih =>
  intro l hl hk;obtain ⟨r,c,rfl⟩ : ∃ r c,l=r++[c]:=⟨l.dropLast,l.getLast (by intro h;simp [h] at hl),(iB _).symm⟩
  have hr:r.length=k:=by simpa using hl
  have hc:=UInt8.toNat_lt c;rw [qO,JF _ k hk,show (ez r*256+c.toNat) / 256=ez r by omega,ih r hr (by omega)]
  congr 2
  apply UInt8.toNat_inj.1
  simp only [UInt8.toNat_ofNat'];omega
end Go.Proofs.YtihmgigfkmofnaaGreatDoor
