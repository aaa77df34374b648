import Derived.Test.YtihmgigfkmofnaaGreatDoorG11
import Derived.Deep.QuietTactic
import Derived.Lib.BufferWrite
import Derived.Deep.WholeRow
set_option maxHeartbeats 4000000
set_option maxRecDepth 100000
open Go.Proofs.Tryz
namespace Go.Proofs.YtihmgigfkmofnaaGreatDoor
open Go.RowKit
def I8(c:UInt8):Bool:=c == 0
def iT(l:List UInt8):List UInt8:=l.dropWhile I8
def JZ(s:ByteArray):ByteArray:=⟨(iT s.data.toList).toArray⟩
def FW(s:ByteArray):ByteArray:=⟨(iT s.data.toList.reverse).reverse.toArray⟩
theorem ext_toList(s:ByteArray)(a b:Nat):(s.extract a b).data.toList=(s.data.toList.drop a).take (b - a):=by
 rw [ByteArray.data_extract,Array.toList_extract]
theorem tV{x y:ByteArray}(h:x.data.toList=y.data.toList):x=y:=by
 have h2:x.data=y.data:=Array.toList_inj.1 h;cases x;exact congrArg ByteArray.mk h2
theorem CT(x:ByteArray)(k:Nat)(hk:k=x.size - 1)(h:k<x.size):x.data.toList=x.data.toList.take k++[x[k]]:=by
 have h1:k<x.data.toList.length:=by rw [bsize];exact h
 have:=ay h1;rw [ar (by rw [bsize];omega)] at this
 exact this
theorem Bh(x:ByteArray)(h:0<x.size):x.data.toList=x[0]::x.data.toList.drop 1:=by
 have h1:0<x.data.toList.length:=by rw [bsize];exact h
 have:=bf h1;rw [List.drop_zero] at this;exact this
theorem JX(s:ByteArray)(w:World)(hs:s.size≤140737488355328):Calls prog 245 #[.string s,.int .u8 0] w fun e w'=>e = .returned (.string (FW s))∧w'=w:=by
 obtain ⟨t,ht⟩ : ∃ t,t=FW s:=⟨_,rfl⟩;rw [← ht];have HT:=ab ht;clear ht;go_enter func245,ntmps245;go_wp2;go_loop [0] (fun v=>∃ (x:ByteArray),v = .string x∧iT x.data.toList.reverse=iT s.data.toList.reverse∧x.size≤s.size) (fun v=>match v with | .string x=>x.size | _=>0)
 case atStart=>exact ⟨s,rfl,rfl,aj _⟩
 case round =>
  obtain ⟨x,rfl,he,hle⟩:=hrel;have HE:=ab he;clear he;by_cases h0:0<x.size
  ·have h0I:(0:Int)<(x.size:Int):=by omega
   obtain ⟨k,hk⟩ : ∃ k,k=x.size - 1:=⟨_,rfl⟩;have hw:IntKind.i64.wrap ((x.size:Int) - 1)=(k:Int):=by rw [IntKind.wrap_i64];omega
   have bX:k<x.size:=by omega
   have dO:(k:Int)<(x.size:Int):=by omega
   have SD:(0:Int)≤(k:Int):=by omega
   have agN:(k:Int)≤(x.size:Int):=by omega
   have HK:=ab hk;have HL:=ab (CT x k hk bX);clear hk;by_cases hz:x[k]=0
   ·have Va:((x[k].toNat:Int) == 0)=true:=by rw [hz];rfl
    have HZ:=ab hz;clear hz;go_wp2;go_round
    case rel =>
     refine ⟨_,rfl,?_,?_⟩
     ·rw [← HE.out,ext_toList,List.drop_zero,Nat.sub_zero];conv=>rhs;rw [HL.out,HZ.out,List.reverse_append]
      rfl
     ·rw [ByteArray.size_extract];omega
    case measure=>simp [ByteArray.size_extract];omega
   ·have Va:((x[k].toNat:Int) == 0)=false:=by
     rw [beq_eq_false_iff_ne];intro h;exact hz (UInt8.toNat_inj.1 (by simpa using h))
    have HX:Hid (x=t):=by
     have hb:I8 x[k]=false:=by simpa [I8] using hz
     refine tV ?_
     rw [HT.out];show _=(iT s.data.toList.reverse).reverse.toArray.toList
     rw [← HE.out,HL.out,List.reverse_append];show _=(List.dropWhile I8 (x[k]::_)).reverse.toArray.toList
     rw [jg (by rw [hb];decide)]
     simp
    clear hz;go_wp2;go_ret;exact ⟨by rw [← HX.out];rfl,rfl⟩
  ·have h0I:¬ (0:Int)<(x.size:Int):=by omega
   have HX:Hid (x=t):=by
    refine tV ?_
    rw [HT.out];show _=(iT s.data.toList.reverse).reverse.toArray.toList
    have hn:x.data.toList=[]:=List.length_eq_zero_iff.1 (by rw [bsize];omega)
    rw [← HE.out,hn];rfl
   go_wp2;go_ret;exact ⟨by rw [← HX.out];rfl,rfl⟩
theorem JY(s:ByteArray)(w:World):Calls prog 244 #[.string s,.int .u8 0] w fun e w'=>e = .returned (.string (JZ s))∧w'=w:=by
 obtain ⟨t,ht⟩ : ∃ t,t=JZ s:=⟨_,rfl⟩;rw [← ht];have HT:=ab ht;clear ht;go_enter func244,ntmps244;go_wp2;go_loop [0] (fun v=>∃ (x:ByteArray),v = .string x∧iT x.data.toList=iT s.data.toList∧x.size≤s.size) (fun v=>match v with | .string x=>x.size | _=>0)
 case atStart=>exact ⟨s,rfl,rfl,aj _⟩
 case round =>
  obtain ⟨x,rfl,he,hle⟩:=hrel;have HE:=ab he;clear he;by_cases h0:0<x.size
  ·have h0I:(0:Int)<(x.size:Int):=by omega
   have h1I:(1:Int)≤(x.size:Int):=by omega
   have HL:=ab (Bh x h0);by_cases hz:x[0]=0
   ·have Va:((x[0].toNat:Int) == 0)=true:=by rw [hz];rfl
    have HZ:=ab hz;clear hz;go_wp2;go_round
    case rel =>
     refine ⟨_,rfl,?_,?_⟩
     ·rw [← HE.out,ext_toList,ar (by rw [ao,bsize];omega)]
      conv=>rhs;rw [HL.out,HZ.out]
      rfl
     ·rw [ByteArray.size_extract];omega
    case measure=>simp [ByteArray.size_extract];omega
   ·have Va:((x[0].toNat:Int) == 0)=false:=by
     rw [beq_eq_false_iff_ne];intro h;exact hz (UInt8.toNat_inj.1 (by simpa using h))
    have HX:Hid (x=t):=by
     have hb:I8 x[0]=false:=by simpa [I8] using hz
     refine tV ?_
     rw [HT.out];show _=(iT s.data.toList).toArray.toList
     rw [← HE.out];conv=>rhs;rw [HL.out]
     show _=(List.dropWhile I8 (x[0]::_)).toArray.toList
     rw [jg (by rw [hb];decide)]
     exact HL.out
    clear hz;go_wp2;go_ret;exact ⟨by rw [← HX.out];rfl,rfl⟩
  ·have h0I:¬ (0:Int)<(x.size:Int):=by omega
   have HX:Hid (x=t):=by
    refine tV ?_
    rw [HT.out];show _=(iT s.data.toList).toArray.toList
    have hn:x.data.toList=[]:=List.length_eq_zero_iff.1 (by rw [bsize];omega)
    rw [← HE.out,hn];rfl
   go_wp2;go_ret;exact ⟨by rw [← HX.out];rfl,rfl⟩
theorem AY(l:List UInt8):iT l=[]↔∀ x ∈ l,I8 x=true:=by
 induction l with
 | nil=>simp [iT]
 | cons a r ih =>
  unfold iT at ih ⊢;cases ha:I8 a with
  | true=>rw [List.dropWhile_cons_of_pos ha,ih];simp [ha]
  | false=>rw [jg (by rw [ha];decide)];simp [ha]
theorem He(l:List UInt8)(a:UInt8)(r:List UInt8)(h:iT l=a::r):I8 a=false:=by
 induction l with
 | nil=>simp [iT] at h
 | cons b q ih =>
  unfold iT at ih h;cases hb:I8 b with
  | true=>rw [List.dropWhile_cons_of_pos hb] at h;exact ih h
  | false =>
   rw [jg (by rw [hb];decide)] at h
   cases h;exact hb
theorem CQ(s:ByteArray):JZ (FW s)=ByteArray.empty↔∀ j,j<s.size→s.data.toList.getD j 0=0:=by
 have h1:JZ (FW s)=ByteArray.empty↔iT (iT s.data.toList.reverse).reverse=[]:=by
  constructor
  ·intro h;have:=congrArg (fun x=>x.data.toList) h
   simpa [JZ,FW] using this
  ·intro h;refine tV ?_
   simpa [JZ,FW] using h
 rw [h1];rw [AY];constructor
 ·intro h j hj;have hz:iT s.data.toList.reverse=[]:=by
   cases hd:iT s.data.toList.reverse with
   | nil=>rfl
   | cons a r =>
    exfalso
    have hp:=h a (by rw [hd];simp)
    rw [He _ a r hd] at hp;cases hp
  rw [AY] at hz;rw [Ce s j hj];have:=hz s[j] (by rw [List.mem_reverse];show s.data[j] ∈ _;simp)
  simpa [I8] using this
 ·intro h x hx;rw [List.mem_reverse] at hx;have vS:=(List.dropWhile_sublist I8 (l:=s.data.toList.reverse)).mem hx;rw [List.mem_reverse] at vS;obtain ⟨j,hj,rfl⟩:=aI vS;have:=h j (by rw [bsize] at hj;exact hj)
  rw [aJ,af hj] at this;simpa [I8] using this
theorem AX(s:ByteArray):s.toList.isEmpty=decide (s=ByteArray.empty):=(decide_eq_emptyBytes s).symm
theorem M6(s:ByteArray)(w:World)(hs:s.size≤140737488355328):Calls prog 228 #[.string s,.string ⟨#[0]⟩] w fun e w'=>e = .returned (.string (JZ (FW s)))∧Below w.heap.size w w':=by
 by_cases h0:s=⟨#[]⟩
 ·subst h0;have HT:Hid (JZ (FW ⟨#[]⟩)=⟨#[]⟩):=rfl;rw [HT.out];go_enter func228,ntmps228;go_wp2;go_ret;exact ⟨rfl,Below.refl _ _⟩
 ·have ey:s.toList.isEmpty=false:=by rw [AX];exact decide_eq_false h0
  have BQ:¬ s.toList=[]:=fun h=>by rw [h] at ey;cases ey
  have yi:(((({ data:=#[0] }:ByteArray)[0]).toNat:Nat):Int)=0:=rfl;have HR:=ab (fun w=>JX s w hs)
  have HL:=ab (fun w=>JY (FW s) w)
  generalize JZ (FW s)=t at *;generalize FW s=r at *;go_enter func228,ntmps228;go_wp2_with fail;go_quiet ((first | (go_at_call 245;exact Calls.quiet_of_same (HR.out _)) | (go_at_call 244;exact Calls.quiet_of_same (HL.out _))))
  go_wp2;go_ret;exact ⟨rfl,aB (Below.refl _ _) _⟩
theorem uk:(prog.info? 5).map (·.size)=some 1:=by kernel_rfl
structure bK(rb:Nat)(w w':World):Prop where
 os:w'.os=w.os
 tape:w'.tape=w.tape
 output:w'.output=w.output
 size:w.heap.size≤w'.heap.size
 block:∀ k,k<w.heap.size→k≠rb→w'.heap[k]?=w.heap[k]?
theorem bK.refl(rb:Nat)(w:World):bK rb w w:=⟨rfl,rfl,rfl,aj _,fun _ _ _=>rfl⟩
theorem bK.trans{rb:Nat}{a b c:World}(h:bK rb a b)(k:bK rb b c):bK rb a c :=
 ⟨k.os.trans h.os,k.tape.trans h.tape,k.output.trans h.output,aq h.size k.size,fun i hi hn=>(k.block i (al hi h.size) hn).trans (h.block i hi hn)⟩
theorem bK.bx{rb:Nat}{w w':World}(h:Below w.heap.size w w'):bK rb w w':=⟨h.os,h.tape,h.output,h.size,fun k hk _=>h.block k hk⟩
theorem bK.set(rb o:Nat)(w:World)(u:Value):bK rb w (w.setCell ⟨rb,o,none⟩ u) :=
 ⟨rfl,rfl,rfl,by simp [World.setCell],fun k _ hn=>Below.heap_setCell w ⟨rb,o,none⟩ u k (fun e=>hn e)⟩
theorem bK.setRow(rb:Nat)(w:World)(cs:Array Value):bK rb w (w.setRow rb cs) :=
 ⟨rfl,rfl,rfl,by simp [World.setRow],fun k _ hn=>setRow_other w rb k cs hn⟩
theorem bK.below{rb:Nat}{w0 w w':World}(h:bK rb w w')(hb:Below w0.heap.size w0 w)(hr:w0.heap.size≤rb):Below w0.heap.size w0 w' :=
 hb.trans ⟨h.os,h.tape,h.output,h.size,fun k hk=>h.block k (al hk hb.size) (by omega)⟩
theorem bK.cell{rb:Nat}{w w':World}(h:bK rb w w'){a:Addr}{v:Value}(hc:w.cell? a=some v)(hn:a.block≠rb):w'.cell? a=some v :=
 (World.cell?_of_block (a:=a) (h.block a.block (World.block_lt_of_cell? w a hc) hn)).trans hc
def nI(t:TypeId)(w:World)(g:Nat)(l:List UInt8):Prop:=w.heap[g]?=some (.cells (dR l).toArray t (0,0))
theorem nI.cell{t:TypeId}{w:World}{g:Nat}{l:List UInt8}(h:nI t w g l)(j:Nat)(hj:j<l.length):w.cell? ⟨g,j,none⟩=some (.int .u8 (l[j].toNat:Int)):=by
 rw [cell_of_row w g j _ _ _ h];simpa using iz l j hj
theorem qh(l:List UInt8)(o:Nat)(c:List UInt8):splice (dR l) o (dR c)=dR (splice l o c):=by
 simp [splice,dR]
theorem Nx(t:TypeId)(w:World)(l:List UInt8):nI t (w.alloc (.cells (dR l).toArray t)) w.heap.size l:=heap_alloc_new w _
def Mo(s:ByteArray):Prop:=∀ j,j<s.size→s.data.toList.getD j 0=0
theorem Qr(s:ByteArray)(w:World)(hs:s.size≤140737488355328):Calls prog 190 #[.string s] w fun e w'=>((Mo s∧e = .returned (.bool true))∨(¬ Mo s∧e = .returned (.bool false)))∧Below w.heap.size w w':=by
 have HT:=ab (M6 s w hs);by_cases hz:Mo s
 ·have ht:JZ (FW s)=ByteArray.empty:=(CQ s).2 hz;rw [ht] at HT;have HZ:=ab hz;clear hz ht;go_enter func190,ntmps190;go_wp2_with fail;refine HT.out.mono ?_
  rintro e w' ⟨rfl,hb⟩;go_wp2;go_ret;exact ⟨.inl ⟨HZ.out,rfl⟩,hb⟩
 ·have ht:¬ JZ (FW s)=ByteArray.empty:=fun h=>hz ((CQ s).1 h)
  have ey:(JZ (FW s)).toList.isEmpty=false:=by rw [AX];exact decide_eq_false ht
  have HZ:=ab hz;generalize JZ (FW s)=t at *;have BQ:¬ t.toList=[]:=fun h=>by rw [h] at ey;cases ey
  clear hz ht;go_enter func190,ntmps190;go_wp2_with fail;refine HT.out.mono ?_
  rintro e w' ⟨rfl,hb⟩;go_wp2;go_ret;exact ⟨.inr ⟨HZ.out,rfl⟩,hb⟩
def vh(b:List UInt8)(n k:Nat):List Value:=strs ((bT b n).take k)++List.replicate (n - k) (.string ByteArray.empty)
theorem Kf(b:List UInt8)(n:Nat):vh b n 0=List.replicate n (.string ByteArray.empty):=by simp [vh,strs]
theorem Nz(b:List UInt8)(n:Nat):vh b n n=strs (bT b n):=by
 unfold vh;rw [ar (by rw [fW];exact aj _),dI];simp
theorem Dc(b:List UInt8)(n k:Nat)(h:k≤n):(vh b n k).length=n:=by
 simp [vh,strs,fW];omega
theorem Ny(b:List UInt8)(n k:Nat)(h:k<n)(hk:k<(bT b n).length):(vh b n k).set k (.string (bT b n)[k])=vh b n (k+1):=by
 unfold vh;rw [bO _ _ (by rw [jL,ag,fW];omega),ay hk,n9]
 rw [jL,ag,fW,a8 (by omega),dI,show n - k=(n - (k+1))+1 by omega,List.replicate_succ,List.set_cons_zero]
 simp [strs]
theorem getD_drop(l:List UInt8)(a j:Nat):(l.drop a).getD j 0=l.getD (a+j) 0:=by
 rw [aJ,aJ,cL]
theorem Qq(s:ByteArray)(a:Nat)(ha:a≤s.size):Mo (s.extract a s.size)↔∀ j,a≤j→j<s.size→s.data.toList.getD j 0=0:=by
 have hl:(s.extract a s.size).data.toList=s.data.toList.drop a:=by
  rw [ext_toList,ar (by rw [ao,bsize];omega)]
 have cp:(s.extract a s.size).size=s.size - a:=by rw [ByteArray.size_extract];omega
 unfold Mo;rw [hl,cp];constructor
 ·intro h j h1 h2;have:=h (j - a) (by omega)
  rw [getD_drop,show a+(j - a)=j by omega] at this
  exact this
 ·intro h j hj;rw [getD_drop];exact h _ (by omega) (by omega)
def Ux(A:Nat→Addr)(c:Int)(s:ByteArray)(w:World)(e:Ending)(w':World):Prop :=
 (0≤c∧L7 s.data.toList c.toNat∧∃ g,e = .returned (.tuple #[.slice (some ⟨g,0,none⟩) c.toNat c.toNat,.nilIface])∧w'.ownsRow w.heap.size 9 1 (.slice (some ⟨g,0,none⟩) c.toNat c.toNat) c.toNat (strs (bT s.data.toList c.toNat))) ∨
  (¬ (0≤c∧L7 s.data.toList c.toNat)∧e = .returned (.tuple #[.slice none 0 0,.iface 360 (.pointer (some (A 1)))]))
theorem RL(A:Nat→Addr)(n:Nat)(s:ByteArray)(w:World)(hn:n≤2036)(cp:s.size=4072)(hE:dk 4 fl A w):Calls prog 153 #[.int .i64 (n:Int),.string s] w fun e w'=>Ux A n s w e w'∧Below w.heap.size w w':=by
 obtain ⟨i0,hi,nP,mB,pB⟩:=info_parts info9;obtain ⟨w1,pM,jB,fJ⟩:=run_make_full (P:=prog) w w.heap.size 231 9 i0 (.string ByteArray.empty) 1 underlying231 hi nP mB .i64 .i64 n (by rw [pB];omega) (by unfold maxLen;omega) (aj _)
 have aN:Below w.heap.size w w1:=(Below.refl _ _).grown fJ (aj _) (fun j hj=>by cases hj)
 rw [Nat.mul_one,show (Value.string ByteArray.empty).cells=#[.string ByteArray.empty] from rfl,toList_madeCells_one] at jB
 have pH:Hid (w1.ownsRow w.heap.size 9 1 (.slice (some ⟨w.heap.size,0,none⟩) n n) n (vh s.data.toList n 0)):=by
  show World.ownsRow _ _ _ _ _ _ _
  rw [Kf];exact jB
 have bN:=ab aN;have HE:=ab hE;have gM:=ab cp;have d1:((s.size:Int) != 4072)=false:=by rw [cp];rfl
 have hnI:(n:Int)≤2036:=by omega
 have AK:¬ (n:Int)<0:=by omega
 have O4:¬ (2036:Int)<(n:Int):=by omega
 have QY:(0:Int)≤(n:Int):=by omega
 have OK:IntKind.i64.wrap (2*(n:Int))=((2*n:Nat):Int):=by rw [IntKind.wrap_i64];omega
 obtain ⟨n2,Vp⟩ : ∃ n2,n2=2*n:=⟨_,rfl⟩;rw [← Vp] at OK;have gI:=ab Vp;have HLB:Hid (s.data.toList.length=4072):=by show _=_;rw [bsize];exact cp
 obtain ⟨q,hq⟩ : ∃ q,q=w.heap.size:=⟨_,rfl⟩;rw [← hq] at pM pH;have HQ:=ab hq;clear jB fJ aN hE cp nP mB pB hi Vp hq;go_enter func153,ntmps153;go_wp2_with fail;clear pM;go_loopw [7,28] (fun st i wr=>∃ k:Nat,k≤n∧i = .int .i64 k∧st = .int .i64 ((kN s.data.toList n k:Nat):Int)∧kN s.data.toList n k≤4072∧(∀ i,i<k→kN s.data.toList n i≤kN s.data.toList n (i+1)∧kN s.data.toList n (i+1)≤4072)∧wr.ownsRow q 9 1 (.slice (some ⟨q,0,none⟩) n n) n (vh s.data.toList n k)∧Below w.heap.size w wr) (fun _ i _=>n - (intOf i).toNat)
 case atStart=>exact ⟨0,aC _,rfl,by rw [gI.out];rfl,by show 2*n≤4072;omega,fun i h=>by omega,pH.out,bN.out⟩
 case round =>
  obtain ⟨k,hk,rfl,rfl,h4,Uk,aD,bL⟩:=hrel;have UK:=ab Uk;clear Uk pH bN gI;by_cases bX:k<n
  ·have QA:=ab (Nq s k wr (by have:=gM.out;omega) gM.out)
   have hes:kN s.data.toList n (k+1)=Aa s.data.toList k:=rfl;rw [← hes] at QA;have rl:=ab aD;have jY:=ab bL;obtain ⟨a,ha⟩ : ∃ a,a=kN s.data.toList n k:=⟨_,rfl⟩;obtain ⟨e,he⟩ : ∃ e,e=kN s.data.toList n (k+1):=⟨_,rfl⟩;rw [← ha] at h4 ⊢;rw [← he] at QA;have HA:Hid (a=kN s.data.toList n k∧e=kN s.data.toList n (k+1)):=⟨ha,he⟩;have c1:=aD.cellAt k (by omega)
   rw [af (by rw [Dc _ _ _ hk];exact bX)] at c1
   have dO:(k:Int)<(n:Int):=by omega
   clear ha he aD hes bL;by_cases hbad:e<a
   ·have Zg:(e:Int)<(a:Int):=by omega
    have HV:Hid (¬ (0≤(n:Int)∧L7 s.data.toList (n:Int).toNat)):=fun h=>by
     have:=(h.2.2.1 k bX).1;rw [bn,← HA.out.1,← HA.out.2] at this;omega
    clear c1;go_wp2_with fail;refine QA.out.mono ?_
    rintro e' w2 ⟨rfl,aY⟩;have c0:w2.cell? ⟨1,0,none⟩=some (.iface 360 (.pointer (some (A 1)))):=((dk.keep HE.out (Below.next jY.out aY)).1 1 (by decide)).1
    have bH:=ab (Below.next jY.out aY);clear aY;go_wp2;go_quiet (fail)
    go_wp2;go_ret2;exact ⟨.inr ⟨HV.out,rfl⟩,aB bH.out _⟩
   ·have Zg:¬ (e:Int)<(a:Int):=by omega
    by_cases fU:4072<e
    ·have Zb:(s.size:Int)<(e:Int):=by have:=gM.out;omega
     have HV:Hid (¬ (0≤(n:Int)∧L7 s.data.toList (n:Int).toNat)):=fun h=>by
      have:=(h.2.2.1 k bX).2;rw [bn,← HA.out.2] at this;omega
     clear c1;go_wp2_with fail;refine QA.out.mono ?_
     rintro e' w2 ⟨rfl,aY⟩;have c0:w2.cell? ⟨1,0,none⟩=some (.iface 360 (.pointer (some (A 1)))):=((dk.keep HE.out (Below.next jY.out aY)).1 1 (by decide)).1
     have bH:=ab (Below.next jY.out aY);clear aY;go_wp2;go_quiet (fail)
     go_wp2;go_ret2;exact ⟨.inr ⟨HV.out,rfl⟩,aB bH.out _⟩
    ·have Zb:¬ (s.size:Int)<(e:Int):=by have:=gM.out;omega
     have s1:(a:Int)≤(e:Int):=by omega
     have s2:(e:Int)≤(s.size:Int):=by omega
     have s3:(0:Int)≤(a:Int):=by omega
     have s4:a≤e:=by omega
     have s5:e≤s.size:=by omega
     have FE:k<(bT s.data.toList n).length:=by rw [fW];exact bX
     have HC:Hid (s.extract a e=(bT s.data.toList n)[k]):=by
      refine tV ?_
      rw [ext_toList,mZ,HA.out.1,HA.out.2];rfl
     have Tu:=ab (Ny s.data.toList n k bX FE);clear c1;go_wp2_with fail;refine QA.out.mono ?_
     rintro e' w2 ⟨rfl,aY⟩;have pO:=rl.out;have Sv:w2.ownsRow q 9 1 (.slice (some ⟨q,0,none⟩) n n) n (vh s.data.toList n k):=by
      refine ⟨pO.1,?_⟩;rcases pO.2 with h' | ⟨g',cap,cur,hv,mD,hg,Cs,sO,fG,mC⟩
      ·exact .inl h'
      ·have hl:g'<wr.heap.size:=by
        rcases aZ g' wr.heap.size with h' | h'
        ·exact h'
        ·rw [aV h'] at hg;cases hg
       exact .inr ⟨g',cap,cur,hv,mD,(aY.block g' hl).trans hg,Cs,sO,fG,mC⟩
     have c1:=Sv.cellAt k (by omega)
     rw [af (by rw [Dc _ _ _ hk];exact bX)] at c1
     have z1:=Sv.frozenAt k;have eS:=(Sv.stored k (.string (s.extract a e))).1;rw [HC.out,Tu.out] at eS;rw [← HC.out] at eS;have gN:=ab eS;have bH:Hid (Below w.heap.size w (w2.setCell ⟨q,k,none⟩ (.string (s.extract a e)))):=(Below.next jY.out aY).setCell (by show w.heap.size≤q;rw [HQ.out];exact aj _) _
     clear aY pO Sv eS;go_wp2;go_roundw
     case rel =>
      refine ⟨k+1,by omega,by go_num,by rw [← HA.out.2],by rw [← HA.out.2];omega,fun i hi=>?_,gN.out,bH.out⟩
      by_cases Q4:i=k
      ·subst Q4;rw [← HA.out.1,← HA.out.2];omega
      ·exact UK.out i (by omega)
     case measure=>simp [intOf];omega
  ·have oD:k=n:=by omega
   have dO:¬ (k:Int)<(n:Int):=by omega
   subst oD;obtain ⟨a,ha⟩ : ∃ a,a=kN s.data.toList k k:=⟨_,rfl⟩;rw [← ha] at h4 ⊢;have s1:(a:Int)≤(s.size:Int):=by have:=gM.out;omega
   have s2:(0:Int)≤(a:Int):=by omega
   have HZ:=ab (Qr (s.extract a s.size) wr (by rw [ByteArray.size_extract];have:=gM.out;omega))
   have HX:=ab (Qq s a (by omega))
   have HAE:=ab ha;have rl:=ab aD;have jY:=ab bL;clear ha aD bL;by_cases hz:Mo (s.extract a s.size)
   ·have qZ:Hid (L7 s.data.toList k):=⟨⟨hn,HLB.out⟩,UK.out,fun j h1 h2=>HX.out.1 hz j (by rw [HAE.out];exact h1) (by rw [gM.out];exact h2)⟩
    have ZJ:Hid (Calls prog 190 #[.string (s.extract a s.size)] wr fun e w'=>e = .returned (.bool true)∧Below wr.heap.size wr w'):=by
     refine HZ.out.mono ?_
     rintro e w' ⟨h | h,hb⟩
     ·exact ⟨h.2,hb⟩
     ·exact absurd hz h.1
    clear HZ hz HX;go_wp2_with fail;refine ZJ.out.mono ?_
    rintro e w2 ⟨rfl,aY⟩;have pO:=rl.out;have gX:Hid (w2.ownsRow w.heap.size 9 1 (.slice (some ⟨q,0,none⟩) k k) k (strs (bT s.data.toList k))):=by
     rw [Nz,HQ.out] at pO;show World.ownsRow _ _ _ _ _ _ _
     rw [HQ.out];refine ⟨pO.1,?_⟩;rcases pO.2 with h' | ⟨g',cap,cur,hv,mD,hg,Cs,sO,fG,mC⟩
     ·exact .inl h'
     ·have hl:g'<wr.heap.size:=by
       rcases aZ g' wr.heap.size with h' | h'
       ·exact h'
       ·rw [aV h'] at hg;cases hg
      exact .inr ⟨g',cap,cur,hv,mD,(aY.block g' hl).trans hg,Cs,sO,fG,mC⟩
    have bH:=ab (Below.next jY.out aY);clear pO aY;go_wp2;go_ret2;exact ⟨.inl ⟨QY,qZ.out,q,rfl,gX.out⟩,bH.out⟩
   ·have HV:Hid (¬ (0≤(k:Int)∧L7 s.data.toList (k:Int).toNat)):=fun h=>hz (HX.out.2 (fun j h1 h2=>h.2.2.2 j (by rw [bn,← HAE.out];exact h1) (by rw [← gM.out];exact h2)))
    have ZJ:Hid (Calls prog 190 #[.string (s.extract a s.size)] wr fun e w'=>e = .returned (.bool false)∧Below wr.heap.size wr w'):=by
     refine HZ.out.mono ?_
     rintro e w' ⟨h | h,hb⟩
     ·exact absurd h.1 hz
     ·exact ⟨h.2,hb⟩
    clear HZ hz HX;go_wp2_with fail;refine ZJ.out.mono ?_
    rintro e w2 ⟨rfl,aY⟩;have c0:w2.cell? ⟨1,0,none⟩=some (.iface 360 (.pointer (some (A 1)))):=((dk.keep HE.out (Below.next jY.out aY)).1 1 (by decide)).1
    have bH:=ab (Below.next jY.out aY);clear aY;go_wp2;go_quiet (fail)
    go_wp2;go_ret2;exact ⟨.inr ⟨HV.out,rfl⟩,aB bH.out _⟩
theorem lM(A:Nat→Addr)(c:Int)(s:ByteArray)(w:World)(hE:dk 4 fl A w):Calls prog 153 #[.int .i64 c,.string s] w fun e w'=>Ux A c s w e w'∧Below w.heap.size w w':=by
 by_cases h:(0≤c∧c≤2036)∧s.size=4072
 ·obtain ⟨n,rfl⟩:=cz h.1.1;exact RL A n s w (by omega) h.2 hE
 ·have HV:Hid (¬ (0≤c∧L7 s.data.toList c.toNat)):=fun hh=>h ⟨⟨hh.1,by have:=hh.2.1.1;omega⟩,by have:=hh.2.1.2;rw [bsize] at this;exact this⟩
  have c0:w.cell? ⟨1,0,none⟩=some (.iface 360 (.pointer (some (A 1)))):=(hE.1 1 (by decide)).1
  clear hE;by_cases h1:c<0
  ·clear h;go_enter func153,ntmps153;go_wp2;go_quiet (fail)
   go_wp2;go_ret2;exact ⟨.inr ⟨HV.out,rfl⟩,aB (Below.refl _ _) _⟩
  ·by_cases h2:2036<c
   ·clear h;go_enter func153,ntmps153;go_wp2;go_quiet (fail)
    go_wp2;go_ret2;exact ⟨.inr ⟨HV.out,rfl⟩,aB (Below.refl _ _) _⟩
   ·have d1:((s.size:Int) != 4072)=true:=by
     rw [bne_iff_ne];intro he;exact h ⟨⟨by omega,by omega⟩,by omega⟩
    clear h;go_enter func153,ntmps153;go_wp2;go_quiet (fail)
    go_wp2;go_ret2;exact ⟨.inr ⟨HV.out,rfl⟩,aB (Below.refl _ _) _⟩
def tS(L:List Pr)(k:Nat):List Value:=jj (L.take k)++List.replicate ((L.length - k)*2) (.string ByteArray.empty)
theorem PX(L:List Pr)(k:Nat)(h:k≤L.length):(tS L k).length=L.length*2:=by
 unfold tS;rw [ae,eJ,ag,bw];omega
theorem PW(L:List Pr)(k:Nat)(h:k<L.length):((tS L k).set (k*2) (.string L[k].1)).set (k*2+1) (.string L[k].2)=tS L (k+1):=by
 have hl:(jj (L.take k)).length=k*2:=by rw [eJ,ag];omega
 unfold tS;rw [bO _ _ (by omega),hl,dI,show (L.length - k)*2=(L.length - (k+1))*2+1+1 by omega,List.replicate_succ,List.replicate_succ,List.set_cons_zero]
 rw [bO _ _ (by omega),hl,show k*2+1 - k*2=1 by omega,List.set_cons_succ,List.set_cons_zero,ay h,w9,ax]
 rfl
theorem LB(L:List Pr):tS L 0=List.replicate (L.length*2) (.string ByteArray.empty):=by simp [tS,jj]
theorem PY(L:List Pr):tS L L.length=jj L:=by simp [tS]
theorem Oh(z:Value)(n:Nat):(madeCells #[z,z] n).toList=List.replicate n z:=by
 apply qd
 intro j;by_cases hj:j<n
 ·rcases cy j with h | h <;> simp [madeCells,hj,h]
 ·simp [madeCells,hj]
theorem Gr{w w':World}{base e n:Nat}{v:Value}{xs:List Value}(h:w.ownsRow base e 2 v n xs)(hb:Below w.heap.size w w'):w'.ownsRow base e 2 v n xs:=by
 refine ⟨h.1,?_⟩;rcases h.2 with h' | ⟨g,cap,cur,h',h1,h2,hr⟩
 ·exact .inl h'
 ·refine .inr ⟨g,cap,cur,h',h1,?_,hr⟩;have hg:g<w.heap.size:=by
   rcases aZ g w.heap.size with h' | h'
   ·exact h'
   ·rw [aV h'] at h2;cases h2
  rw [hb.block g hg];exact h2
def aar(A:Nat→Addr)(c:Int)(s:ByteArray)(base:Nat)(e:Ending)(w:World):Prop :=
 (0≤c∧mx c.toNat s.data.toList∧∃ u,e = .returned (.tuple #[u,.nilIface])∧iU w base u (B2 c.toNat s.data.toList)) ∨
  (¬ (0≤c∧mx c.toNat s.data.toList)∧e = .returned (.tuple #[.slice none 0 0,.iface 360 (.pointer (some (A 1)))]))
theorem DT(A:Nat→Addr)(c:Int)(s:ByteArray)(w:World)(hE:jG A w):Calls prog 114 #[.int .i64 c,.string s] w fun e w'=>aar A c s w.heap.size e w'∧Below w.heap.size w w':=by
 have QD:=ab (lM A c s w hE.1);have HE:=ab hE;obtain ⟨i0,hi,hz,cp,kL⟩:=info_parts I9;clear hE;obtain ⟨Q,hQ⟩ : ∃ Q:Ending→World→Prop,Q=fun e w'=>aar A c s w.heap.size e w'∧Below w.heap.size w w':=⟨_,rfl⟩
 rw [← hQ];have HQ:=ab hQ;clear hQ;go_enter func114,ntmps114;go_wp2_with fail;refine QD.out.mono ?_
 rintro e w1 ⟨⟨yi,cC,g,rfl,aD⟩ | ⟨fy,rfl⟩,aN⟩
 ·obtain ⟨n,rfl⟩:=cz yi;simp only [bn] at cC aD ⊢;have hn:=cC.1.1;obtain ⟨B,hB⟩ : ∃ B,B=s.data.toList:=⟨_,rfl⟩;obtain ⟨CB,Zt⟩ : ∃ CB,CB=bT B n:=⟨_,rfl⟩;have hCl:CB.length=n:=by rw [Zt,fW]
  rw [← hB] at cC aD;rw [← Zt] at aD;have Zs:∀ x ∈ CB,x.size≤4072:=fun x hx=>by
   rw [Zt] at hx;obtain ⟨j,hj,rfl⟩:=aI hx;rw [fW] at hj;rw [← bsize,mZ,LN cC j hj];have:=Js cC (j+1) (by omega)
   omega
  have Py:(CB.map dn).length=n:=by rw [az,hCl]
  obtain ⟨wm,pM,fP,pZ⟩:=run_make_full (P:=prog) w1 w1.heap.size 63 52 i0 _ 2 underlying63 hi hz cp .i64 .i64 n (by rw [kL];omega) (by unfold maxLen;omega) (aj _)
  have nP:(madeCells (Value.agg #[.string ByteArray.empty,.string ByteArray.empty]).cells (n*2)).toList=tS (CB.map dn) 0:=by
   rw [LB,Py];exact Oh _ _
  rw [nP] at fP;have Cw:Below w1.heap.size w1 wm:=(Below.refl _ _).grown pZ (aj _) (fun j hj=>by cases hj)
  obtain ⟨b,hb⟩ : ∃ b,b=w1.heap.size:=⟨_,rfl⟩;rw [← hb] at pM fP;have HB:=ab hb;have HO:=ab fP;have JH:=ab Cw;have bN:=ab aN;have A9:=ab (fS aD).strs;have qZ:=ab cC;have zl:=ab hCl;have FI:=ab Zs;have kj:=ab Py;have HCB:=ab Zt;have rm:=ab hB;clear hb fP Cw pZ hi hz cp kL nP aN QD aD cC hCl Zs Py Zt hB yi;go_wp2;clear pM;go_loopw [27] (fun i wr=>∃ k:Nat,k≤n∧i = .int .i64 k∧wr.ownsRow b 52 2 (.slice (some ⟨b,0,none⟩) n n) n (tS (CB.map dn) k)∧(∀ j (h:j<CB.length),j<k→Ft CB[j]=true)∧Below w1.heap.size w1 wr) (fun i _=>n - (intOf i).toNat)
  case atStart=>exact ⟨0,aC _,rfl,HO.out,fun j _ h=>absurd h (fZ _),JH.out⟩
  case round =>
   obtain ⟨k,hk,rfl,aD,iW,bL⟩:=hrel;clear HO JH;have HP:=ab iW;clear iW;by_cases bX:k<n
   ·have ep:k<CB.length:=by have:=zl.out;omega
    have hkL:k<(CB.map dn).length:=by rw [kj.out];exact bX
    have QV:=A9.out.below bL;obtain ⟨ta,tc,hte,_,vX⟩:=QV;obtain ⟨g',o',ha,f1⟩:=vX k ep;simp only [Value.slice.injEq] at hte;obtain ⟨rfl,-⟩:=hte;simp only [Option.some.injEq,Addr.mk.injEq,and_true] at ha;obtain ⟨rfl,rfl⟩:=ha;rw [Nat.zero_add] at f1;have UD:=ab (fun W=>Gl CB[k] W (FI.out _ (aH _)))
    have iw:Hid (((tS (CB.map dn) k).set (k*2) (.string (dn CB[k]).1)).set (k*2+1) (.string (dn CB[k]).2)=tS (CB.map dn) (k+1)):=by
     have:=PW (CB.map dn) k hkL;simp only [cO] at this;exact this
    have oS:Hid (Ft CB[k]=true→∀ j (h:j<CB.length),j<k+1→Ft CB[j]=true):=fun hl j h hj=>by
     by_cases he:j=k
     ·subst he;exact hl
     ·exact HP.out j h (by omega)
    have kh:Hid (Ft CB[k]=false→¬ (0≤(n:Int)∧mx (n:Int).toNat s.data.toList)):=fun hl hd=>by
     have:=hd.2.2.1;rw [← rm.out,bn,← HCB.out] at this;have h2:=this CB[k] (aH _);rw [hl] at h2;cases h2
    obtain ⟨ck,kV⟩ : ∃ ck,ck=CB[k]:=⟨_,rfl⟩;rw [← kV] at f1 UD iw oS kh;have jY:=ab bL;have rl:=ab aD;have fL:=ab (PX (CB.map dn) k (by omega))
    have dO:(k:Int)<(n:Int):=by omega
    have j0:(0:Int)≤(k:Int):=by omega
    clear kV vX bL aD;go_wp2_with fail;refine (UD.out _).mono ?_
    rintro e w2 ⟨⟨hok1,rfl⟩ | ⟨YB,x,y,rfl⟩,aY⟩
    ·have tY:=ab (oS.out hok1);obtain ⟨p,hp⟩ : ∃ p,p=dn ck:=⟨_,rfl⟩;rw [← hp] at iw ⊢;have fh:=ai w2 (.cells #[.string p.1,.string p.2] 52);have dW:=Gr rl.out (Below.next aY fh);have hq:∀ j,j<n*2→∃ u,(w2.alloc (.cells #[.string p.1,.string p.2] 52)).cell? ⟨b,j,none⟩=some u:=fun j hj=>by
      rw [World.ownsRow.cellAt dW j hj];exact ⟨_,af (by rw [fL.out,kj.out];exact hj)⟩
     obtain ⟨u1,q1⟩:=hq (k*2) (by omega)
     obtain ⟨u2,q2⟩:=hq (k*2+1) (by omega)
     have z1:=World.ownsRow.frozenAt dW (k*2);have z2:=World.ownsRow.frozenAt dW (k*2+1);have eS:=(World.ownsRow.stored (World.ownsRow.stored dW (k*2) (.string p.1)).1 (k*2+1) (.string p.2)).1;rw [iw.out] at eS;have gX:=ab eS;have hbb:w1.heap.size≤b:=by rw [HB.out];exact aj _
     have bH:Hid (Below w1.heap.size w1 (((w2.alloc (.cells #[.string p.1,.string p.2] 52)).setCell ⟨b,k*2,none⟩ (.string p.1)).setCell ⟨b,k*2+1,none⟩ (.string p.2))):=((Below.next jY.out (Below.next aY fh)).setCell hbb _).setCell hbb _;clear hp aY fh dW hq eS iw rl jY UD oS kh hok1 f1;go_wp2;go_roundw
     case rel=>exact ⟨k+1,by omega,by go_num,gX.out,tY.out,bH.out⟩
     case measure=>simp [intOf];omega
    ·have QG:=ab (kh.out YB);have fh:=ai w2 (.cells #[.string x,.string y] 52);have bH:=ab (Below.next bN.out (Below.next jY.out (Below.next aY fh)));have k1:(w2.alloc (.cells #[.string x,.string y] 52)).cell? ⟨1,0,none⟩=some (.iface 360 (.pointer (some (A 1)))):=((HE.out.below bH.out).1.1 1 (by decide)).1
     clear aY fh iw rl jY UD oS kh YB f1;go_wp2;go_quiet (fail)
     go_wp2;rw [HQ.out];exact ⟨.inr ⟨QG.out,rfl⟩,aB bH.out _⟩
   ·have oD:k=n:=by omega
    rw [oD,← kj.out,PY,kj.out] at aD;have hpo:iU wr b (.slice (some ⟨b,0,none⟩) n n) (CB.map dn):=by unfold iU;rw [kj.out];exact aD
    have Yu:To (CB.map dn):=fun p hp=>by
     obtain ⟨c0,yi,rfl⟩:=List.mem_map.1 hp;have:=FI.out c0 yi;have h1:=IS c0;have h2:=IQ c0;have h3:=(pA c0.data.toList).1;omega
    have CH:=ab (Below.next bN.out bL);have nR:=ab (qw A _ (CB.map dn) true wr Yu (by rw [kj.out];omega) hpo.at (HE.out.below CH.out))
    have UD:=ab (hpo.mono (show w.heap.size≤b by rw [HB.out];exact bN.out.size))
    have Ie:Hid (∀ x ∈ CB,Ft x=true):=fun x hx=>by
     obtain ⟨j,hj,rfl⟩:=aI hx;exact HP.out j hj (by have:=zl.out;omega)
    have dO:¬ (k:Int)<(n:Int):=by omega
    have HDL:Hid (B2 (n:Int).toNat s.data.toList=CB.map dn):=by show _=_;rw [bn,← rm.out,HCB.out];rfl
    have HDO:Hid (mx (n:Int).toNat s.data.toList↔zO (CB.map dn) true=none):=by
     show _↔_
     rw [bn,← rm.out];unfold mx;rw [← HCB.out];exact ⟨fun h=>h.2.2,fun h=>⟨qZ.out,Ie.out,h⟩⟩
    clear aD bL hpo Yu HP A9 oD;cases kV:zO (CB.map dn) true with
    | none =>
     rw [kV] at nR;have HD:=ab (HDO.out.2 kV);clear kV;go_wp2_with fail;refine nR.out.mono ?_
     rintro e w3 ⟨rfl,b6⟩;have nL:=ab (UD.out.below b6);have dH:=ab (Below.next CH.out b6);clear b6 nR UD CH;unfold im;go_wp2;rw [HQ.out];exact ⟨.inl ⟨by omega,HD.out,_,rfl,by rw [HDL.out];exact nL.out⟩,dH.out⟩
    | some m =>
     rw [kV] at nR;have HD:Hid (¬ (0≤(n:Int)∧mx (n:Int).toNat s.data.toList)):=fun h=>by
      have:=HDO.out.1 h.2;rw [kV] at this;cases this
     have GW:=fun W=>fe (some (A m)) W
     clear kV;go_wp2_with fail;refine nR.out.mono ?_
     rintro e w3 ⟨rfl,b6⟩;have dH:=ab (Below.next CH.out b6);have k1:w3.cell? ⟨1,0,none⟩=some (.iface 360 (.pointer (some (A 1)))):=((HE.out.below dH.out).1.1 1 (by decide)).1
     clear b6 nR UD CH;unfold im;go_wp2;go_quiet (fail)
     go_wp2;rw [HQ.out];exact ⟨.inr ⟨HD.out,rfl⟩,aB dH.out _⟩
 ·have kh:Hid (¬ (0≤c∧mx c.toNat s.data.toList)):=fun h=>fy ⟨h.1,h.2.1⟩
  have bN:=ab aN;have k1:w1.cell? ⟨1,0,none⟩=some (.iface 360 (.pointer (some (A 1)))):=((HE.out.below aN).1.1 1 (by decide)).1
  have GW:=fun W=>fe (some (A 1)) W
  clear aN fy QD hi hz cp kL;go_wp2;go_quiet (fail)
  go_wp2;rw [HQ.out];exact ⟨.inr ⟨kh.out,rfl⟩,aB bN.out _⟩
namespace B
def jS(n:Nat):ByteArray:=⟨(bI n 4).toArray⟩
def mj(p:Lk):ByteArray:=⟨([UInt8.ofNat p.1.size]++(p.1.data.toList++bI p.2.toNat 4)).toArray⟩
theorem qU(n:Nat):(jS n).data.toList=bI n 4:=by simp [jS]
theorem jD(p:Lk):(mj p).data.toList=[UInt8.ofNat p.1.size]++(p.1.data.toList++bI p.2.toNat 4):=by simp [mj]
theorem qT(n:Nat):(jS n).size=4:=by rw [← bsize,qU,eD n 4 (by decide)]
theorem yz(p:Lk):(mj p).size=5+p.1.size:=by
 rw [← bsize,jD,ae,ae,eD _ 4 (by decide),bsize];simp;omega
def dw(f:Int)(l:List Lk):List ByteArray:=jS f.toNat::l.map mj
theorem mY(f:Int)(l:List Lk):(dw f l).length=l.length+1:=by simp [dw]
theorem Hb(L:List ByteArray):(dS L L.length)=L.flatMap (fun c=>c.data.toList):=by
 unfold dS;rw [ar (aj _)]
theorem EB:∀ l:List Lk,((l.map mj).flatMap (fun c=>c.data.toList)).length+2*l.length+6=jw l
 | []=>by simp [jw]
 | p::l=>by
  have:=EB l;rw [List.map_cons,List.flatMap_cons,ae,bsize,yz,nY,List.length_cons];unfold yZ;omega
theorem oc(f:Int)(l:List Lk):dN (dw f l)=jw l:=by
 have h:=EB l;unfold dN fu;rw [mY,show (l.length+1)=(dw f l).length from (mY f l).symm,Hb]
 unfold dw;rw [List.flatMap_cons,ae,bsize,qT,List.length_cons,az];omega
def pP(f:Int)(l:List Lk):ByteArray:=⟨(jl (dw f l)).toArray⟩
theorem EU(f:Int)(l:List Lk)(k:Nat)(h:k<l.length):dw f (l.take (k+1))=dw f (l.take k)++[mj l[k]]:=by
 unfold dw;rw [ay h,aW];rfl
end B
theorem zY(l:List UInt8)(k:Nat)(h:k<l.length):l.take (k+1)=l.take k++[l[k]]:=ay h
def et(l:List UInt8):Nat:=l.foldl (fun n c=>n*256+c.toNat) 0
theorem qW(l:List UInt8)(c:UInt8):et (l++[c])=et l*256+c.toNat:=by simp [et,List.foldl_append]
theorem yD(l:List UInt8):et l<256 ^ l.length:=by
 have:∀ (l:List UInt8) (n k:Nat),n<256 ^ k→l.foldl (fun n c=>n*256+c.toNat) n<256 ^ (k+l.length):=by
  intro l;induction l with
  | nil=>intro n k h;simpa using h
  | cons c r ih =>
   intro n k h;have hc:=UInt8.toNat_lt c;have:=ih (n*256+c.toNat) (k+1) (by rw [Nat.pow_succ];omega)
   simp only [List.foldl_cons,List.length_cons];rwa [show k+(r.length+1)=k+1+r.length by omega]
 have h:=this l 0 0 (by decide)
 rwa [Nat.zero_add] at h
def jy(l:List UInt8):List UInt8:=List.replicate (8 - l.length) 0++l
theorem Gp(l:List UInt8)(h:l.length≤8):(jy l).length=8:=by simp [jy];omega
theorem Cc(l:List UInt8):et (jy l)=et l:=by
 have:∀ k,(List.replicate k (0:UInt8)).foldl (fun n c=>n*256+c.toNat) 0=0:=by
  intro k;induction k with
  | zero=>rfl
  | succ k ih=>rw [List.replicate_succ,List.foldl_cons];exact ih
 unfold et jy;rw [gr,this]
theorem S7(g o cap:Nat)(l:List UInt8)(w:World)(hg:g<w.heap.size)(hc:∀ j (h:j<l.length),w.cell? ⟨g,o+j,none⟩=some (.int .u8 (l[j].toNat:Int)))(h8:l.length≤8):∃ w2,(Builtin.copy_ #[145,145] 3 #[.slice (some ⟨w.heap.size,8 - l.length,none⟩) l.length l.length,.slice (some ⟨g,o,none⟩) l.length cap]).run prog (w.alloc (.cells #[.int .u8 0,.int .u8 0,.int .u8 0,.int .u8 0,.int .u8 0,.int .u8 0,.int .u8 0,.int .u8 0] 328)) = .ok (goInt l.length) w2∧Below w.heap.size w w2∧∀ j (h:j<(jy l).length),w2.cell? ⟨w.heap.size,j,none⟩=some (.int .u8 ((jy l)[j].toNat:Int)):=by
 have oB:=heap_alloc_new w (.cells #[.int .u8 0,.int .u8 0,.int .u8 0,.int .u8 0,.int .u8 0,.int .u8 0,.int .u8 0,.int .u8 0] 328);have bo:=run_copy_row (P:=prog) (w.alloc (.cells #[.int .u8 0,.int .u8 0,.int .u8 0,.int .u8 0,.int .u8 0,.int .u8 0,.int .u8 0,.int .u8 0] 328)) 145 145 3 5 w.heap.size (8 - l.length) l.length l.length ⟨g,o,none⟩ l.length cap _ 328 (dR l) underlying145 uk oB (by rw [a6];exact (Nat.min_self _).symm)
  (fun j v hv=>by
   by_cases hj:j<l.length
   ·rw [iz l j hj] at hv;cases hv;rw [show (⟨g,o,none⟩ : Addr).add j=⟨g,o+j,none⟩ by simp [Addr.add]]
    rw [(ai w _).cell (p:=⟨g,o+j,none⟩) hg];exact hc j hj
   ·rw [bB (by rw [a6];omega)] at hv;cases hv)
  (by rw [a6];simp;omega) (rp l)
 rw [a6] at bo;have hl:(List.take (8 - l.length) (#[.int .u8 0,.int .u8 0,.int .u8 0,.int .u8 0,.int .u8 0,.int .u8 0,.int .u8 0,.int .u8 0] : Array Value).toList++dR l++List.drop (8 - l.length+l.length) (#[.int .u8 0,.int .u8 0,.int .u8 0,.int .u8 0,.int .u8 0,.int .u8 0,.int .u8 0,.int .u8 0] : Array Value).toList)=dR (jy l):=by
  have hz:(#[.int .u8 0,.int .u8 0,.int .u8 0,.int .u8 0,.int .u8 0,.int .u8 0,.int .u8 0,.int .u8 0] : Array Value).toList=List.replicate 8 (.int .u8 0):=rfl;rw [hz,show 8 - l.length+l.length=8 by omega,List.take_replicate,nB,jy,jv]
  simp [dR,Nat.min_eq_left (show 8 - l.length≤8 by omega)]
 rw [hl] at bo;refine ⟨_,bo,below_setRow (ai w _) (aj _) _,fun j hj=>?_⟩
 have bV:=setRow_heap _ w.heap.size _ (dR (jy l)).toArray 328 _ oB;rw [cell_of_row _ w.heap.size j _ 328 _ bV];simpa using iz (jy l) j hj
theorem NA{k:IntKind}{a b:Nat}{v:Value}(h:a=b):Ending.returned (.tuple #[.int k (a:Int),v]) = .returned (.tuple #[.int k (b:Int),v]):=by rw [h]
theorem RU(y c:Nat)(hy:y<72057594037927936)(hc:c<256):bits BinOp.or IntKind.u64 ((y:Int)*256) (c:Int)=((y*256+c:Nat):Int):=by
 have h:=u64_or_nat (y*256) c (by omega) (by omega)
 rw [nat_join 8 (y*256) c (by omega) (by simpa using hc)] at h
 rw [← h];rfl
theorem PF(g o cap:Nat)(l:List UInt8)(w:World)(h1:1≤l.length)(h8:l.length≤8)(hg:g<w.heap.size)(hc:∀ j (h:j<l.length),w.cell? ⟨g,o+j,none⟩=some (.int .u8 (l[j].toNat:Int))):Calls prog 227 #[.slice (some ⟨g,o,none⟩) l.length cap] w fun e w'=>e = .returned (.tuple #[.int .u64 ((et l:Nat):Int),.nilIface])∧Below w.heap.size w w':=by
 obtain ⟨cs,fG⟩ : ∃ cs,cs=dR l:=⟨_,rfl⟩;obtain ⟨len,hlen⟩ : ∃ len,len=l.length:=⟨_,rfl⟩;rw [← hlen] at h1 h8;have zg:cs.length=len:=by rw [fG,a6,hlen]
 have FI:Hid (cs=dR l):=fG;have fL:Hid (len=l.length):=hlen;rw [← fL.out];clear fG hlen;have qE:=Ab w.heap.size len h1 h8;go_enter func227,ntmps227;obtain ⟨w2,zf,aY,bE⟩:=S7 g o cap l w hg hc (by rw [← fL.out];exact h8)
 rw [← fL.out] at zf;clear hc;have sN:decide ((len:Int)<1)=false:=decide_eq_false (by omega)
 have KX:decide ((8:Int)<(len:Int))=false:=decide_eq_false (by omega)
 go_wp2_with fail;have FA:(jy l).length=8:=Gp l (by rw [← fL.out];exact h8)
 have HB:Hid (et (jy l)=et l):=Cc l;generalize jy l=pl at *;go_loop [5,22] (fun r i=>∃ k y:Nat,k≤8∧i = .int .i64 k∧r = .int .u64 (y:Int)∧y=et (pl.take k)) (fun _ i=>8 - (intOf i).toNat)
 case atStart=>exact ⟨0,0,by omega,rfl,rfl,rfl⟩
 case round =>
  obtain ⟨k,y,hk,rfl,rfl,X3⟩:=hrel;have HY:Hid (y=et (pl.take k)):=X3;clear X3;by_cases bX:k<8
  ·have kV:=bE k (by omega)
   obtain ⟨c,Mx⟩ : ∃ c:Nat,c=(pl[k]'(by omega)).toNat:=⟨_,rfl⟩
   have Um:c<256:=by rw [Mx];exact UInt8.toNat_lt _
   rw [← Mx] at kV;have HR:Hid (y*256+c=et (pl.take (k+1))):=by
    show y*256+c=_
    rw [zY pl k (by omega),qW,← HY.out,Mx]
   have hyb:y<72057594037927936:=by
    rw [HY.out];have h:=yD (pl.take k);rw [ag,a8 (by omega)] at h
    exact al h (aq (mq (n:=256) (i:=k) (j:=7) (by decide) (by omega)) (by decide))
   have e1:=RU y c hyb Um;clear Mx bE qE zf;go_wp2;go_round
   case rel=>exact ⟨k+1,y*256+c,by omega,by go_num,by go_num,HR.out⟩
   case measure=>simp [intOf];omega
  ·have HE:Hid (y=et l):=by
    show y=_
    rw [HY.out,ar (by omega),HB.out]
   clear bE qE zf;go_wp2;go_ret2;exact ⟨NA HE.out,aY⟩
theorem Jw(n m:Nat)(hm:m+1≤8):bI n (m+1)=bI (n / 256) m++[UInt8.ofNat n]:=by
 apply lD
 ·rw [ae,eD n _ hm,eD _ m (by omega)];rfl
 ·intro i h1 h2;rw [eD n _ hm] at h1;simp only [bI,cY];rw [yt];by_cases hi:i<m
  ·rw [aM (by rw [ao,mf];omega)]
   simp only [cY];rw [yt];unfold j7;rw [Nat.div_div_eq_div_mul,show (256:Nat)=2 ^ 8 from rfl,← Nat.pow_add,show 8*(7 - (8 - (m+1)+i))=8+8*(7 - (8 - m+i)) by omega]
  ·have he:i=m:=by omega
   subst he;rw [bt (by rw [ao,mf];omega)]
   simp [j7,show 7 - (7 - i+i)=0 by omega]
theorem ml(m:Nat):∀ n,m≤8→n<2 ^ (8*m)→et (bI n m)=n:=by
 induction m with
 | zero =>
  intro n _ hn;have h0:n=0:=by simpa using hn
  subst h0;decide
 | succ m ih =>
  intro n hm hn;have h1:n / 256<2 ^ (8*m):=by
   rw [show 8*(m+1)=8*m+8 by omega,Nat.pow_add] at hn
   exact Nat.div_lt_of_lt_mul (by rw [Nat.mul_comm];simpa using hn)
  rw [Jw n m hm,qW,ih (n / 256) (by omega) h1]
  simp only [UInt8.toNat_ofNat'];omega
theorem yF(k:Nat):∀ l:List UInt8,l.length=k→k≤8→bI (et l) k=l:=by
 induction k with
 | zero =>
  intro l hl _;rw [List.length_eq_zero_iff.1 hl];decide
 | succ k ih =>
  intro l hl hk;obtain ⟨r,c,rfl⟩ : ∃ r c,l=r++[c]:=⟨l.dropLast,l.getLast (by intro h;simp [h] at hl),(iu _).symm⟩
  have hr:r.length=k:=by simpa using hl
  have hc:=UInt8.toNat_lt c;rw [qW,Jw _ k hk,show (et r*256+c.toNat) / 256=et r by omega,ih r hr (by omega)]
  congr 2
  apply UInt8.toNat_inj.1
  simp only [UInt8.toNat_ofNat'];omega
end Go.Proofs.YtihmgigfkmofnaaGreatDoor
