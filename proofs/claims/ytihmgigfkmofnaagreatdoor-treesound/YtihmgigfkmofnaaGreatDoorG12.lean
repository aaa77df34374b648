import Derived.Test.YtihmgigfkmofnaaGreatDoorG11
import Derived.Deep.QuietTactic
import Derived.Lib.BufferWrite
import Derived.Deep.WholeRow
set_option maxHeartbeats 4000000
set_option maxRecDepth 100000
open Go.Proofs.Tryz
namespace Go.Proofs.YtihmgigfkmofnaaGreatDoor
open Go.RowKit
def JX(c:UInt8):Bool:=c == 0
def iW(l:List UInt8):List UInt8:=l.dropWhile JX
def KQ(s:ByteArray):ByteArray:=⟨(iW s.data.toList).toArray⟩
def GB(s:ByteArray):ByteArray:=⟨(iW s.data.toList.reverse).reverse.toArray⟩
theorem ext_toList(s:ByteArray)(a b:Nat):(s.extract a b).data.toList=(s.data.toList.drop a).take (b - a):=by
 rw [ByteArray.data_extract,Array.toList_extract]
theorem uD{x y:ByteArray}(h:x.data.toList=y.data.toList):x=y:=by
 have h2:x.data=y.data:=Array.toList_inj.1 h;cases x;exact congrArg ByteArray.mk h2
theorem Dh(x:ByteArray)(k:Nat)(hk:k=x.size - 1)(h:k<x.size):x.data.toList=x.data.toList.take k++[x[k]]:=by
 have h1:k<x.data.toList.length:=by rw [bsize];exact h
 have:=ax h1;rw [ao (by rw [bsize];omega)] at this
 exact this
theorem BN(x:ByteArray)(h:0<x.size):x.data.toList=x[0]::x.data.toList.drop 1:=by
 have h1:0<x.data.toList.length:=by rw [bsize];exact h
 have:=bg h1;rw [List.drop_zero] at this;exact this
theorem KO(s:ByteArray)(w:World)(hs:s.size≤140737488355328):Calls prog 245 #[.string s,.int .u8 0] w fun e w'=>e = .returned (.string (GB s))∧w'=w:=by
 obtain ⟨t,ht⟩ : ∃ t,t=GB s:=⟨_,rfl⟩;rw [← ht];have HT:=ab ht;clear ht;go_enter func245,ntmps245;go_wp2;go_loop [0] (fun v=>∃ (x:ByteArray),v = .string x∧iW x.data.toList.reverse=iW s.data.toList.reverse∧x.size≤s.size) (fun v=>match v with | .string x=>x.size | _=>0)
 case atStart=>exact ⟨s,rfl,rfl,aj _⟩
 case round =>
  obtain ⟨x,rfl,he,hle⟩:=hrel;have HE:=ab he;clear he;by_cases h0:0<x.size
  ·have h0I:(0:Int)<(x.size:Int):=by omega
   obtain ⟨k,hk⟩ : ∃ k,k=x.size - 1:=⟨_,rfl⟩;have hw:IntKind.i64.wrap ((x.size:Int) - 1)=(k:Int):=by rw [IntKind.wrap_i64];omega
   have bO:k<x.size:=by omega
   have dE:(k:Int)<(x.size:Int):=by omega
   have Mg:(0:Int)≤(k:Int):=by omega
   have akp:(k:Int)≤(x.size:Int):=by omega
   have HK:=ab hk;have HL:=ab (Dh x k hk bO);clear hk;by_cases hz:x[k]=0
   ·have Xk:((x[k].toNat:Int) == 0)=true:=by rw [hz];rfl
    have HZ:=ab hz;clear hz;go_wp2;go_round
    case rel =>
     refine ⟨_,rfl,?_,?_⟩
     ·rw [← HE.out,ext_toList,List.drop_zero,Nat.sub_zero];conv=>rhs;rw [HL.out,HZ.out,List.reverse_append]
      rfl
     ·rw [ByteArray.size_extract];omega
    case measure=>simp [ByteArray.size_extract];omega
   ·have Xk:((x[k].toNat:Int) == 0)=false:=by
     rw [beq_eq_false_iff_ne];intro h;exact hz (UInt8.toNat_inj.1 (by simpa using h))
    have HX:Hid (x=t):=by
     have hb:JX x[k]=false:=by simpa [JX] using hz
     refine uD ?_
     rw [HT.out];show _=(iW s.data.toList.reverse).reverse.toArray.toList
     rw [← HE.out,HL.out,List.reverse_append];show _=(List.dropWhile JX (x[k]::_)).reverse.toArray.toList
     rw [jw (by rw [hb];decide)]
     simp
    clear hz;go_wp2;go_ret;exact ⟨by rw [← HX.out];rfl,rfl⟩
  ·have h0I:¬ (0:Int)<(x.size:Int):=by omega
   have HX:Hid (x=t):=by
    refine uD ?_
    rw [HT.out];show _=(iW s.data.toList.reverse).reverse.toArray.toList
    have hn:x.data.toList=[]:=List.length_eq_zero_iff.1 (by rw [bsize];omega)
    rw [← HE.out,hn];rfl
   go_wp2;go_ret;exact ⟨by rw [← HX.out];rfl,rfl⟩
theorem KP(s:ByteArray)(w:World):Calls prog 244 #[.string s,.int .u8 0] w fun e w'=>e = .returned (.string (KQ s))∧w'=w:=by
 obtain ⟨t,ht⟩ : ∃ t,t=KQ s:=⟨_,rfl⟩;rw [← ht];have HT:=ab ht;clear ht;go_enter func244,ntmps244;go_wp2;go_loop [0] (fun v=>∃ (x:ByteArray),v = .string x∧iW x.data.toList=iW s.data.toList∧x.size≤s.size) (fun v=>match v with | .string x=>x.size | _=>0)
 case atStart=>exact ⟨s,rfl,rfl,aj _⟩
 case round =>
  obtain ⟨x,rfl,he,hle⟩:=hrel;have HE:=ab he;clear he;by_cases h0:0<x.size
  ·have h0I:(0:Int)<(x.size:Int):=by omega
   have h1I:(1:Int)≤(x.size:Int):=by omega
   have HL:=ab (BN x h0);by_cases hz:x[0]=0
   ·have Xk:((x[0].toNat:Int) == 0)=true:=by rw [hz];rfl
    have HZ:=ab hz;clear hz;go_wp2;go_round
    case rel =>
     refine ⟨_,rfl,?_,?_⟩
     ·rw [← HE.out,ext_toList,ao (by rw [al,bsize];omega)]
      conv=>rhs;rw [HL.out,HZ.out]
      rfl
     ·rw [ByteArray.size_extract];omega
    case measure=>simp [ByteArray.size_extract];omega
   ·have Xk:((x[0].toNat:Int) == 0)=false:=by
     rw [beq_eq_false_iff_ne];intro h;exact hz (UInt8.toNat_inj.1 (by simpa using h))
    have HX:Hid (x=t):=by
     have hb:JX x[0]=false:=by simpa [JX] using hz
     refine uD ?_
     rw [HT.out];show _=(iW s.data.toList).toArray.toList
     rw [← HE.out];conv=>rhs;rw [HL.out]
     show _=(List.dropWhile JX (x[0]::_)).toArray.toList
     rw [jw (by rw [hb];decide)]
     exact HL.out
    clear hz;go_wp2;go_ret;exact ⟨by rw [← HX.out];rfl,rfl⟩
  ·have h0I:¬ (0:Int)<(x.size:Int):=by omega
   have HX:Hid (x=t):=by
    refine uD ?_
    rw [HT.out];show _=(iW s.data.toList).toArray.toList
    have hn:x.data.toList=[]:=List.length_eq_zero_iff.1 (by rw [bsize];omega)
    rw [← HE.out,hn];rfl
   go_wp2;go_ret;exact ⟨by rw [← HX.out];rfl,rfl⟩
theorem Bn(l:List UInt8):iW l=[]↔∀ x ∈ l,JX x=true:=by
 induction l with
 | nil=>simp [iW]
 | cons a r ih =>
  unfold iW at ih ⊢;cases ha:JX a with
  | true=>rw [List.dropWhile_cons_of_pos ha,ih];simp [ha]
  | false=>rw [jw (by rw [ha];decide)];simp [ha]
theorem Iy(l:List UInt8)(a:UInt8)(r:List UInt8)(h:iW l=a::r):JX a=false:=by
 induction l with
 | nil=>simp [iW] at h
 | cons b q ih =>
  unfold iW at ih h;cases hb:JX b with
  | true=>rw [List.dropWhile_cons_of_pos hb] at h;exact ih h
  | false =>
   rw [jw (by rw [hb];decide)] at h
   cases h;exact hb
theorem De(s:ByteArray):KQ (GB s)=ByteArray.empty↔∀ j,j<s.size→s.data.toList.getD j 0=0:=by
 have h1:KQ (GB s)=ByteArray.empty↔iW (iW s.data.toList.reverse).reverse=[]:=by
  constructor
  ·intro h;have:=congrArg (fun x=>x.data.toList) h
   simpa [KQ,GB] using this
  ·intro h;refine uD ?_
   simpa [KQ,GB] using h
 rw [h1];rw [Bn];constructor
 ·intro h j hj;have hz:iW s.data.toList.reverse=[]:=by
   cases hd:iW s.data.toList.reverse with
   | nil=>rfl
   | cons a r =>
    exfalso
    have hp:=h a (by rw [hd];simp)
    rw [Iy _ a r hd] at hp;cases hp
  rw [Bn] at hz;rw [CF s j hj];have:=hz s[j] (by rw [List.mem_reverse];show s.data[j] ∈ _;simp)
  simpa [JX] using this
 ·intro h x hx;rw [List.mem_reverse] at hx;have wF:=(List.dropWhile_sublist JX (l:=s.data.toList.reverse)).mem hx;rw [List.mem_reverse] at wF;obtain ⟨j,hj,rfl⟩:=aK wF;have:=h j (by rw [bsize] at hj;exact hj)
  rw [aF,af hj] at this;simpa [JX] using this
theorem Bm(s:ByteArray):s.toList.isEmpty=decide (s=ByteArray.empty):=(decide_eq_emptyBytes s).symm
theorem OC(s:ByteArray)(w:World)(hs:s.size≤140737488355328):Calls prog 228 #[.string s,.string ⟨#[0]⟩] w fun e w'=>e = .returned (.string (KQ (GB s)))∧Below w.heap.size w w':=by
 by_cases h0:s=⟨#[]⟩
 ·subst h0;have HT:Hid (KQ (GB ⟨#[]⟩)=⟨#[]⟩):=rfl;rw [HT.out];go_enter func228,ntmps228;go_wp2;go_ret;exact ⟨rfl,Below.refl _ _⟩
 ·have cY:s.toList.isEmpty=false:=by rw [Bm];exact decide_eq_false h0
  have Ck:¬ s.toList=[]:=fun h=>by rw [h] at cY;cases cY
  have qQ:(((({ data:=#[0] }:ByteArray)[0]).toNat:Nat):Int)=0:=rfl;have HR:=ab (fun w=>KO s w hs)
  have HL:=ab (fun w=>KP (GB s) w)
  generalize KQ (GB s)=t at *;generalize GB s=r at *;go_enter func228,ntmps228;go_wp2_with fail;go_quiet ((first | (go_at_call 245;exact Calls.quiet_of_same (HR.out _)) | (go_at_call 244;exact Calls.quiet_of_same (HL.out _))))
  go_wp2;go_ret;exact ⟨rfl,aA (Below.refl _ _) _⟩
theorem uT:(prog.info? 5).map (·.size)=some 1:=by kernel_rfl
structure bG(rb:Nat)(w w':World):Prop where
 os:w'.os=w.os
 tape:w'.tape=w.tape
 output:w'.output=w.output
 size:w.heap.size≤w'.heap.size
 block:∀ k,k<w.heap.size→k≠rb→w'.heap[k]?=w.heap[k]?
theorem bG.trans{rb:Nat}{a b c:World}(h:bG rb a b)(k:bG rb b c):bG rb a c :=
 ⟨k.os.trans h.os,k.tape.trans h.tape,k.output.trans h.output,ar h.size k.size,fun i hi hn=>(k.block i (aq hi h.size) hn).trans (h.block i hi hn)⟩
theorem bG.set(rb o:Nat)(w:World)(u:Value):bG rb w (w.setCell ⟨rb,o,none⟩ u) :=
 ⟨rfl,rfl,rfl,by simp [World.setCell],fun k _ hn=>Below.heap_setCell w ⟨rb,o,none⟩ u k (fun e=>hn e)⟩
theorem bG.setRow(rb:Nat)(w:World)(cs:Array Value):bG rb w (w.setRow rb cs) :=
 ⟨rfl,rfl,rfl,by simp [World.setRow],fun k _ hn=>setRow_other w rb k cs hn⟩
theorem bG.below{rb:Nat}{w0 w w':World}(h:bG rb w w')(hb:Below w0.heap.size w0 w)(hr:w0.heap.size≤rb):Below w0.heap.size w0 w' :=
 hb.trans ⟨h.os,h.tape,h.output,h.size,fun k hk=>h.block k (aq hk hb.size) (by omega)⟩
def nS(t:TypeId)(w:World)(g:Nat)(l:List UInt8):Prop:=w.heap[g]?=some (.cells (dW l).toArray t (0,0))
theorem nS.cell{t:TypeId}{w:World}{g:Nat}{l:List UInt8}(h:nS t w g l)(j:Nat)(hj:j<l.length):w.cell? ⟨g,j,none⟩=some (.int .u8 (l[j].toNat:Int)):=by
 rw [cell_of_row w g j _ _ _ h];simpa using iC l j hj
theorem qu(l:List UInt8)(o:Nat)(c:List UInt8):splice (dW l) o (dW c)=dW (splice l o c):=by
 simp [splice,dW]
theorem OZ(t:TypeId)(w:World)(l:List UInt8):nS t (w.alloc (.cells (dW l).toArray t)) w.heap.size l:=heap_alloc_new w _
def NI(s:ByteArray):Prop:=∀ j,j<s.size→s.data.toList.getD j 0=0
theorem RW(s:ByteArray)(w:World)(hs:s.size≤140737488355328):Calls prog 190 #[.string s] w fun e w'=>((NI s∧e = .returned (.bool true))∨(¬ NI s∧e = .returned (.bool false)))∧Below w.heap.size w w':=by
 have HT:=ab (OC s w hs);by_cases hz:NI s
 ·have ht:KQ (GB s)=ByteArray.empty:=(De s).2 hz;rw [ht] at HT;have HZ:=ab hz;clear hz ht;go_enter func190,ntmps190;go_wp2_with fail;refine HT.out.mono ?_
  rintro e w' ⟨rfl,hb⟩;go_wp2;go_ret;exact ⟨.inl ⟨HZ.out,rfl⟩,hb⟩
 ·have ht:¬ KQ (GB s)=ByteArray.empty:=fun h=>hz ((De s).1 h)
  have cY:(KQ (GB s)).toList.isEmpty=false:=by rw [Bm];exact decide_eq_false ht
  have HZ:=ab hz;generalize KQ (GB s)=t at *;have Ck:¬ t.toList=[]:=fun h=>by rw [h] at cY;cases cY
  clear hz ht;go_enter func190,ntmps190;go_wp2_with fail;refine HT.out.mono ?_
  rintro e w' ⟨rfl,hb⟩;go_wp2;go_ret;exact ⟨.inr ⟨HZ.out,rfl⟩,hb⟩
def vN(b:List UInt8)(n k:Nat):List Value:=strs ((bX b n).take k)++List.replicate (n - k) (.string ByteArray.empty)
theorem Lb(b:List UInt8)(n:Nat):vN b n 0=List.replicate n (.string ByteArray.empty):=by simp [vN,strs]
theorem O3(b:List UInt8)(n:Nat):vN b n n=strs (bX b n):=by
 unfold vN;rw [ao (by rw [gd];exact aj _),de];simp
theorem DE(b:List UInt8)(n k:Nat)(h:k≤n):(vN b n k).length=n:=by
 simp [vN,strs,gd];omega
theorem O0(b:List UInt8)(n k:Nat)(h:k<n)(hk:k<(bX b n).length):(vN b n k).set k (.string (bX b n)[k])=vN b n (k+1):=by
 unfold vN;rw [b6 _ _ (by rw [j7,ag,gd];omega),ax hk,ow]
 rw [j7,ag,gd,aT (by omega),de,show n - k=(n - (k+1))+1 by omega,List.replicate_succ,List.set_cons_zero]
 simp [strs]
theorem getD_drop(l:List UInt8)(a j:Nat):(l.drop a).getD j 0=l.getD (a+j) 0:=by
 rw [aF,aF,bZ]
theorem RV(s:ByteArray)(a:Nat)(ha:a≤s.size):NI (s.extract a s.size)↔∀ j,a≤j→j<s.size→s.data.toList.getD j 0=0:=by
 have hl:(s.extract a s.size).data.toList=s.data.toList.drop a:=by
  rw [ext_toList,ao (by rw [al,bsize];omega)]
 have b8:(s.extract a s.size).size=s.size - a:=by rw [ByteArray.size_extract];omega
 unfold NI;rw [hl,b8];constructor
 ·intro h j h1 h2;have:=h (j - a) (by omega)
  rw [getD_drop,show a+(j - a)=j by omega] at this
  exact this
 ·intro h j hj;rw [getD_drop];exact h _ (by omega) (by omega)
def Wh(A:Nat→Addr)(c:Int)(s:ByteArray)(w:World)(e:Ending)(w':World):Prop :=
 (0≤c∧Nv s.data.toList c.toNat∧∃ g,e = .returned (.tuple #[.slice (some ⟨g,0,none⟩) c.toNat c.toNat,.nilIface])∧w'.ownsRow w.heap.size 9 1 (.slice (some ⟨g,0,none⟩) c.toNat c.toNat) c.toNat (strs (bX s.data.toList c.toNat))) ∨
  (¬ (0≤c∧Nv s.data.toList c.toNat)∧e = .returned (.tuple #[.slice none 0 0,.iface 360 (.pointer (some (A 1)))]))
theorem Tt(A:Nat→Addr)(n:Nat)(s:ByteArray)(w:World)(hn:n≤2036)(b8:s.size=4072)(hE:dI 4 fe A w):Calls prog 153 #[.int .i64 (n:Int),.string s] w fun e w'=>Wh A n s w e w'∧Below w.heap.size w w':=by
 obtain ⟨i0,hi,nY,mR,pL⟩:=info_parts info9;obtain ⟨w1,nZ,kP,fM⟩:=run_make_full (P:=prog) w w.heap.size 231 9 i0 (.string ByteArray.empty) 1 underlying231 hi nY mR .i64 .i64 n (by rw [pL];omega) (by unfold maxLen;omega) (aj _)
 have aO:Below w.heap.size w w1:=(Below.refl _ _).grown fM (aj _) (fun j hj=>by cases hj)
 rw [Nat.mul_one,show (Value.string ByteArray.empty).cells=#[.string ByteArray.empty] from rfl,toList_madeCells_one] at kP
 have rA:Hid (w1.ownsRow w.heap.size 9 1 (.slice (some ⟨w.heap.size,0,none⟩) n n) n (vN s.data.toList n 0)):=by
  show World.ownsRow _ _ _ _ _ _ _
  rw [Lb];exact kP
 have bT:=ab aO;have HE:=ab hE;have jc:=ab b8;have d1:((s.size:Int) != 4072)=false:=by rw [b8];rfl
 have hnI:(n:Int)≤2036:=by omega
 have A8:¬ (n:Int)<0:=by omega
 have Qy:¬ (2036:Int)<(n:Int):=by omega
 have J4:(0:Int)≤(n:Int):=by omega
 have Hu:IntKind.i64.wrap (2*(n:Int))=((2*n:Nat):Int):=by rw [IntKind.wrap_i64];omega
 obtain ⟨n2,XG⟩ : ∃ n2,n2=2*n:=⟨_,rfl⟩;rw [← XG] at Hu;have FZ:=ab XG;have HLB:Hid (s.data.toList.length=4072):=by show _=_;rw [bsize];exact b8
 obtain ⟨q,hq⟩ : ∃ q,q=w.heap.size:=⟨_,rfl⟩;rw [← hq] at nZ rA;have HQ:=ab hq;clear kP fM aO hE b8 nY mR pL hi XG hq;go_enter func153,ntmps153;go_wp2_with fail;clear nZ;go_loopw [7,28] (fun st i wr=>∃ k:Nat,k≤n∧i = .int .i64 k∧st = .int .i64 ((lu s.data.toList n k:Nat):Int)∧lu s.data.toList n k≤4072∧(∀ i,i<k→lu s.data.toList n i≤lu s.data.toList n (i+1)∧lu s.data.toList n (i+1)≤4072)∧wr.ownsRow q 9 1 (.slice (some ⟨q,0,none⟩) n n) n (vN s.data.toList n k)∧Below w.heap.size w wr) (fun _ i _=>n - (intOf i).toNat)
 case atStart=>exact ⟨0,aB _,rfl,by rw [FZ.out];rfl,by show 2*n≤4072;omega,fun i h=>by omega,rA.out,bT.out⟩
 case round =>
  obtain ⟨k,hk,rfl,rfl,h4,V2,aE,bQ⟩:=hrel;have Wz:=ab V2;clear V2 rA bT FZ;by_cases bO:k<n
  ·have Ae:=ab (OT s k wr (by have:=jc.out;omega) jc.out)
   have hes:lu s.data.toList n (k+1)=Aw s.data.toList k:=rfl;rw [← hes] at Ae;have rz:=ab aE;have kB:=ab bQ;obtain ⟨a,ha⟩ : ∃ a,a=lu s.data.toList n k:=⟨_,rfl⟩;obtain ⟨e,he⟩ : ∃ e,e=lu s.data.toList n (k+1):=⟨_,rfl⟩;rw [← ha] at h4 ⊢;rw [← he] at Ae;have HA:Hid (a=lu s.data.toList n k∧e=lu s.data.toList n (k+1)):=⟨ha,he⟩;have c1:=aE.cellAt k (by omega)
   rw [af (by rw [DE _ _ _ hk];exact bO)] at c1
   have dE:(k:Int)<(n:Int):=by omega
   clear ha he aE hes bQ;by_cases hbad:e<a
   ·have abQ:(e:Int)<(a:Int):=by omega
    have HV:Hid (¬ (0≤(n:Int)∧Nv s.data.toList (n:Int).toNat)):=fun h=>by
     have:=(h.2.2.1 k bO).1;rw [bt,← HA.out.1,← HA.out.2] at this;omega
    clear c1;go_wp2_with fail;refine Ae.out.mono ?_
    rintro e' w2 ⟨rfl,aV⟩;have c0:w2.cell? ⟨1,0,none⟩=some (.iface 360 (.pointer (some (A 1)))):=((dI.keep HE.out (Below.next kB.out aV)).1 1 (by decide)).1
    have bL:=ab (Below.next kB.out aV);clear aV;go_wp2;go_quiet (fail)
    go_wp2;go_ret2;exact ⟨.inr ⟨HV.out,rfl⟩,aA bL.out _⟩
   ·have abQ:¬ (e:Int)<(a:Int):=by omega
    by_cases fY:4072<e
    ·have abM:(s.size:Int)<(e:Int):=by have:=jc.out;omega
     have HV:Hid (¬ (0≤(n:Int)∧Nv s.data.toList (n:Int).toNat)):=fun h=>by
      have:=(h.2.2.1 k bO).2;rw [bt,← HA.out.2] at this;omega
     clear c1;go_wp2_with fail;refine Ae.out.mono ?_
     rintro e' w2 ⟨rfl,aV⟩;have c0:w2.cell? ⟨1,0,none⟩=some (.iface 360 (.pointer (some (A 1)))):=((dI.keep HE.out (Below.next kB.out aV)).1 1 (by decide)).1
     have bL:=ab (Below.next kB.out aV);clear aV;go_wp2;go_quiet (fail)
     go_wp2;go_ret2;exact ⟨.inr ⟨HV.out,rfl⟩,aA bL.out _⟩
    ·have abM:¬ (s.size:Int)<(e:Int):=by have:=jc.out;omega
     have s1:(a:Int)≤(e:Int):=by omega
     have s2:(e:Int)≤(s.size:Int):=by omega
     have s3:(0:Int)≤(a:Int):=by omega
     have s4:a≤e:=by omega
     have s5:e≤s.size:=by omega
     have Gf:k<(bX s.data.toList n).length:=by rw [gd];exact bO
     have HC:Hid (s.extract a e=(bX s.data.toList n)[k]):=by
      refine uD ?_
      rw [ext_toList,nz,HA.out.1,HA.out.2];rfl
     have N7:=ab (O0 s.data.toList n k bO Gf);clear c1;go_wp2_with fail;refine Ae.out.mono ?_
     rintro e' w2 ⟨rfl,aV⟩;have me:=rz.out;have Ui:w2.ownsRow q 9 1 (.slice (some ⟨q,0,none⟩) n n) n (vN s.data.toList n k):=by
      refine ⟨me.1,?_⟩;rcases me.2 with h' | ⟨g',cap,cur,hv,n9,hg,CQ,sA,fI,lE⟩
      ·exact .inl h'
      ·have hl:g'<wr.heap.size:=by
        rcases a6 g' wr.heap.size with h' | h'
        ·exact h'
        ·rw [aZ h'] at hg;cases hg
       exact .inr ⟨g',cap,cur,hv,n9,(aV.block g' hl).trans hg,CQ,sA,fI,lE⟩
     have c1:=Ui.cellAt k (by omega)
     rw [af (by rw [DE _ _ _ hk];exact bO)] at c1
     have z1:=Ui.frozenAt k;have eZ:=(Ui.stored k (.string (s.extract a e))).1;rw [HC.out,N7.out] at eZ;rw [← HC.out] at eZ;have gy:=ab eZ;have bL:Hid (Below w.heap.size w (w2.setCell ⟨q,k,none⟩ (.string (s.extract a e)))):=(Below.next kB.out aV).setCell (by show w.heap.size≤q;rw [HQ.out];exact aj _) _
     clear aV me Ui eZ;go_wp2;go_roundw
     case rel =>
      refine ⟨k+1,by omega,by go_num,by rw [← HA.out.2],by rw [← HA.out.2];omega,fun i hi=>?_,gy.out,bL.out⟩
      by_cases SH:i=k
      ·subst SH;rw [← HA.out.1,← HA.out.2];omega
      ·exact Wz.out i (by omega)
     case measure=>simp [intOf];omega
  ·have nG:k=n:=by omega
   have dE:¬ (k:Int)<(n:Int):=by omega
   subst nG;obtain ⟨a,ha⟩ : ∃ a,a=lu s.data.toList k k:=⟨_,rfl⟩;rw [← ha] at h4 ⊢;have s1:(a:Int)≤(s.size:Int):=by have:=jc.out;omega
   have s2:(0:Int)≤(a:Int):=by omega
   have HZ:=ab (RW (s.extract a s.size) wr (by rw [ByteArray.size_extract];have:=jc.out;omega))
   have HX:=ab (RV s a (by omega))
   have HAE:=ab ha;have rz:=ab aE;have kB:=ab bQ;clear ha aE bQ;by_cases hz:NI (s.extract a s.size)
   ·have od:Hid (Nv s.data.toList k):=⟨⟨hn,HLB.out⟩,Wz.out,fun j h1 h2=>HX.out.1 hz j (by rw [HAE.out];exact h1) (by rw [jc.out];exact h2)⟩
    have HZ2:Hid (Calls prog 190 #[.string (s.extract a s.size)] wr fun e w'=>e = .returned (.bool true)∧Below wr.heap.size wr w'):=by
     refine HZ.out.mono ?_
     rintro e w' ⟨h | h,hb⟩
     ·exact ⟨h.2,hb⟩
     ·exact absurd hz h.1
    clear HZ hz HX;go_wp2_with fail;refine HZ2.out.mono ?_
    rintro e w2 ⟨rfl,aV⟩;have me:=rz.out;have jx:Hid (w2.ownsRow w.heap.size 9 1 (.slice (some ⟨q,0,none⟩) k k) k (strs (bX s.data.toList k))):=by
     rw [O3,HQ.out] at me;show World.ownsRow _ _ _ _ _ _ _
     rw [HQ.out];refine ⟨me.1,?_⟩;rcases me.2 with h' | ⟨g',cap,cur,hv,n9,hg,CQ,sA,fI,lE⟩
     ·exact .inl h'
     ·have hl:g'<wr.heap.size:=by
       rcases a6 g' wr.heap.size with h' | h'
       ·exact h'
       ·rw [aZ h'] at hg;cases hg
      exact .inr ⟨g',cap,cur,hv,n9,(aV.block g' hl).trans hg,CQ,sA,fI,lE⟩
    have bL:=ab (Below.next kB.out aV);clear me aV;go_wp2;go_ret2;exact ⟨.inl ⟨J4,od.out,q,rfl,jx.out⟩,bL.out⟩
   ·have HV:Hid (¬ (0≤(k:Int)∧Nv s.data.toList (k:Int).toNat)):=fun h=>hz (HX.out.2 (fun j h1 h2=>h.2.2.2 j (by rw [bt,← HAE.out];exact h1) (by rw [← jc.out];exact h2)))
    have HZ2:Hid (Calls prog 190 #[.string (s.extract a s.size)] wr fun e w'=>e = .returned (.bool false)∧Below wr.heap.size wr w'):=by
     refine HZ.out.mono ?_
     rintro e w' ⟨h | h,hb⟩
     ·exact absurd h.1 hz
     ·exact ⟨h.2,hb⟩
    clear HZ hz HX;go_wp2_with fail;refine HZ2.out.mono ?_
    rintro e w2 ⟨rfl,aV⟩;have c0:w2.cell? ⟨1,0,none⟩=some (.iface 360 (.pointer (some (A 1)))):=((dI.keep HE.out (Below.next kB.out aV)).1 1 (by decide)).1
    have bL:=ab (Below.next kB.out aV);clear aV;go_wp2;go_quiet (fail)
    go_wp2;go_ret2;exact ⟨.inr ⟨HV.out,rfl⟩,aA bL.out _⟩
theorem mm(A:Nat→Addr)(c:Int)(s:ByteArray)(w:World)(hE:dI 4 fe A w):Calls prog 153 #[.int .i64 c,.string s] w fun e w'=>Wh A c s w e w'∧Below w.heap.size w w':=by
 by_cases h:(0≤c∧c≤2036)∧s.size=4072
 ·obtain ⟨n,rfl⟩:=cB h.1.1;exact Tt A n s w (by omega) h.2 hE
 ·have HV:Hid (¬ (0≤c∧Nv s.data.toList c.toNat)):=fun hh=>h ⟨⟨hh.1,by have:=hh.2.1.1;omega⟩,by have:=hh.2.1.2;rw [bsize] at this;exact this⟩
  have c0:w.cell? ⟨1,0,none⟩=some (.iface 360 (.pointer (some (A 1)))):=(hE.1 1 (by decide)).1
  clear hE;by_cases h1:c<0
  ·clear h;go_enter func153,ntmps153;go_wp2;go_quiet (fail)
   go_wp2;go_ret2;exact ⟨.inr ⟨HV.out,rfl⟩,aA (Below.refl _ _) _⟩
  ·by_cases h2:2036<c
   ·clear h;go_enter func153,ntmps153;go_wp2;go_quiet (fail)
    go_wp2;go_ret2;exact ⟨.inr ⟨HV.out,rfl⟩,aA (Below.refl _ _) _⟩
   ·have d1:((s.size:Int) != 4072)=true:=by
     rw [bne_iff_ne];intro he;exact h ⟨⟨by omega,by omega⟩,by omega⟩
    clear h;go_enter func153,ntmps153;go_wp2;go_quiet (fail)
    go_wp2;go_ret2;exact ⟨.inr ⟨HV.out,rfl⟩,aA (Below.refl _ _) _⟩
def uA(L:List Pr)(k:Nat):List Value:=iH (L.take k)++List.replicate ((L.length - k)*2) (.string ByteArray.empty)
theorem Rn(L:List Pr)(k:Nat)(h:k≤L.length):(uA L k).length=L.length*2:=by
 unfold uA;rw [ae,eK,ag,bB];omega
theorem Rm(L:List Pr)(k:Nat)(h:k<L.length):((uA L k).set (k*2) (.string L[k].1)).set (k*2+1) (.string L[k].2)=uA L (k+1):=by
 have hl:(iH (L.take k)).length=k*2:=by rw [eK,ag];omega
 unfold uA;rw [b6 _ _ (by omega),hl,de,show (L.length - k)*2=(L.length - (k+1))*2+1+1 by omega,List.replicate_succ,List.replicate_succ,List.set_cons_zero]
 rw [b6 _ _ (by omega),hl,show k*2+1 - k*2=1 by omega,List.set_cons_succ,List.set_cons_zero,ax h,xJ,ay]
 rfl
theorem MW(L:List Pr):uA L 0=List.replicate (L.length*2) (.string ByteArray.empty):=by simp [uA,iH]
theorem Ro(L:List Pr):uA L L.length=iH L:=by simp [uA]
theorem PN(z:Value)(n:Nat):(madeCells #[z,z] n).toList=List.replicate n z:=by
 apply lC
 intro j;by_cases hj:j<n
 ·rcases bY j with h | h <;> simp [madeCells,hj,h]
 ·simp [madeCells,hj]
theorem G6{w w':World}{base e n:Nat}{v:Value}{xs:List Value}(h:w.ownsRow base e 2 v n xs)(hb:Below w.heap.size w w'):w'.ownsRow base e 2 v n xs:=by
 refine ⟨h.1,?_⟩;rcases h.2 with h' | ⟨g,cap,cur,h',h1,h2,hr⟩
 ·exact .inl h'
 ·refine .inr ⟨g,cap,cur,h',h1,?_,hr⟩;have hg:g<w.heap.size:=by
   rcases a6 g w.heap.size with h' | h'
   ·exact h'
   ·rw [aZ h'] at h2;cases h2
  rw [hb.block g hg];exact h2
def ada(A:Nat→Addr)(c:Int)(s:ByteArray)(base:Nat)(e:Ending)(w:World):Prop :=
 (0≤c∧lV c.toNat s.data.toList∧∃ u,e = .returned (.tuple #[u,.nilIface])∧fJ w base u (Ab c.toNat s.data.toList)) ∨
  (¬ (0≤c∧lV c.toNat s.data.toList)∧e = .returned (.tuple #[.slice none 0 0,.iface 360 (.pointer (some (A 1)))]))
theorem yh(A:Nat→Addr)(c:Int)(s:ByteArray)(w:World)(hE:jC A w):Calls prog 114 #[.int .i64 c,.string s] w fun e w'=>ada A c s w.heap.size e w'∧Below w.heap.size w w':=by
 have Nx:=ab (mm A c s w hE.1);have HE:=ab hE;obtain ⟨i0,hi,hz,b8,kQ⟩:=info_parts JY;clear hE;obtain ⟨Q,hQ⟩ : ∃ Q:Ending→World→Prop,Q=fun e w'=>ada A c s w.heap.size e w'∧Below w.heap.size w w':=⟨_,rfl⟩
 rw [← hQ];have HQ:=ab hQ;clear hQ;go_enter func114,ntmps114;go_wp2_with fail;refine Nx.out.mono ?_
 rintro e w1 ⟨⟨qQ,cM,g,rfl,aE⟩ | ⟨fl,rfl⟩,aO⟩
 ·obtain ⟨n,rfl⟩:=cB qQ;simp only [bt] at cM aE ⊢;have hn:=cM.1.1;obtain ⟨B,hB⟩ : ∃ B,B=s.data.toList:=⟨_,rfl⟩;obtain ⟨CB,hCB⟩ : ∃ CB,CB=bX B n:=⟨_,rfl⟩;have hCl:CB.length=n:=by rw [hCB,gd]
  rw [← hB] at cM aE;rw [← hCB] at aE;have ab3:∀ x ∈ CB,x.size≤4072:=fun x hx=>by
   rw [hCB] at hx;obtain ⟨j,hj,rfl⟩:=aK hx;rw [gd] at hj;rw [← bsize,nz,M8 cM j hj];have:=Kf cM (j+1) (by omega)
   omega
  have QX:(CB.map dz).length=n:=by rw [az,hCl]
  obtain ⟨wm,nZ,fR,qm⟩:=run_make_full (P:=prog) w1 w1.heap.size 63 52 i0 _ 2 underlying63 hi hz b8 .i64 .i64 n (by rw [kQ];omega) (by unfold maxLen;omega) (aj _)
  have nY:(madeCells (Value.agg #[.string ByteArray.empty,.string ByteArray.empty]).cells (n*2)).toList=uA (CB.map dz) 0:=by
   rw [MW,QX];exact PN _ _
  rw [nY] at fR;have CU:Below w1.heap.size w1 wm:=(Below.refl _ _).grown qm (aj _) (fun j hj=>by cases hj)
  obtain ⟨b,hb⟩ : ∃ b,b=w1.heap.size:=⟨_,rfl⟩;rw [← hb] at nZ fR;have HB:=ab hb;have HO:=ab fR;have Kv:=ab CU;have bT:=ab aO;have Wk:=ab (fV aE).strs;have od:=ab cM;have tj:=ab hCl;have Gp:=ab ab3;have kR:=ab QX;have WD:=ab hCB;have mU:=ab hB;clear hb fR CU qm hi hz b8 kQ nY aO Nx aE cM hCl ab3 QX hCB hB qQ;go_wp2;clear nZ;go_loopw [27] (fun i wr=>∃ k:Nat,k≤n∧i = .int .i64 k∧wr.ownsRow b 52 2 (.slice (some ⟨b,0,none⟩) n n) n (uA (CB.map dz) k)∧(∀ j (h:j<CB.length),j<k→F9 CB[j]=true)∧Below w1.heap.size w1 wr) (fun i _=>n - (intOf i).toNat)
  case atStart=>exact ⟨0,aB _,rfl,HO.out,fun j _ h=>absurd h (iz _),Kv.out⟩
  case round =>
   obtain ⟨k,hk,rfl,aE,js,bQ⟩:=hrel;clear HO Kv;have HP:=ab js;clear js;by_cases bO:k<n
   ·have cZ:k<CB.length:=by have:=tj.out;omega
    have hkL:k<(CB.map dz).length:=by rw [kR.out];exact bO
    have Sx:=Wk.out.below bQ;obtain ⟨ta,tc,hte,_,uf⟩:=Sx;obtain ⟨g',o',ha,f1⟩:=uf k cZ;simp only [Value.slice.injEq] at hte;obtain ⟨rfl,-⟩:=hte;simp only [Option.some.injEq,Addr.mk.injEq,and_true] at ha;obtain ⟨rfl,rfl⟩:=ha;rw [Nat.zero_add] at f1;have SU:=ab (fun W=>G0 CB[k] W (Gp.out _ (aJ _)))
    have iB:Hid (((uA (CB.map dz) k).set (k*2) (.string (dz CB[k]).1)).set (k*2+1) (.string (dz CB[k]).2)=uA (CB.map dz) (k+1)):=by
     have:=Rm (CB.map dz) k hkL;simp only [ch] at this;exact this
    have nU:Hid (F9 CB[k]=true→∀ j (h:j<CB.length),j<k+1→F9 CB[j]=true):=fun hl j h hj=>by
     by_cases he:j=k
     ·subst he;exact hl
     ·exact HP.out j h (by omega)
    have kK:Hid (F9 CB[k]=false→¬ (0≤(n:Int)∧lV (n:Int).toNat s.data.toList)):=fun hl hd=>by
     have:=hd.2.2.1;rw [← mU.out,bt,← WD.out] at this;have h2:=this CB[k] (aJ _);rw [hl] at h2;cases h2
    obtain ⟨ck,kV⟩ : ∃ ck,ck=CB[k]:=⟨_,rfl⟩;rw [← kV] at f1 SU iB nU kK;have kB:=ab bQ;have rz:=ab aE;have iq:=ab (Rn (CB.map dz) k (by omega))
    have dE:(k:Int)<(n:Int):=by omega
    have j0:(0:Int)≤(k:Int):=by omega
    clear kV uf bQ aE;go_wp2_with fail;refine (SU.out _).mono ?_
    rintro e w2 ⟨⟨hok1,rfl⟩ | ⟨aa1,x,y,rfl⟩,aV⟩
    ·have p8:=ab (nU.out hok1);obtain ⟨p,hp⟩ : ∃ p,p=dz ck:=⟨_,rfl⟩;rw [← hp] at iB ⊢;have fc:=ai w2 (.cells #[.string p.1,.string p.2] 52);have jf:=G6 rz.out (Below.next aV fc);have hq:∀ j,j<n*2→∃ u,(w2.alloc (.cells #[.string p.1,.string p.2] 52)).cell? ⟨b,j,none⟩=some u:=fun j hj=>by
      rw [World.ownsRow.cellAt jf j hj];exact ⟨_,af (by rw [iq.out,kR.out];exact hj)⟩
     obtain ⟨u1,q1⟩:=hq (k*2) (by omega)
     obtain ⟨u2,q2⟩:=hq (k*2+1) (by omega)
     have z1:=World.ownsRow.frozenAt jf (k*2);have z2:=World.ownsRow.frozenAt jf (k*2+1);have eZ:=(World.ownsRow.stored (World.ownsRow.stored jf (k*2) (.string p.1)).1 (k*2+1) (.string p.2)).1;rw [iB.out] at eZ;have jx:=ab eZ;have Cn:w1.heap.size≤b:=by rw [HB.out];exact aj _
     have bL:Hid (Below w1.heap.size w1 (((w2.alloc (.cells #[.string p.1,.string p.2] 52)).setCell ⟨b,k*2,none⟩ (.string p.1)).setCell ⟨b,k*2+1,none⟩ (.string p.2))):=((Below.next kB.out (Below.next aV fc)).setCell Cn _).setCell Cn _;clear hp aV fc jf hq eZ iB rz kB SU nU kK hok1 f1;go_wp2;go_roundw
     case rel=>exact ⟨k+1,by omega,by go_num,jx.out,p8.out,bL.out⟩
     case measure=>simp [intOf];omega
    ·have Si:=ab (kK.out aa1);have fc:=ai w2 (.cells #[.string x,.string y] 52);have bL:=ab (Below.next bT.out (Below.next kB.out (Below.next aV fc)));have k1:(w2.alloc (.cells #[.string x,.string y] 52)).cell? ⟨1,0,none⟩=some (.iface 360 (.pointer (some (A 1)))):=((HE.out.below bL.out).1.1 1 (by decide)).1
     clear aV fc iB rz kB SU nU kK aa1 f1;go_wp2;go_quiet (fail)
     go_wp2;rw [HQ.out];exact ⟨.inr ⟨Si.out,rfl⟩,aA bL.out _⟩
   ·have nG:k=n:=by omega
    rw [nG,← kR.out,Ro,kR.out] at aE;have Xz:fJ wr b (.slice (some ⟨b,0,none⟩) n n) (CB.map dz):=by unfold fJ;rw [kR.out];exact aE
    have aaV:SQ (CB.map dz):=fun p hp=>by
     obtain ⟨c0,qQ,rfl⟩:=List.mem_map.1 hp;have:=Gp.out c0 qQ;have h1:=JE c0;have h2:=JD c0;have h3:=(pK c0.data.toList).1;omega
    have C3:=ab (Below.next bT.out bQ);have nM:=ab (nj A _ (CB.map dz) true wr aaV (by rw [kR.out];omega) Xz.at (HE.out.below C3.out))
    have SU:=ab (Xz.mono (show w.heap.size≤b by rw [HB.out];exact bT.out.size))
    have I2:Hid (∀ x ∈ CB,F9 x=true):=fun x hx=>by
     obtain ⟨j,hj,rfl⟩:=aK hx;exact HP.out j hj (by have:=tj.out;omega)
    have dE:¬ (k:Int)<(n:Int):=by omega
    have HDL:Hid (Ab (n:Int).toNat s.data.toList=CB.map dz):=by show _=_;rw [bt,← mU.out,WD.out];rfl
    have HDO:Hid (lV (n:Int).toNat s.data.toList↔wL (CB.map dz) true=none):=by
     show _↔_
     rw [bt,← mU.out];unfold lV;rw [← WD.out];exact ⟨fun h=>h.2.2,fun h=>⟨od.out,I2.out,h⟩⟩
    clear aE bQ Xz aaV HP Wk nG;cases kV:wL (CB.map dz) true with
    | none =>
     rw [kV] at nM;have HD:=ab (HDO.out.2 kV);clear kV;go_wp2_with fail;refine nM.out.mono ?_
     rintro e w3 ⟨rfl,bW⟩;have rl:=ab (SU.out.below bW);have eH:=ab (Below.next C3.out bW);clear bW nM SU C3;unfold im;go_wp2;rw [HQ.out];exact ⟨.inl ⟨by omega,HD.out,_,rfl,by rw [HDL.out];exact rl.out⟩,eH.out⟩
    | some m =>
     rw [kV] at nM;have HD:Hid (¬ (0≤(n:Int)∧lV (n:Int).toNat s.data.toList)):=fun h=>by
      have:=HDO.out.1 h.2;rw [kV] at this;cases this
     have EV:=fun W=>eY (some (A m)) W
     clear kV;go_wp2_with fail;refine nM.out.mono ?_
     rintro e w3 ⟨rfl,bW⟩;have eH:=ab (Below.next C3.out bW);have k1:w3.cell? ⟨1,0,none⟩=some (.iface 360 (.pointer (some (A 1)))):=((HE.out.below eH.out).1.1 1 (by decide)).1
     clear bW nM SU C3;unfold im;go_wp2;go_quiet (fail)
     go_wp2;rw [HQ.out];exact ⟨.inr ⟨HD.out,rfl⟩,aA eH.out _⟩
 ·have kK:Hid (¬ (0≤c∧lV c.toNat s.data.toList)):=fun h=>fl ⟨h.1,h.2.1⟩
  have bT:=ab aO;have k1:w1.cell? ⟨1,0,none⟩=some (.iface 360 (.pointer (some (A 1)))):=((HE.out.below aO).1.1 1 (by decide)).1
  have EV:=fun W=>eY (some (A 1)) W
  clear aO fl Nx hi hz b8 kQ;go_wp2;go_quiet (fail)
  go_wp2;rw [HQ.out];exact ⟨.inr ⟨kK.out,rfl⟩,aA bT.out _⟩
namespace B
def ko(n:Nat):ByteArray:=⟨(bN n 4).toArray⟩
def mE(p:Lk):ByteArray:=⟨([UInt8.ofNat p.1.size]++(p.1.data.toList++bN p.2.toNat 4)).toArray⟩
theorem q9(n:Nat):(ko n).data.toList=bN n 4:=by simp [ko]
theorem jT(p:Lk):(mE p).data.toList=[UInt8.ofNat p.1.size]++(p.1.data.toList++bN p.2.toNat 4):=by simp [mE]
theorem qZ(n:Nat):(ko n).size=4:=by rw [← bsize,q9,eE n 4 (by decide)]
theorem yQ(p:Lk):(mE p).size=5+p.1.size:=by
 rw [← bsize,jT,ae,ae,eE _ 4 (by decide),bsize];simp;omega
def dA(f:Int)(l:List Lk):List ByteArray:=ko f.toNat::l.map mE
theorem ny(f:Int)(l:List Lk):(dA f l).length=l.length+1:=by simp [dA]
theorem Iu(L:List ByteArray):(dZ L L.length)=L.flatMap (fun c=>c.data.toList):=by
 unfold dZ;rw [ao (aj _)]
theorem Fb:∀ l:List Lk,((l.map mE).flatMap (fun c=>c.data.toList)).length+2*l.length+6=jy l
 | []=>by simp [jy]
 | p::l=>by
  have:=Fb l;rw [List.map_cons,List.flatMap_cons,ae,bsize,yQ,oq,List.length_cons];unfold zn;omega
theorem ox(f:Int)(l:List Lk):dS (dA f l)=jy l:=by
 have h:=Fb l;unfold dS fA;rw [ny,show (l.length+1)=(dA f l).length from (ny f l).symm,Iu]
 unfold dA;rw [List.flatMap_cons,ae,bsize,qZ,List.length_cons,az];omega
def pZ(f:Int)(l:List Lk):ByteArray:=⟨(jA (dA f l)).toArray⟩
theorem Fx(f:Int)(l:List Lk)(k:Nat)(h:k<l.length):dA f (l.take (k+1))=dA f (l.take k)++[mE l[k]]:=by
 unfold dA;rw [ax h,bz];rfl
end B
theorem Ar(l:List UInt8)(k:Nat)(h:k<l.length):l.take (k+1)=l.take k++[l[k]]:=ax h
def ey(l:List UInt8):Nat:=l.foldl (fun n c=>n*256+c.toNat) 0
theorem rf(l:List UInt8)(c:UInt8):ey (l++[c])=ey l*256+c.toNat:=by simp [ey,List.foldl_append]
theorem yV(l:List UInt8):ey l<256 ^ l.length:=by
 have:∀ (l:List UInt8) (n k:Nat),n<256 ^ k→l.foldl (fun n c=>n*256+c.toNat) n<256 ^ (k+l.length):=by
  intro l;induction l with
  | nil=>intro n k h;simpa using h
  | cons c r ih =>
   intro n k h;have hc:=UInt8.toNat_lt c;have:=ih (n*256+c.toNat) (k+1) (by rw [Nat.pow_succ];omega)
   simp only [List.foldl_cons,List.length_cons];rwa [show k+(r.length+1)=k+1+r.length by omega]
 have h:=this l 0 0 (by decide)
 rwa [Nat.zero_add] at h
def jL(l:List UInt8):List UInt8:=List.replicate (8 - l.length) 0++l
theorem G3(l:List UInt8)(h:l.length≤8):(jL l).length=8:=by simp [jL];omega
theorem CD(l:List UInt8):ey (jL l)=ey l:=by
 have:∀ k,(List.replicate k (0:UInt8)).foldl (fun n c=>n*256+c.toNat) 0=0:=by
  intro k;induction k with
  | zero=>rfl
  | succ k ih=>rw [List.replicate_succ,List.foldl_cons];exact ih
 unfold ey jL;rw [gx,this]
theorem UR(g o cap:Nat)(l:List UInt8)(w:World)(hg:g<w.heap.size)(hc:∀ j (h:j<l.length),w.cell? ⟨g,o+j,none⟩=some (.int .u8 (l[j].toNat:Int)))(h8:l.length≤8):∃ w2,(Builtin.copy_ #[145,145] 3 #[.slice (some ⟨w.heap.size,8 - l.length,none⟩) l.length l.length,.slice (some ⟨g,o,none⟩) l.length cap]).run prog (w.alloc (.cells #[.int .u8 0,.int .u8 0,.int .u8 0,.int .u8 0,.int .u8 0,.int .u8 0,.int .u8 0,.int .u8 0] 328)) = .ok (goInt l.length) w2∧Below w.heap.size w w2∧∀ j (h:j<(jL l).length),w2.cell? ⟨w.heap.size,j,none⟩=some (.int .u8 ((jL l)[j].toNat:Int)):=by
 have mw:=heap_alloc_new w (.cells #[.int .u8 0,.int .u8 0,.int .u8 0,.int .u8 0,.int .u8 0,.int .u8 0,.int .u8 0,.int .u8 0] 328);have bw:=run_copy_row (P:=prog) (w.alloc (.cells #[.int .u8 0,.int .u8 0,.int .u8 0,.int .u8 0,.int .u8 0,.int .u8 0,.int .u8 0,.int .u8 0] 328)) 145 145 3 5 w.heap.size (8 - l.length) l.length l.length ⟨g,o,none⟩ l.length cap _ 328 (dW l) underlying145 uT mw (by rw [a7];exact (Nat.min_self _).symm)
  (fun j v hv=>by
   by_cases hj:j<l.length
   ·rw [iC l j hj] at hv;cases hv;rw [show (⟨g,o,none⟩ : Addr).add j=⟨g,o+j,none⟩ by simp [Addr.add]]
    rw [(ai w _).cell (p:=⟨g,o+j,none⟩) hg];exact hc j hj
   ·rw [bu (by rw [a7];omega)] at hv;cases hv)
  (by rw [a7];simp;omega) (rC l)
 rw [a7] at bw;have hl:(List.take (8 - l.length) (#[.int .u8 0,.int .u8 0,.int .u8 0,.int .u8 0,.int .u8 0,.int .u8 0,.int .u8 0,.int .u8 0] : Array Value).toList++dW l++List.drop (8 - l.length+l.length) (#[.int .u8 0,.int .u8 0,.int .u8 0,.int .u8 0,.int .u8 0,.int .u8 0,.int .u8 0,.int .u8 0] : Array Value).toList)=dW (jL l):=by
  have hz:(#[.int .u8 0,.int .u8 0,.int .u8 0,.int .u8 0,.int .u8 0,.int .u8 0,.int .u8 0,.int .u8 0] : Array Value).toList=List.replicate 8 (.int .u8 0):=rfl;rw [hz,show 8 - l.length+l.length=8 by omega,List.take_replicate,nK,jL,jJ]
  simp [dW,Nat.min_eq_left (show 8 - l.length≤8 by omega)]
 rw [hl] at bw;refine ⟨_,bw,below_setRow (ai w _) (aj _) _,fun j hj=>?_⟩
 have bH:=setRow_heap _ w.heap.size _ (dW (jL l)).toArray 328 _ mw;rw [cell_of_row _ w.heap.size j _ 328 _ bH];simpa using iC (jL l) j hj
theorem O4{k:IntKind}{a b:Nat}{v:Value}(h:a=b):Ending.returned (.tuple #[.int k (a:Int),v]) = .returned (.tuple #[.int k (b:Int),v]):=by rw [h]
theorem TG(y c:Nat)(hy:y<72057594037927936)(hc:c<256):bits BinOp.or IntKind.u64 ((y:Int)*256) (c:Int)=((y*256+c:Nat):Int):=by
 have h:=u64_or_nat (y*256) c (by omega) (by omega)
 rw [nat_join 8 (y*256) c (by omega) (by simpa using hc)] at h
 rw [← h];rfl
theorem Q2(g o cap:Nat)(l:List UInt8)(w:World)(h1:1≤l.length)(h8:l.length≤8)(hg:g<w.heap.size)(hc:∀ j (h:j<l.length),w.cell? ⟨g,o+j,none⟩=some (.int .u8 (l[j].toNat:Int))):Calls prog 227 #[.slice (some ⟨g,o,none⟩) l.length cap] w fun e w'=>e = .returned (.tuple #[.int .u64 ((ey l:Nat):Int),.nilIface])∧Below w.heap.size w w':=by
 obtain ⟨cs,fI⟩ : ∃ cs,cs=dW l:=⟨_,rfl⟩;obtain ⟨len,hlen⟩ : ∃ len,len=l.length:=⟨_,rfl⟩;rw [← hlen] at h1 h8;have ry:cs.length=len:=by rw [fI,a7,hlen]
 have Gp:Hid (cs=dW l):=fI;have iq:Hid (len=l.length):=hlen;rw [← iq.out];clear fI hlen;have nP:=Ax w.heap.size len h1 h8;go_enter func227,ntmps227;obtain ⟨w2,zr,aV,bq⟩:=UR g o cap l w hg hc (by rw [← iq.out];exact h8)
 rw [← iq.out] at zr;clear hc;have zq:decide ((len:Int)<1)=false:=decide_eq_false (by omega)
 have Ml:decide ((8:Int)<(len:Int))=false:=decide_eq_false (by omega)
 go_wp2_with fail;have Gc:(jL l).length=8:=G3 l (by rw [← iq.out];exact h8)
 have HB:Hid (ey (jL l)=ey l):=CD l;generalize jL l=pl at *;go_loop [5,22] (fun r i=>∃ k y:Nat,k≤8∧i = .int .i64 k∧r = .int .u64 (y:Int)∧y=ey (pl.take k)) (fun _ i=>8 - (intOf i).toNat)
 case atStart=>exact ⟨0,0,by omega,rfl,rfl,rfl⟩
 case round =>
  obtain ⟨k,y,hk,rfl,rfl,Xl⟩:=hrel;have HY:Hid (y=ey (pl.take k)):=Xl;clear Xl;by_cases bO:k<8
  ·have kV:=bq k (by omega)
   obtain ⟨c,NW⟩ : ∃ c:Nat,c=(pl[k]'(by omega)).toNat:=⟨_,rfl⟩
   have V4:c<256:=by rw [NW];exact UInt8.toNat_lt _
   rw [← NW] at kV;have HR:Hid (y*256+c=ey (pl.take (k+1))):=by
    show y*256+c=_
    rw [Ar pl k (by omega),rf,← HY.out,NW]
   have hyb:y<72057594037927936:=by
    rw [HY.out];have h:=yV (pl.take k);rw [ag,aT (by omega)] at h
    exact aq h (ar (mJ (n:=256) (i:=k) (j:=7) (by decide) (by omega)) (by decide))
   have e1:=TG y c hyb V4;clear NW bq nP zr;go_wp2;go_round
   case rel=>exact ⟨k+1,y*256+c,by omega,by go_num,by go_num,HR.out⟩
   case measure=>simp [intOf];omega
  ·have HE:Hid (y=ey l):=by
    show y=_
    rw [HY.out,ao (by omega),HB.out]
   clear bq nP zr;go_wp2;go_ret2;exact ⟨O4 HE.out,aV⟩
theorem Kk(n m:Nat)(hm:m+1≤8):bN n (m+1)=bN (n / 256) m++[UInt8.ofNat n]:=by
 apply l9
 ·rw [ae,eE n _ hm,eE _ m (by omega)];rfl
 ·intro i h1 h2;rw [eE n _ hm] at h1;simp only [bN,cu];rw [yJ];by_cases hi:i<m
  ·rw [aL (by rw [al,mD];omega)]
   simp only [cu];rw [yJ];unfold kF;rw [Nat.div_div_eq_div_mul,show (256:Nat)=2 ^ 8 from rfl,← Nat.pow_add,show 8*(7 - (8 - (m+1)+i))=8+8*(7 - (8 - m+i)) by omega]
  ·have he:i=m:=by omega
   subst he;rw [bA (by rw [al,mD];omega)]
   simp [kF,show 7 - (7 - i+i)=0 by omega]
theorem mF(m:Nat):∀ n,m≤8→n<2 ^ (8*m)→ey (bN n m)=n:=by
 induction m with
 | zero =>
  intro n _ hn;have h0:n=0:=by simpa using hn
  subst h0;decide
 | succ m ih =>
  intro n hm hn;have h1:n / 256<2 ^ (8*m):=by
   rw [show 8*(m+1)=8*m+8 by omega,Nat.pow_add] at hn
   exact Nat.div_lt_of_lt_mul (by rw [Nat.mul_comm];simpa using hn)
  rw [Kk n m hm,rf,ih (n / 256) (by omega) h1]
  simp only [UInt8.toNat_ofNat'];omega
theorem yX(k:Nat):∀ l:List UInt8,l.length=k→k≤8→bN (ey l) k=l:=by
 induction k with
 | zero =>
  intro l hl _;rw [List.length_eq_zero_iff.1 hl];decide
 | succ k ih =>
  intro l hl hk;obtain ⟨r,c,rfl⟩ : ∃ r c,l=r++[c]:=⟨l.dropLast,l.getLast (by intro h;simp [h] at hl),(iA _).symm⟩
  have hr:r.length=k:=by simpa using hl
  have hc:=UInt8.toNat_lt c;rw [rf,Kk _ k hk,show (ey r*256+c.toNat) / 256=ey r by omega,ih r hr (by omega)]
  congr 2
  apply UInt8.toNat_inj.1
  simp only [UInt8.toNat_ofNat'];omega
end Go.Proofs.YtihmgigfkmofnaaGreatDoor
