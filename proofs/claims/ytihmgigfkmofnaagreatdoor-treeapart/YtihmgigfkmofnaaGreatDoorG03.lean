import Derived.Test.YtihmgigfkmofnaaGreatDoorG02
import Derived.Shelf.Spec.SlicesInsertGrow
import Derived.Laws.CopyRow
import Derived.Laws.CopyOwn
set_option maxHeartbeats 4000000
set_option maxRecDepth 100000
open Go.Proofs.Tryz
namespace Go.Proofs.YtihmgigfkmofnaaGreatDoor
theorem kM{X Y Z:List Pr}{key:ByteArray}(hX:∀ p ∈ X,cR p.1 key=true)(hZ:∀ p ∈ Z,cR key p.1=true):aN (X++(Y++Z)) key=X.length+aN Y key:=by
 have iH:=cD Y key;by_cases h:aN Y key<Y.length
 ·refine rN (by simp;omega) (fun j hj=>?_) ?_
  ·by_cases UF:j<X.length
   ·rw [aI UF];exact hX _ (aG UF)
   ·rw [bo (by omega),aI (by omega)]
    exact lF Y key _ (by omega) (by omega)
  ·rw [bo (by omega),aI (by omega)]
   simp only [show X.length+aN Y key - X.length=aN Y key by omega]
   exact rO Y key h
 ·have he:aN Y key=Y.length:=by omega
  have df:∀ j (hj:j<Y.length),cR Y[j].1 key=true:=fun j hj=>lF Y key j (by omega) hj
  rw [he];cases Z with
  | nil =>
   rw [List.append_nil,qy,ae];intro j hj;rw [ae] at hj;by_cases UF:j<X.length
   ·rw [aI UF];exact hX _ (aG UF)
   ·rw [bo (by omega)];exact df _ (by omega)
  | cons z Z =>
   refine rN (by simp) (fun j hj=>?_) ?_
   ·by_cases UF:j<X.length
    ·rw [aI UF];exact hX _ (aG UF)
    ·rw [bo (by omega),aI (by omega)];exact df _ (by omega)
   ·rw [bo (by omega),bo (by omega)]
    simp only [show X.length+Y.length - X.length - Y.length=0 by omega,List.getElem_cons_zero]
    exact mc (hZ z dj)
theorem Qw{X Y Z:List Pr}{n:Nat}(h:n<Y.length):(X++(Y++Z))[X.length+n]?=Y[n]?:=by
 rw [a6 (by omega),show X.length+n - X.length=n by omega,bA h]
theorem mV{X Y Z:List Pr}{key:ByteArray}(hX:∀ p ∈ X,cR p.1 key=true)(hZ:∀ p ∈ Z,cR key p.1=true):bf (X++(Y++Z)) key=bf Y key:=by
 have iH:=cD Y key;unfold bf;rw [kM hX hZ];by_cases h:aN Y key<Y.length
 ·rw [Qw h]
 ·have he:aN Y key=Y.length:=by omega
  rw [he,a6 (by omega),show X.length+Y.length - X.length=Y.length by omega,a6 (by omega),dL]
  rw [bD (aj Y.length)];cases Z with
  | nil=>rfl
  | cons z Z =>
   have:=hZ z dj;simp only [List.getElem?_cons_zero,decide_eq_false_iff_not];intro e;rw [e,mR] at this;cases this
theorem uE{X Y Z:List Pr}{key:ByteArray}(hX:∀ p ∈ X,cR p.1 key=true)(hZ:∀ p ∈ Z,cR key p.1=true):de (X++(Y++Z)) key=X.length+de Y key:=by
 unfold de;rw [mV hX hZ,kM hX hZ];split <;> omega
theorem Cy{X Y Z:List Pr}{n:Nat}(h:n≤Y.length):(X++(Y++Z)).take (X.length+n)=X++Y.take n:=by
 rw [List.take_append,al (by omega),show X.length+n - X.length=n by omega,aF h]
theorem Ev{X Y Z:List Pr}{n:Nat}(h:n≤Y.length):(X++(Y++Z)).drop (X.length+n)=Y.drop n++Z:=by
 rw [List.drop_append,List.drop_of_length_le (by omega),show X.length+n - X.length=n by omega,ic h,List.nil_append]
theorem NF{X Y Z:List Pr}{key value:ByteArray}(hX:∀ p ∈ X,cR p.1 key=true)(hZ:∀ p ∈ Z,cR key p.1=true):fl (X++(Y++Z)) key value=X++(fl Y key value++Z):=by
 unfold fl;rw [kM hX hZ,uE hX hZ,Cy (cD _ _),Ev (jJ _ _)];simp
theorem LK{X Y Z:List Pr}{key:ByteArray}(hX:∀ p ∈ X,cR p.1 key=true)(hZ:∀ p ∈ Z,cR key p.1=true):fQ (X++(Y++Z)) key=X++(fQ Y key++Z):=by
 unfold fQ;rw [kM hX hZ,uE hX hZ,Cy (cD _ _),Ev (jJ _ _)];simp
theorem Cz(l:List Pr)(k:Nat):fR (l.drop k)≤fR l:=by
 have h:fR l=fR (l.take k)+fR (l.drop k):=by rw [← iB,aH]
 omega
theorem zE(l:List Pr){n m:Nat}(h:n≤m):fR (l.take n)+fR (l.drop m)≤fR l:=by
 have h1:fR l=fR (l.take n)+fR (l.drop n):=by rw [← iB,aH]
 have h2:l.drop m=(l.drop n).drop (m - n):=by rw [List.drop_drop];congr 1;omega
 rw [h2];have:=Cz (l.drop n) (m - n);omega
theorem G8{l:List Pr}{key:ByteArray}(hr:gP l):gP (fQ l key):=by
 refine tP (hr.take _) (hr.drop _) (fun p hp q hq=>?_)
 obtain ⟨i,hi,rfl⟩:=aQ hp;obtain ⟨j,hj,rfl⟩:=aQ hq;rw [ag] at hi;rw [ao] at hj;have:=eN l key;simp only [bK,cW];exact hr.lt i _ (by omega) (by omega)
theorem vB{key value:ByteArray}(hm:cO (key,value)=true):Fit key (fun l=>fl l key value) where
 loc:=fun _ _ _ hX hZ=>NF hX hZ
 rise:=fun _ h=>ND h
 mem:=fun l p hp=>by
  unfold fl at hp;rcases List.mem_append.1 hp with h | h
  ·exact .inl (bF h)
  ·rcases List.mem_cons.1 h with rfl | h
   ·exact .inr ⟨rfl,hm⟩
   ·exact .inl (bG h)
 size:=fun l=>by
  unfold fl;rw [iB,nV];have h1:=zE l (eN l key);have h2:=eL hm;unfold zD;simp only at h2 ⊢;omega
theorem fit_drop(key:ByteArray):Fit key (fun l=>fQ l key) where
 loc:=fun _ _ _ hX hZ=>LK hX hZ
 rise:=fun _ h=>G8 h
 mem:=fun l p hp=>by
  unfold fQ at hp;rcases List.mem_append.1 hp with h | h
  ·exact .inl (bF h)
  ·exact .inl (bG h)
 size:=fun l=>by
  unfold fQ;rw [iB];have h1:=zE l (eN l key);omega
abbrev ch:=Option ((h:Nat) × Nd h)
def aB:ch→List Pr
 | none=>[]
 | some r=>flat r.1 r.2
def vZ:(h:Nat)→Nd h→Prop
 | 0,t=>t.2≠[]
 | _+1,t=>t.2.1≠[]
def eP:ch→Prop
 | none=>True
 | some r=>Ok r.1 r.2 none none∧np r.1 r.2≤4072∧vZ r.1 r.2
def tw(h:Nat)(t:Nd h)(r:ch):Prop :=
 (Ma h t∧∃ a k b,Cut h t a k b∧r=some ⟨h+1,(0,[k],[a,b])⟩) ∨
 (¬ Ma h t∧vZ h t∧r=some ⟨h,t⟩) ∨
 (¬ Ma h t∧¬ vZ h t∧match h,t with
  | 0,_=>r=none
  | h+1,t=>∃ c,t.2.2=[c]∧r=some ⟨h,c⟩)
theorem zN{h:Nat}{t:Nd h}{r:ch}(ho:Ok h t none none)(hs:np h t≤yO h)(hr:tw h t r):eP r∧aB r=flat h t:=by
 rcases hr with ⟨hb,a,k,b,hc,rfl⟩ | ⟨hb,h1,rfl⟩ | ⟨hb,h1,hm⟩
 ·obtain ⟨g1,g2,g3,g4,g5⟩:=P8 ho hc hb hs;refine ⟨⟨⟨g3,g4,g1,g2⟩,?_,by simp [vZ]⟩,by simp [aB,flat,← g5]⟩
  have e1:=iK k [];have e5:fB []=6:=rfl;unfold cQ at g4;show fB [k]≤4072
  omega
 ·exact ⟨⟨ho,by unfold Ma at hb;show np h t≤4072;omega,h1⟩,rfl⟩
 ·cases h with
  | zero =>
   subst hm;have:t.2=[]:=Classical.not_not.1 h1;exact ⟨trivial,by simp [aB,flat,this]⟩
  | succ h =>
   obtain ⟨c,hc,rfl⟩:=hm;have hk:t.2.1=[]:=Classical.not_not.1 h1;have GN:gR (kO h) none none t.2.1 t.2.2:=ho;rw [hk,hc] at GN;have jE:kO h c none none:=GN;refine ⟨⟨jE.1,jE.2.2,?_⟩,by simp [aB,flat,hc]⟩
   have hf:=jE.2.1;cases h with
   | zero =>
    intro e;have e:c.2=[]:=e;simp [wZ,np,e,qT] at hf
   | succ h =>
    intro e;have e:c.2.1=[]:=e;simp [wZ,np,e,fB] at hf
theorem J5(h:Nat):4072+zJ h≤yO h:=by cases h <;> simp [zJ,yO]
def tu(key:ByteArray)(f:List Pr→List Pr):ch→ch→Prop
 | none,r'=>tw 0 (0,f []) r'
 | some r,r'=>∃ t',XF key f r.1 r.2 t'∧tw r.1 t' r'
theorem oO{key:ByteArray}{f:List Pr→List Pr}(hf:Fit key f){r r':ch}(h:eP r)(hu:tu key f r r'):eP r'∧aB r'=f (aB r):=by
 cases r with
 | none =>
  have hu:tw 0 (0,f []) r':=hu;have h0:=hf.size [];rw [qT] at h0;exact zN (h:=0) (t:=(0,f [])) ⟨hf.rise _ CQ,fun p hp=>by
   rcases hf.mem _ p hp with h1 | ⟨_,h2⟩
   ·simp at h1
   ·exact ⟨h2,I4 _⟩⟩ (by show fR (f [])≤5627;omega) hu
 | some r =>
  obtain ⟨t',h1,h2⟩:=hu;obtain ⟨g1,g2,g3⟩:=M5 hf r.1 h.1 (I4 key) h1;have:=zN g1 (by have h9:np r.1 r.2≤4072:=h.2.1;have h8:=J5 r.1;omega) h2
  exact ⟨this.1,by rw [this.2,g2];rfl⟩
def Way(key:ByteArray):(h:Nat)→Nd h→List Pr→Prop
 | 0,t,l=>l=t.2
 | h+1,t,l=>∃ (A B:List ByteArray) (C1:List (Nd h)) (c:Nd h) (C2:List (Nd h)),t.2.1=A++B∧t.2.2=C1++c::C2∧A.length=C1.length∧(∀ k ∈ A,cR key k=false)∧(∀ k,B.head?=some k→cR key k=true)∧Way key h c l
theorem FD{key:ByteArray}:∀ (h:Nat) {t:Nd h} {l:List Pr} {lo hi:Option ByteArray},Ok h t lo hi→Way key h t l→∃ X Z,flat h t=X++(l++Z)∧(∀ p ∈ X,cR p.1 key=true)∧(∀ p ∈ Z,cR key p.1=true)
 | 0,t,l,_,_,_,hw=>by
  have hw:l=t.2:=hw;exact ⟨[],[],by simp [flat,hw],(fun _ h=>by simp at h),(fun _ h=>by simp at h)⟩
 | h+1,t,l,lo,hi,ho,hw=>by
  obtain ⟨A,B,C1,c,C2,e1,e2,hl,hA,hB,hw'⟩:=hw;have GN:gR (kO h) lo hi (A++B) (C1++c::C2):=by rw [← e1,← e2];exact ho
  obtain ⟨hp,hc⟩:=(oU hl).1 GN;obtain ⟨X,Z,e,h1,h2⟩:=FD h (rl hc).1 hw';refine ⟨C1.flatMap (flat h)++X,Z++C2.flatMap (flat h),?_,fun p GM=>?_,fun p GM=>?_⟩
  ·show t.2.2.flatMap (flat h)=_
   rw [e2,aR,List.flatMap_cons,e];simp
  ·rcases List.mem_append.1 GM with h' | h'
   ·exact ri (P:=kO h) (fun _ _ _ hc=>pN h hc.1) hp hA p h'
   ·exact h1 p h'
  ·rcases List.mem_append.1 GM with h' | h'
   ·exact h2 p h'
   ·exact tp (P:=kO h) (fun _ _ _ hc=>pN h hc.1) hc hB p h'
namespace C
open Go.RowKit Go.Lib
inductive Ch where
 | pg (id:Int)
 | nd (b:Nat)
def Ch.val:Ch→Value
 | .pg id=>.iface 146 (.int .i64 id)
 | .nd b=>.iface 152 (.pointer (some ⟨b,0,none⟩))
abbrev Lk:=Ch
def a8(l:List Lk):List Value:=l.map Ch.val
theorem cZ(a b:List Lk):a8 (a++b)=a8 a++a8 b:=by simp [a8]
theorem aS(l:List Lk):(a8 l).length=l.length*1:=by simp [a8]
theorem fw(l:List Lk)(j:Nat)(h:j<l.length):(a8 l)[j]?=some l[j].val:=by simp [a8,h]
theorem val_one(p:Ch):p.val.oneCell'=true:=by cases p <;> rfl
theorem fU(l:List Lk):∀ u ∈ a8 l,u.oneCell'=true:=by
 intro u hu;simp only [a8,List.mem_map] at hu;obtain ⟨p,_,rfl⟩:=hu;exact val_one p
theorem lB:(prog.info? 97).map (fun i=>(i.zero,i.size,i.bytes))=some (some .nilIface,1,16):=by kernel_rfl
def dF(l:List Lk)(i:Nat)(p:Lk):List Lk:=l.take i++p::l.drop i
def cA(l:List Lk)(i:Nat):List Lk:=l.take i++l.drop (i+1)
def di(w:World)(v:Value)(l:List Lk):Prop:=ni w v (a8 l)
theorem di.below{w w':World}{v:Value}{l:List Lk}(h:di w v l)(hb:Below w.heap.size w w'):di w' v l:=ni.below h hb
theorem di.form{w:World}{v:Value}{l:List Lk}(h:di w v l):∃ a c,v = .slice a l.length c:=by
 obtain ⟨a,c,rfl,_⟩:=h;exact ⟨a,c,by rw [aS,Nat.mul_one]⟩
def b6(w:World)(base:Nat)(v:Value)(l:List Lk):Prop:=w.ownsRow base 97 1 v l.length (a8 l)
theorem b6.at{w:World}{base:Nat}{v:Value}{l:List Lk}(h:b6 w base v l):di w v l:=fT h
theorem b6.form{w:World}{base:Nat}{v:Value}{l:List Lk}(h:b6 w base v l):∃ a c,v = .slice a l.length c:=h.at.form
theorem b6.below{w w':World}{base:Nat}{v:Value}{l:List Lk}(h:b6 w base v l)(hb:Below w.heap.size w w'):b6 w' base v l:=by
 refine ⟨h.1,?_⟩;rcases h.2 with h' | ⟨g,cap,cur,h',h1,h2,hr⟩
 ·exact .inl h'
 ·refine .inr ⟨g,cap,cur,h',h1,?_,hr⟩;have hg:g<w.heap.size:=(Array.getElem?_eq_some_iff.1 h2).1;rw [hb.block g hg];exact h2
theorem b6.nil(w:World)(base:Nat):b6 w base (.slice none 0 0) []:=World.ownsRow_nil _ _ _ _
theorem b6.dr{w:World}{base:Nat}{v:Value}{l:List Lk}(h:b6 w base v l):∀ k,v.ownBlock=some k→base≤k∧k<w.heap.size:=World.ownsRow.lt h
theorem fi(base:Nat)(v s:Value)(xs us:List Lk)(w:World)(aE:b6 w base v xs)(hs:di w s us)(hb:(xs.length+us.length)*16≤140737488355328)(du:base≤w.heap.size):∃ a' eS w',(Builtin.append_ #[153,153] 153 #[v,s]).run prog w = .ok (.slice a' (xs.length+us.length) eS) w'∧b6 w' base (.slice a' (xs.length+us.length) eS) (xs++us)∧w.grownBy w' v.ownBlock:=by
 obtain ⟨a',c',w',h1,h2,h3⟩:=nh 153 97 .nilIface 16 lB underlying153 rfl base xs.length v (a8 xs) w aE s (a8 us) hs (fU us) (by rw [aS];omega) (by decide) du
 have e:(a8 us).length=us.length:=by rw [aS,Nat.mul_one]
 rw [e] at h1 h2;refine ⟨a',c',w',h1,?_,h3⟩;unfold b6;rw [ae,cZ];exact h2
theorem ow(ad:Addr)(n cap:Nat)(l:List Lk)(w:World)(hm:l.length≤1000000)(hn:l.length=n)(hr:di w (.slice (some ad) n cap) l):Calls prog 164 #[.slice (some ad) n cap] w fun e w'=>∃ u,e = .returned u∧b6 w' w.heap.size u l∧Below w.heap.size w w':=by
 have qu:∀ w,(binOp .eql 153 (.slice (some ad) n cap) (.slice none 0 0)).run prog w = .ok (.bool false) w:=fun w=>by
  have h2:∀ d:Nat,(Op.equalIn (d+1) 153 (.slice (some ad) n cap) (.slice none 0 0)).run prog w = .ok false w:=fun d=>by
   simp [Op.equalIn,run_underlying underlying153]
  simp only [binOp];simp [Op.equal,Op.maxDepth,h2 9999]
 have eU:=ai w (.cells #[] 97);have ho:b6 (w.alloc (.cells #[] 97)) w.heap.size (.slice (some ⟨w.heap.size,0,none⟩) 0 0) []:=World.ownsRow_lit w #[] 0 (aj _) (aD _) rfl;obtain ⟨a1,c1,w1,bn,aE,hg⟩:=fi w.heap.size _ _ [] l _ ho (hr.below eU) (by simp;omega) (by simp)
 rw [List.length_nil,Nat.zero_add,hn] at bn aE;rw [List.nil_append] at aE;have aL:Below w.heap.size w w1:=eU.grown hg (by simp) (fun k hk=>by simp [Value.ownBlock] at hk;omega)
 have HO:=ab aE;have HB:=ab aL;clear hr eU ho aE hg aL;go_enter func164,ntmps164;go_wp2_with (first | (at_builtin;refine wpList_append_run 153 rfl (.tmp 5) (.tmp 6) rfl rfl _ _ rfl rfl _ _ bn ?_))
 clear bn;go_ret;exact ⟨_,rfl,HO.out,HB.out⟩
theorem eM(v:Value)(l:List Lk)(w:World)(hm:l.length≤1000000)(hr:di w v l):Calls prog 164 #[v] w fun e w'=>∃ u,e = .returned u∧b6 w' w.heap.size u l∧Below w.heap.size w w':=by
 obtain ⟨a,c,hv⟩:=hr.form;subst hv;cases a with
 | some ad=>exact ow ad l.length c l w hm rfl hr
 | none =>
  have h0:l=[]∧c=0:=by
   obtain ⟨a',c',he,_,hn,hc⟩:=hr;simp only [Value.slice.injEq] at he;obtain ⟨rfl,-,rfl⟩:=he;refine ⟨?_,hn rfl⟩;cases l with
   | nil=>rfl
   | cons p r=>obtain ⟨g,o,he,_⟩:=hc 0 p.val rfl;cases he
  obtain ⟨rfl,rfl⟩:=h0;have qu:∀ w,(binOp .eql 153 (.slice none 0 0) (.slice none 0 0)).run prog w = .ok (.bool true) w:=fun w=>by
   have h2:∀ d:Nat,(Op.equalIn (d+1) 153 (.slice none 0 0) (.slice none 0 0)).run prog w = .ok true w:=fun d=>by
    simp [Op.equalIn,run_underlying underlying153]
   simp only [binOp];simp [Op.equal,Op.maxDepth,h2 9999]
  clear hr;rw [List.length_nil];go_enter func164,ntmps164;go_wp2;go_ret;exact ⟨_,rfl,b6.nil _ _,Below.refl _ _⟩
end C
end Go.Proofs.YtihmgigfkmofnaaGreatDoor
namespace Go.Proofs.YtihmgigfkmofnaaGreatDoor
namespace C
open Go.RowKit
theorem jR(n:Nat):(Builtin.zeroCells (Value.nilIface).cells n).size=n*1:=by
 simp [Builtin.zeroCells,Value.cells]
theorem sS(n:Nat)(w:World)(hn:n*16≤140737488355328):Calls prog 206 #[.slice none 0 0,.int .i64 (n:Int)] w fun e w'=>∃ u,e = .returned u∧b6 w' w.heap.size u []∧Below w.heap.size w w':=by
 obtain ⟨i0,hi,hz,b7,kF⟩:=info_parts lB;have GX:decide ((n:Int)<0)=false:=decide_eq_false (by omega)
 by_cases h0:0<n
 ·have bn:=Lib.run_append_nil_zeros (P:=prog) w 153 3 153 97 i0 _ .i64 .i64 underlying153 underlying3 hi hz n h0 (by omega) (by omega) (by rw [kF];omega)
  have GL:(0:Int)<(n:Int):=by omega
  have hw:IntKind.i64.wrap ((n:Int))=(n:Int):=by rw [IntKind.wrap_i64];omega
  generalize dd:grownCap w n 0 97=cap at *;have hle:n≤cap:=by rw [← dd];exact grownCap_ge _ _ _ _
  have Uy:cap≤maxLen:=by rw [← dd];exact grownCap_le_maxLen _ _ _ _ (by unfold maxLen;omega)
  generalize fH:Builtin.zeroCells _ n++Builtin.zeroCells _ (cap - n)=cs at bn;have Eh:cs.size=cap*1:=by rw [← fH,ej,jR,jR];omega
  have HO:Hid (b6 (w.drew.alloc (.cells cs 97)) w.heap.size (.slice (some ⟨w.heap.size,0,none⟩) 0 cap) []) :=
   ⟨by simp [a8],.inr ⟨w.heap.size,cap,cs,rfl,aj _,heap_alloc_new w.drew _,aD _,Uy,Eh,by simp [a8]⟩⟩
  have HB:Hid (Below w.heap.size w (w.drew.alloc (.cells cs 97))):=((Below.refl _ _).drew).alloc (aj _) _;clear fH dd hi hz b7 kF Eh;go_enter func206,ntmps206;go_wp2_with (first | (at_builtin;refine Lib.wpList_append_run _ rfl (.tmp 20) (.tmp 21) 153 3 rfl _ _ rfl rfl _ _ bn ?_))
  go_ret;exact ⟨_,rfl,HO.out,HB.out⟩
 ·obtain rfl:n=0:=by omega
  go_enter func206,ntmps206;go_wp2;go_ret;exact ⟨_,rfl,b6.nil _ _,Below.refl _ _⟩
def cT(LL:List (List Lk))(k:Nat):Nat:=((LL.take k).flatten).length
theorem jc(LL:List (List Lk))(k:Nat)(h:k<LL.length):cT LL (k+1)=cT LL k+LL[k].length:=by
 unfold cT;rw [ay h,dD,ae];simp
theorem kW(LL:List (List Lk))(k:Nat):cT LL k≤LL.flatten.length:=by
 unfold cT;conv=>rhs;rw [← aH k LL,dD,ae]
 omega
theorem ov(B m cap:Nat)(tL:List Value)(LL:List (List Lk))(w:World)(hm:LL.length=m)(I7:m≤3)(hs:tL.length=m)(fW:LL.flatten.length*16≤140737488355328)(hc:∀ j (h:j<tL.length),w.cell? ⟨B,j,none⟩=some tL[j])(hr:∀ j (h:j<LL.length) (h':j<tL.length),di w tL[j] LL[j]):Calls prog 166 #[.slice (some ⟨B,0,none⟩) m cap] w fun e w'=>∃ u,e = .returned u∧b6 w' w.heap.size u LL.flatten∧Below w.heap.size w w':=by
 have HM:=ab hm;have HS:=ab hs;have HC:=ab hc;have HR:=ab hr;have qJ:=ab fW;obtain ⟨T,hT⟩ : ∃ T,T=LL.flatten.length:=⟨_,rfl⟩;have HT:=ab hT;have Z7:T*16≤140737488355328:=by rw [hT];exact fW
 have QU:Hid (cT LL 0=0):=by show _=_;simp [cT]
 clear hm hs hc hr fW hT;go_enter func166,ntmps166;go_wp2;go_loop [3,11] (fun r i=>∃ k:Nat,k≤m∧i = .int .i64 k∧r = .int .i64 (cT LL k:Int)) (fun _ i=>m - (intOf i).toNat)
 case atStart=>exact ⟨0,aD _,rfl,by rw [QU.out];rfl⟩
 case round =>
  obtain ⟨k,hk,rfl,rfl⟩:=hrel;by_cases bN:k<m
  ·have jv:k<tL.length:=by have:=HS.out;omega
   have qM:k<LL.length:=by have:=HM.out;omega
   have c1:=HC.out k jv;obtain ⟨a,c,hf⟩:=(HR.out k qM jv).form;rw [hf] at c1;have U0:=ab (jc LL k qM);have qI:=ab (kW LL (k+1));obtain ⟨x,hx⟩ : ∃ x,x=cT LL k:=⟨_,rfl⟩;obtain ⟨y,hy⟩ : ∃ y,y=cT LL (k+1):=⟨_,rfl⟩;obtain ⟨z,hz⟩ : ∃ z,z=LL[k].length:=⟨_,rfl⟩;rw [← hx,← hy,← hz] at U0;rw [← hy,← HT.out] at qI;rw [← hx];rw [← hz] at c1;have HY:=ab hy;have hw:IntKind.i64.wrap ((x:Int)+(z:Int))=(y:Int):=by rw [IntKind.wrap_i64];have:=U0.out;have:=qI.out;omega
   have GX:decide ((y:Int)<0)=false:=decide_eq_false (by omega)
   have dP:(k:Int)<(m:Int):=by omega
   clear hx hy hz hf HC HR;go_wp2;go_round
   case rel=>exact ⟨k+1,by omega,by go_num,by rw [← HY.out]⟩
   case measure=>simp [intOf];omega
  ·have K5:k=m:=by omega
   subst K5;have df:cT LL k=T:=by
    rw [HT.out];unfold cT;rw [al (by rw [HM.out];exact aj _)]
   rw [df];have dP:¬ (k:Int)<(k:Int):=by omega
   have HG:=ab (sS T w Z7);clear df bN hk;go_wp2_with fail;refine HG.out.mono ?_
   rintro e w1 ⟨u,rfl,aE,aL⟩;have HO:=ab aE;have bP:=ab aL;clear aE aL HG;go_wp2;go_loopw [6,27] (fun u i wr=>∃ j:Nat,j≤k∧i = .int .i64 j∧b6 wr w.heap.size u ((LL.take j).flatten)∧Below w.heap.size w wr) (fun _ i _=>k - (intOf i).toNat)
   case atStart=>exact ⟨0,aD _,rfl,by simpa using HO.out,bP.out⟩
   case round =>
    obtain ⟨j,hj,rfl,aE,bO⟩:=hrel;clear HO bP;by_cases bN:j<k
    ·have jv:j<tL.length:=by have:=HS.out;omega
     have qM:j<LL.length:=by have:=HM.out;omega
     have c0:=HC.out j jv;have c1:wr.cell? ⟨B,j,none⟩=some tL[j]:=(bO.cell (p:=⟨B,j,none⟩) (World.block_lt_of_cell? w _ c0)).trans c0;have fV:=(HR.out j qM jv).below bO;have hle:=kW LL (j+1);rw [jc LL j qM,← HT.out] at hle;unfold cT at hle;obtain ⟨a1,cp1,w2,bn,hU,fG⟩:=fi w.heap.size _ _ _ _ wr aE fV (by omega) bO.size
     have aU:Below w.heap.size w w2:=bO.grown fG bO.size (fun q hq=>(aE.dr q hq).1)
     obtain ⟨a,c,hf⟩:=fV.form;obtain ⟨ua,uc,hu⟩:=aE.form;subst hu;rw [hf] at c1 bn;have iH:(LL.take j).flatten++LL[j]=(LL.take (j+1)).flatten:=by
      rw [ay qM,dD];simp
     rw [iH] at hU;generalize ((LL.take j).flatten).length=L1 at *;generalize LL[j].length=L2 at *;have jP:=ab hU;have bH:=ab aU;have dP:(j:Int)<(k:Int):=by omega
     clear hf HC HR aE hU bO aU fG fV c0 hle;go_wp2_with (first | (at_builtin;refine wpList_append_run 153 rfl (.tmp 31) (.tmp 32) rfl rfl _ _ rfl rfl _ _ bn ?_))
     clear bn;go_wp2;go_roundw
     case rel=>exact ⟨j+1,by omega,by go_num,jP.out,bH.out⟩
     case measure=>simp [intOf];omega
    ·have df:LL.take j=LL:=by rw [al];have:=HM.out;omega
     rw [df] at aE;have HO:=ab aE;have HB:=ab bO;have dP:¬ (j:Int)<(k:Int):=by omega
     clear aE bO df HC HR;go_wp2;go_ret;exact ⟨_,rfl,HO.out,HB.out⟩
open Go.Lib
theorem dY{P:Program}(w:World)(dT sT ty elem:TypeId)(g o Hb Wt:Nat)(a:Addr)(FQ Vo:Nat)(cur:Array Value)(t:TypeId)(cs:List Value)(hu:P.underlying dT=some (.slice elem))(hs:(P.info? elem).map (·.size)=some 1)(hg:w.heap[g]?=some (.cells cur t (0,0)))(hn:cs.length=Nat.min FQ Hb*1)(GJ:∀ j v,cs[j]?=some v→w.cell? (a.add j)=some v)(eC:o+cs.length≤cur.size)(h1:∀ v ∈ cs,v.oneCell'=true):(Builtin.copy_ #[dT,sT] ty #[.slice (some ⟨g,o,none⟩) Hb Wt,.slice (some a) FQ Vo]).run P w = .ok (goInt (Nat.min FQ Hb)) (w.setRow g (cur.toList.take o++cs++cur.toList.drop (o+cs.length)).toArray):=by
 have hl:=run_loadCells_list (P:=P) w a cs GJ;have fj:=run_storeCells_at P g o t cs 0 cur w hg (by simpa using eC) h1
 cases hq:P.info? elem with
 | none=>simp [hq] at hs
 | some i =>
  have hi:i.size=1:=by simpa [hq] using hs
  simp [Builtin.copy_,run_underlying hu,Builtin.lenOf,Builtin.firstCells,sizeOf,typeInfo,hq,hi,← hn,hl,fj]
theorem kS{P:Program}(w:World)(t e ty:TypeId)(x:Value)(ht:P.underlying t=some (.slice e))(hv:∀ w,(zeroValue e).run P w = .ok x w)(hx:x.oneCell'=true)(hxc:x.cells=#[x])(g o c:Nat)(cur:Array Value)(tt:TypeId)(hg:w.heap[g]?=some (.cells cur tt (0,0)))(eC:o+1≤cur.size):(Builtin.clear_ #[t] ty #[.slice (some ⟨g,o,none⟩) 1 c]).run P w = .ok (.tuple #[]) (w.setRow g (cur.toList.take o++[x]++cur.toList.drop (o+1)).toArray):=by
 have Xh:(Builtin.zeroCells x.cells 1).toList=[x]:=by
  rw [hxc];simp [Builtin.zeroCells,Array.range]
 have fj:=run_storeCells_at P g o tt [x] 0 cur w hg (by simpa using eC) (by intro v SG;simp at SG;subst SG;exact hx)
 simp [Builtin.clear_,run_underlying ht,hv,Xh,fj]
theorem eb(l:List Lk):(a8 l).length=l.length:=by simp [a8]
theorem Bg(l:List Lk)(i:Nat):a8 (l.take i)=(a8 l).take i:=by simp [a8,List.map_take]
theorem Oy(l:List Lk)(i:Nat):a8 (l.drop i)=(a8 l).drop i:=by simp [a8,List.map_drop]
theorem xm(base:Nat)(v:Value)(l:List Lk)(vb:Nat)(p:Lk)(w:World)(hm:l.length≤5864062014800)(ho:b6 w base v l)(du:base≤w.heap.size)(hv:di w (.slice (some ⟨vb,0,none⟩) 1 1) [p]):Calls prog 204 #[v,.int .i64 (l.length:Int),.slice (some ⟨vb,0,none⟩) 1 1] w fun e w'=>∃ u,e = .returned u∧b6 w' base u (l++[p])∧Below base w w':=by
 obtain ⟨a',c',w1,bn,aE,hg⟩:=fi base v _ l [p] w ho hv (by simp;omega) du
 have aL:Below base w w1:=(Below.refl base w).grown hg du (fun k hk=>(ho.dr k hk).1)
 have HO:=ab aE;have HB:=ab aL;have dd:∃ a c,v = .slice a l.length c∧l.length≤c:=by
  obtain ⟨a,c,rfl,hle,_⟩:=ho.at;exact ⟨a,c,by rw [eb],by rw [eb] at hle;exact hle⟩
 obtain ⟨a,c,rfl,hle⟩:=dd;rw [show ([p] : List Lk).length=1 from rfl] at bn
 obtain ⟨n,hn⟩ : ∃ n,n=l.length:=⟨_,rfl⟩;rw [← hn] at bn hle hm ⊢;have HN:=ab hn;clear aE hg aL ho hv hn;by_cases uU:c=n
 ·go_enter func204,ntmps204;go_wp2_with (first | (at_builtin;refine wpList_append_run 153 rfl (.tmp 23) (.tmp 24) rfl rfl _ _ rfl rfl _ _ bn ?_))
  clear bn;go_ret;exact ⟨_,rfl,by have:=HO.out;rwa [show l.length + [p].length=n+1 by rw [HN.out];rfl] at this,HB.out⟩
 ·go_enter func204,ntmps204;go_wp2_with (first | (at_builtin;refine wpList_append_run 153 rfl (.tmp 23) (.tmp 24) rfl rfl _ _ rfl rfl _ _ bn ?_))
  clear bn;go_ret;exact ⟨_,rfl,by have:=HO.out;rwa [show l.length + [p].length=n+1 by rw [HN.out];rfl] at this,HB.out⟩
theorem gT{w:World}{g:Nat}{cur:Array Value}{t:TypeId}{l:List Lk}(hg:w.heap[g]?=some (.cells cur t (0,0)))(ht:cur.toList.take (l.length)=a8 l)(i:Nat):∀ j u,(a8 (l.drop i))[j]?=some u→w.cell? ⟨g,i+j,none⟩=some u:=by
 intro j u h;rw [Oy,← ht,dk,cH] at h;split at h
 ·rw [Array.getElem?_toList] at h;simp [World.cell?,hg,h]
 ·cases h
theorem N4(w:World)(g vb i n1 c1:Nat)(cur vs:Array Value)(tA tB:TypeId)(dE:vb≠g)(hg:w.heap[g]?=some (.cells cur tA (0,0)))(hv:w.heap[vb]?=some (.cells vs tB (0,0)))(h0:cur.size≠0):(callFunc 232 #[.slice (some ⟨vb,0,none⟩) 1 1,.slice (some ⟨g,i,none⟩) n1 c1]).run prog w = .ok (.value (.bool false)) w:=by
 rw [run_callFunc_extern func232 (by kernel_rfl) (by kernel_rfl) (by kernel_rfl) (e:=Extern.SlicesOverlaps.overlaps #[153,153] #[4]) (by kernel_rfl),
  Lib.run_overlaps_apart w 153 4 97 underlying153 1 sizeOf97 ⟨vb,0,none⟩ ⟨g,i,none⟩ 1 1 n1 c1 dE tB tA vs.size cur.size (by simp [World.shape?,hv]) (by simp [World.shape?,hg]) h0 (by simp [World.frozen?,hv]) (by simp [World.frozen?,hv])]
 rfl
theorem sQ(g c:Nat)(l:List Lk)(i vb:Nat)(p:Lk)(w:World)(cur:Array Value)(hi:i<l.length)(adm:c≤9223372036854775807)(dW:l.length+1≤c)(hg:w.heap[g]?=some (.cells cur 97 (0,0)))(b7:cur.size=c)(ht:cur.toList.take (l.length)=a8 l)(hv:w.heap[vb]?=some (.cells #[p.val] 97 (0,0)))(dE:vb≠g):Calls prog 204 #[.slice (some ⟨g,0,none⟩) l.length c,.int .i64 (i:Int),.slice (some ⟨vb,0,none⟩) 1 1] w fun e w'=>e = .returned (.slice (some ⟨g,0,none⟩) (l.length+1) c)∧∃ fL:Array Value,w'=w.drew.setRow g fL∧fL.size=c∧fL.toList.take ((l.length+1))=a8 (dF l i p):=by
 obtain ⟨n,hn⟩ : ∃ n,n=l.length:=⟨_,rfl⟩;have hov:=fun j n1 c1=>N4 w g vb j n1 c1 cur _ _ _ dE hg hv (by omega)
 have jm:(prog.info? 97).map (·.size)=some 1:=by kernel_rfl
 have jw:(a8 (l.drop i)).length=(n - i):=by rw [eb,ao,hn]
 obtain ⟨C1,qv⟩ : ∃ C:Array Value,C=(cur.toList.take ((i+1))++a8 (l.drop i)++cur.toList.drop ((i+1)+(a8 (l.drop i)).length)).toArray:=⟨_,rfl⟩;have mG:C1.size=c:=by rw [qv];simp [jw,b7];omega
 obtain ⟨C2,rJ⟩ : ∃ C:Array Value,C=(C1.toList.take (i)++a8 [p]++C1.toList.drop (i+(a8 [p]).length)).toArray:=⟨_,rfl⟩;have o7:C2.size=c:=by rw [rJ];simp [a8,mG];omega
 have gY:C2.toList.take ((n+1))=a8 (dF l i p):=by
  have e1:cur.toList.take (i)=a8 (l.take i):=by
   rw [Bg,← ht,gQ,a7 (by omega)]
  have l1:(a8 (l.take i)).length=i:=by rw [eb,ag];omega
  have e2:C1.toList.take (i)=a8 (l.take i):=by
   rw [qv,List.toList_toArray,ax,aF (by simp [b7];omega),gQ,a7 (by omega),e1]
  have e3:C1.toList.drop (i+(a8 [p]).length)=a8 (l.drop i)++cur.toList.drop ((i+1)+(a8 (l.drop i)).length):=by
   rw [qv,List.toList_toArray,ax,ic (by simp [b7,a8];omega),dy (by simp [b7,a8];omega)]
   rfl
  rw [rJ,List.toList_toArray,e2,e3,dF,cZ,show p::l.drop i=[p]++l.drop i from rfl,cZ,← ax,← ax,aF (by simp only [ae,jw,l1,eb,aP];omega),al (by simp only [ae,jw,l1,eb,aP];omega)]
 have We:∀ ty dc sc,(Builtin.copy_ #[153,153] ty #[.slice (some ⟨g,(i+1),none⟩) (n - i) dc,.slice (some ⟨g,i,none⟩) (n+1 - i) sc]).run prog w.drew = .ok (goInt (Nat.min (n+1 - i) (n - i))) (w.drew.setRow g C1):=fun ty dc sc=>by
  rw [qv];exact dY w.drew 153 153 ty 97 g ((i+1)) (n - i) dc ⟨g,i,none⟩ (n+1 - i) sc cur 97 (a8 (l.drop i)) underlying153 jm hg (by rw [jw];simp only [kA];split <;> omega) (fun j u hj=>by rw [bz];exact gT hg ht i j u hj) (by rw [jw,b7];omega) (fU _)
 have fG:(w.drew.setRow g C1).heap[g]?=some (.cells C1 97 (0,0)):=setRow_heap w.drew g cur C1 97 (0,0) hg;have fI:(w.drew.setRow g C1).heap[vb]?=some (.cells #[p.val] 97 (0,0)):=(setRow_other w.drew g vb C1 dE).trans hv;have Wd:∀ ty dc,(Builtin.copy_ #[153,153] ty #[.slice (some ⟨g,i,none⟩) (n+1 - i) dc,.slice (some ⟨vb,0,none⟩) 1 1]).run prog (w.drew.setRow g C1) = .ok (goInt (Nat.min 1 (n+1 - i))) (w.drew.setRow g C2):=fun ty dc=>by
  have h:=dY (w.drew.setRow g C1) 153 153 ty 97 g (i) (n+1 - i) dc ⟨vb,0,none⟩ 1 1 C1 97 (a8 [p]) underlying153 jm fG (by simp only [eb,aP,kA];split <;> omega) (fun j u hj=>by
   rw [bz];have lL:(#[p.val] : Array Value)[j]?=some u:=by simpa [a8] using hj
   simp [World.cell?,fI,lL]) (by simp [a8,mG];omega) (fU _)
  rw [h,rJ,setRow_setRow]
 have HF:=ab gY;have HZ:=ab o7;have mixed:prog.follows Departure.mixedOrders=true:=by kernel_rfl
 have mG:¬ ((i:Int)=(n:Int)):=by omega
 have vw:IntKind.i64.wrap ((i:Int)+1)=(i:Int)+1:=by rw [IntKind.wrap_i64];omega
 have Q6:IntKind.i64.wrap ((n:Int)+1)=(n:Int)+1:=by rw [IntKind.wrap_i64];omega
 have Xn:((i:Int)+1).toNat=i+1:=by omega
 have acB:((n:Int)+1).toNat=n+1:=by omega
 have aL:(0:Int)≤(i:Int)+1:=by omega
 have aU:¬ (c=i+1):=by omega
 have gj:¬ (c=i):=by omega
 have Rn:(i:Int)≤(n:Int):=by omega
 have bT:(i:Int)≤(n:Int)+1:=by omega
 have V5:i≤n:=by omega
 have ac6:i+1≤n+1:=by omega
 rw [← hn] at dW ⊢;clear qv rJ gY o7 jw fG fI ht b7 hg hv hn hi;go_enter func204,ntmps204;go_wp2_with (simp only [hov])
 go_region_law_o (refine step_copy_runI rfl _ _ 153 153 rfl _ _ (by simp [Act.eval,Act.put]) (by simp [Act.eval,Act.put]) (We _ _ _) ?_)
 go_wp2_with (at_builtin;refine wpList_copy_runI _ rfl _ _ 153 153 rfl _ _ rfl rfl (Wd _ _) ?_)
 go_ret;exact ⟨rfl,C2,rfl,HZ.out,HF.out⟩
theorem vK(k:Nat):(Builtin.zeroCells (Value.nilIface).cells k).size=k:=by
 have:(Value.nilIface).cells=#[.nilIface]:=rfl;simp [Builtin.zeroCells,this]
theorem sR(g c:Nat)(l:List Lk)(i vb:Nat)(p:Lk)(w:World)(cur:Array Value)(hi:i<l.length)(hm:l.length≤5864062014800)(B6:l.length≤c)(dW:c<l.length+1)(hg:w.heap[g]?=some (.cells cur 97 (0,0)))(ht:cur.toList.take (l.length)=a8 l)(hv:w.heap[vb]?=some (.cells #[p.val] 97 (0,0))):Calls prog 204 #[.slice (some ⟨g,0,none⟩) l.length c,.int .i64 (i:Int),.slice (some ⟨vb,0,none⟩) 1 1] w fun e w'=>∃ G:Nat,e = .returned (.slice (some ⟨w.heap.size,0,none⟩) (l.length+1) G)∧l.length+1≤G∧G≤maxLen∧∃ fL:Array Value,w'.heap[w.heap.size]?=some (.cells fL 97 (0,0))∧Below w.heap.size w w'∧fL.size=G∧fL.toList.take ((l.length+1))=a8 (dF l i p):=by
 obtain ⟨n,hn⟩ : ∃ n,n=l.length:=⟨_,rfl⟩;obtain ⟨i0,yy,nK,GA,OU⟩:=info_parts lB;have jm:(prog.info? 97).map (·.size)=some 1:=by rw [yy];simp [GA]
 have Pm:g<w.heap.size:=(Array.getElem?_eq_some_iff.1 hg).1;have Yw:vb<w.heap.size:=(Array.getElem?_eq_some_iff.1 hv).1;have jw:(a8 (l.drop i)).length=(n - i):=by rw [eb,ao,hn]
 have l1:(a8 (l.take i)).length=i:=by rw [eb,ag];omega
 have Ri:(n:Int)+1 - (i:Int)=((n+1 - i:Nat):Int):=by omega
 have Fk:i+(n+1 - i)=n+1:=by omega
 have hold:(Builtin.firstCells i0.size i (.slice (some ⟨g,0,none⟩) i c)).run prog w.drew = .ok (a8 (l.take i)).toArray w.drew:=by
  rw [GA];refine run_firstCells_some w.drew 1 i ⟨g,0,none⟩ i c (a8 (l.take i)) (by rw [Nat.mul_one];exact l1) (fun j v hj=>?_)
  rw [bz,Nat.zero_add];rw [Bg,cH] at hj;split at hj
  ·have:=gT hg ht 0 j v (by simpa using hj)
   simpa using this
  ·cases hj
 obtain ⟨G,hG⟩ : ∃ G,G=grownCap w (n+1) c 97:=⟨_,rfl⟩;obtain ⟨R,hR⟩ : ∃ R:Array Value,R=(a8 (l.take i)).toArray++Builtin.zeroCells (Value.nilIface).cells (n+1 - i)++Builtin.zeroCells (Value.nilIface).cells (G - (n+1)):=⟨_,rfl⟩;have VR:∀ ty,(Builtin.append_ #[153,3] ty #[.slice (some ⟨g,0,none⟩) i c,.int .i64 ((n:Int)+1 - (i:Int))]).run prog w =
   .ok (.slice (some ⟨w.heap.size,0,none⟩) (n+1) G) (w.drew.alloc (.cells R 97)):=fun ty=>by
  have h:=Lib.run_append_grow_zeros w 153 3 ty 97 i0 _ .i64 .i64 underlying153 underlying3 yy nK (some ⟨g,0,none⟩) i c (a8 (l.take i)) hold (n+1 - i) (by omega) (by omega) (by omega) (by omega) (by rw [OU];omega) (by rw [OU,Fk];exact growslice_fits (by omega) (by omega))
  rw [Fk] at h;rw [Ri,hR,hG];exact h
 have hGn:n+1≤G:=by rw [hG];exact grownCap_ge w _ _ _
 have Wn:G≤maxLen:=by rw [hG];exact grownCap_le_maxLen w (n+1) c 97 (by unfold maxLen;omega)
 have Wl:R.size=G:=by
  rw [hR,ej,ej,vK,vK];simp [l1];omega
 obtain ⟨W1,gF⟩ : ∃ W1,W1=w.drew.alloc (.cells R 97):=⟨_,rfl⟩;have Jd:W1.heap[w.heap.size]?=some (.cells R 97 (0,0)):=by rw [gF];exact heap_alloc_new w.drew _
 have Fo:Below w.heap.size w W1:=by rw [gF];exact (B.aO (Below.refl _ _)).alloc (aj _) _
 have fG:W1.heap[g]?=some (.cells cur 97 (0,0)):=(Fo.block g Pm).trans hg;have fI:W1.heap[vb]?=some (.cells #[p.val] 97 (0,0)):=(Fo.block vb Yw).trans hv;rw [← gF] at VR;obtain ⟨C1,qv⟩ : ∃ C:Array Value,C=(R.toList.take (i)++a8 [p]++R.toList.drop (i+(a8 [p]).length)).toArray:=⟨_,rfl⟩;have mG:C1.size=G:=by rw [qv];simp [a8,Wl];omega
 obtain ⟨C2,rJ⟩ : ∃ C:Array Value,C=(C1.toList.take ((i+1))++a8 (l.drop i)++C1.toList.drop ((i+1)+(a8 (l.drop i)).length)).toArray:=⟨_,rfl⟩;have o7:C2.size=G:=by rw [rJ];simp [jw,mG];omega
 have gY:C2.toList.take ((n+1))=a8 (dF l i p):=by
  have e0:R.toList.take (i)=a8 (l.take i):=by
   rw [hR,bW,bW,List.toList_toArray,ax,aF (by omega),al (by omega)]
  have e1:C1.toList.take ((i+1))=a8 (l.take i)++a8 [p]:=by
   rw [qv,List.toList_toArray,e0,aF (by simp only [ae,l1,eb,aP];omega),al (by simp only [ae,l1,eb,aP];omega)]
  rw [rJ,List.toList_toArray,e1,dF,cZ,show p::l.drop i=[p]++l.drop i from rfl,cZ,← ax,aF (by simp only [ae,jw,l1,eb,aP];omega),al (by simp only [ae,jw,l1,eb,aP];omega)]
 have VZ:vb≠w.heap.size:=by omega
 have Bq:g≠w.heap.size:=by omega
 have Py:∀ ty dc,(Builtin.copy_ #[153,153] ty #[.slice (some ⟨w.heap.size,i,none⟩) (n+1 - i) dc,.slice (some ⟨vb,0,none⟩) 1 1]).run prog W1 = .ok (goInt (Nat.min 1 (n+1 - i))) (W1.setRow w.heap.size C1):=fun ty dc=>by
  rw [qv];exact dY W1 153 153 ty 97 w.heap.size (i) (n+1 - i) dc ⟨vb,0,none⟩ 1 1 R 97 (a8 [p]) underlying153 jm Jd (by simp only [eb,aP,kA];split <;> omega) (fun j u hj=>by
   rw [bz];have lL:(#[p.val] : Array Value)[j]?=some u:=by simpa [a8] using hj
   simp [World.cell?,fI,lL]) (by simp [a8,Wl];omega) (fU _)
 have Jc:(W1.setRow w.heap.size C1).drew.heap[w.heap.size]?=some (.cells C1 97 (0,0)):=setRow_heap W1 w.heap.size R C1 97 (0,0) Jd;have yZ:(W1.setRow w.heap.size C1).drew.heap[g]?=some (.cells cur 97 (0,0)):=(setRow_other W1 w.heap.size g C1 Bq).trans fG;have Px:∀ ty dc sc,(Builtin.copy_ #[153,153] ty #[.slice (some ⟨w.heap.size,(i+1),none⟩) (n - i) dc,.slice (some ⟨g,i,none⟩) (n - i) sc]).run prog (W1.setRow w.heap.size C1).drew = .ok (goInt (Nat.min (n - i) (n - i))) ((W1.setRow w.heap.size C1).drew.setRow w.heap.size C2):=fun ty dc sc=>by
  rw [rJ];exact dY (W1.setRow w.heap.size C1).drew 153 153 ty 97 w.heap.size ((i+1)) (n - i) dc ⟨g,i,none⟩ (n - i) sc C1 97 (a8 (l.drop i)) underlying153 jm Jc (by rw [jw];simp only [kA];split <;> omega) (fun j u hj=>by rw [bz];exact gT yZ ht i j u hj) (by rw [jw,mG];omega) (fU _)
 have PI:((W1.setRow w.heap.size C1).drew.setRow w.heap.size C2).heap[w.heap.size]?=some (.cells C2 97 (0,0)):=setRow_heap (W1.setRow w.heap.size C1).drew w.heap.size C1 C2 97 (0,0) Jc;have Wo:Below w.heap.size w ((W1.setRow w.heap.size C1).drew.setRow w.heap.size C2):=below_setRow (B.aO (below_setRow Fo (aj _) C1)) (aj _) C2;obtain ⟨s,hs⟩ : ∃ s,s=w.heap.size:=⟨_,rfl⟩;rw [← hs] at VR Py Px PI Wo ⊢;have HF:=ab gY;have HZ:=ab o7;have HN3:=ab PI;have eG:=ab Wo;have HG:=ab Wn;have mixed:prog.follows Departure.mixedOrders=true:=by kernel_rfl
 have adG:G≤9223372036854775807:=by unfold maxLen at Wn;omega
 have O5:¬ ((i:Int)=(n:Int)):=by omega
 have vw:IntKind.i64.wrap ((i:Int)+1)=(i:Int)+1:=by rw [IntKind.wrap_i64];omega
 have Q6:IntKind.i64.wrap ((n:Int)+1)=(n:Int)+1:=by rw [IntKind.wrap_i64];omega
 have MC:IntKind.i64.wrap ((n:Int)+1 - (i:Int))=(n:Int)+1 - (i:Int):=by rw [IntKind.wrap_i64];omega
 have Xn:((i:Int)+1).toNat=i+1:=by omega
 have aL:(0:Int)≤(i:Int)+1:=by omega
 have bT:(i:Int)≤(n:Int)+1:=by omega
 have aU:¬ (G=i+1):=by omega
 have mj:¬ (G=i):=by omega
 have gj:¬ (c=i):=by omega
 have Rn:(i:Int)≤(n:Int):=by omega
 have V5:i≤n:=by omega
 have hic:(i:Int)≤(c:Int):=by omega
 have hcr:(c:Int)<(n:Int)+1:=by omega
 rw [← hn] at dW ⊢;clear qv rJ gY o7 mG jw fG fI yZ Jd Jc PI Fo Wo ht hg hv hi l1 Ri Fk hold Wl hR hG Pm Yw yy nK GA OU jm hn Wn VZ Bq gF hs;go_enter func204,ntmps204;go_wp2_with (first
  | (at_builtin;refine Lib.wpList_append_run _ rfl _ _ _ _ rfl _ _ rfl rfl _ _ (VR _) ?_)
  | (at_builtin;refine wpList_copy_runI _ rfl _ _ 153 153 rfl _ _ rfl rfl (Py _ _) ?_))
 go_region_law_o (refine step_copy_runI rfl _ _ 153 153 rfl _ _ (by simp [Act.eval,Act.put]) (by simp [Act.eval,Act.put]) (Px _ _ _) ?_)
 go_wp2;go_ret;exact ⟨G,rfl,hGn,HG.out,C2,HN3.out,eG.out,HZ.out,HF.out⟩
theorem b6.row{w:World}{base g c:Nat}{l:List Lk}{cur:Array Value}(hb:base≤g)(hg:w.heap[g]?=some (.cells cur 97 (0,0)))(B6:l.length≤c)(hc:c≤maxLen)(hs:cur.size=c)(ht:cur.toList.take (l.length)=a8 l):b6 w base (.slice (some ⟨g,0,none⟩) l.length c) l :=
 ⟨by rw [eb,Nat.mul_one],.inr ⟨g,c,cur,rfl,hb,hg,B6,hc,by rw [hs,Nat.mul_one],by rw [Nat.mul_one];exact ht⟩⟩
theorem eY(l:List Lk)(i:Nat)(p:Lk)(h:i≤l.length):(dF l i p).length=l.length+1:=by
 unfold dF;rw [ae,List.length_cons,ag,ao];omega
theorem xy(l:List Lk)(p:Lk):dF l l.length p=l++[p]:=by simp [dF]
theorem ot(base:Nat)(v:Value)(l:List Lk)(i vb:Nat)(p:Lk)(w:World)(hm:l.length≤5864062014800)(hi:i≤l.length)(ho:b6 w base v l)(du:base≤w.heap.size)(hv:B.au w vb #[p.val] 97)(dE:v.ownBlock≠some vb):Calls prog 204 #[v,.int .i64 (i:Int),.slice (some ⟨vb,0,none⟩) 1 1] w fun e w'=>∃ u,e = .returned u∧b6 w' base u (dF l i p)∧Below base w w':=by
 by_cases Rn:i=l.length
 ·subst Rn;rw [xy];refine xm base v l vb p w hm ho du ⟨_,_,rfl,aj _,fun h=>(by cases h),fun j u hj=>⟨_,_,rfl,?_⟩⟩
  have lL:j<1:=(List.getElem?_eq_some_iff.1 hj).1;have K7:j=0:=by omega
  subst K7;cases hj;exact hv.cell 0 (by simp)
 ·have bN:i<l.length:=by omega
  rcases ho.2 with ⟨_,h0⟩ | ⟨g,c,cur,rfl,hb,hg,B4,sf,fH,mH⟩
  ·omega
  ·by_cases hr:l.length+1≤c
   ·refine (sQ g c l i vb p w cur bN (by unfold maxLen at sf;omega) hr hg (by rw [fH,Nat.mul_one]) (by rw [Nat.mul_one] at mH;exact mH) hv (fun h=>dE (by rw [h];rfl))).mono ?_
    rintro e w' ⟨rfl,fL,rfl,h2,h3⟩;refine ⟨_,rfl,?_,below_setRow (B.aO (Below.refl _ _)) hb fL⟩;have:=b6.row (l:=dF l i p) hb (setRow_heap w.drew g cur fL 97 (0,0) hg) (by rw [eY l i p hi];exact hr) sf h2 (by rw [eY l i p hi];exact h3)
    rwa [eY l i p hi] at this
   ·refine (sR g c l i vb p w cur bN hm B4 (by omega) hg (by rw [Nat.mul_one] at mH;exact mH) hv).mono ?_
    rintro e w' ⟨G,rfl,h1,h2,fL,h3,h4,h5,h6⟩;refine ⟨_,rfl,?_,h4.mono du⟩;have:=b6.row (l:=dF l i p) du h3 (by rw [eY l i p hi];exact h1) h2 h5 (by rw [eY l i p hi];exact h6)
    rwa [eY l i p hi] at this
end C
end Go.Proofs.YtihmgigfkmofnaaGreatDoor
