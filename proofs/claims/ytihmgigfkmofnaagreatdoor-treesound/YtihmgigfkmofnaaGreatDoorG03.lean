import Derived.Test.YtihmgigfkmofnaaGreatDoorG02
import Derived.Shelf.Spec.SlicesInsertGrow
import Derived.Laws.CopyRow
import Derived.Laws.CopyOwn
set_option maxHeartbeats 4000000
set_option maxRecDepth 100000
open Go.Proofs.Tryz
namespace Go.Proofs.YtihmgigfkmofnaaGreatDoor
variable {Y X Z:List Pr} {n:Nat} {value:ByteArray}
theorem kW{X Z:List Pr}{key:ByteArray}(hX:∀ p ∈ X,cR p.1 key=true)(hZ:∀ p ∈ Z,cR key p.1=true):aS (X++(Y++Z)) key=X.length+aS Y key:=by
 have il:=cH Y key;by_cases h:aS Y key<Y.length
 ·refine sG (by simp;omega) (fun j hj=>?_) ?_
  ·by_cases SG:j<X.length
   ·rw [aL SG];exact hX _ (aJ SG)
   ·rw [bA (by omega),aL (by omega)]
    exact lR Y key _ (by omega) (by omega)
  ·rw [bA (by omega),aL (by omega)]
   simp only [show X.length+aS Y key - X.length=aS Y key by omega]
   exact sH Y key h
 ·have he:aS Y key=Y.length:=by omega
  have dn:∀ j (hj:j<Y.length),cR Y[j].1 key=true:=fun j hj=>lR Y key j (by omega) hj
  rw [he];cases Z with
  | nil =>
   rw [List.append_nil,qT,ae];intro j hj;rw [ae] at hj;by_cases SG:j<X.length
   ·rw [aL SG];exact hX _ (aJ SG)
   ·rw [bA (by omega)];exact dn _ (by omega)
  | cons z Z =>
   refine sG (by simp) (fun j hj=>?_) ?_
   ·by_cases SG:j<X.length
    ·rw [aL SG];exact hX _ (aJ SG)
    ·rw [bA (by omega),aL (by omega)];exact dn _ (by omega)
   ·rw [bA (by omega),bA (by omega)]
    simp only [show X.length+Y.length - X.length - Y.length=0 by omega,List.getElem_cons_zero]
    exact kT (hZ z dr)
theorem RR(h:n<Y.length):(X++(Y++Z))[X.length+n]?=Y[n]?:=by
 rw [aM (by omega),show X.length+n - X.length=n by omega,bf h]
theorem nu{X Z:List Pr}{key:ByteArray}(hX:∀ p ∈ X,cR p.1 key=true)(hZ:∀ p ∈ Z,cR key p.1=true):bm (X++(Y++Z)) key=bm Y key:=by
 have il:=cH Y key;unfold bm;rw [kW hX hZ];by_cases h:aS Y key<Y.length
 ·rw [RR h]
 ·have he:aS Y key=Y.length:=by omega
  rw [he,aM (by omega),show X.length+Y.length - X.length=Y.length by omega,aM (by omega),de]
  rw [bu (aj Y.length)];cases Z with
  | nil=>rfl
  | cons z Z =>
   have:=hZ z dr;simp only [List.getElem?_cons_zero,decide_eq_false_iff_not];intro e;rw [e,nh] at this;cases this
theorem vI{X Z:List Pr}{key:ByteArray}(hX:∀ p ∈ X,cR p.1 key=true)(hZ:∀ p ∈ Z,cR key p.1=true):dk (X++(Y++Z)) key=X.length+dk Y key:=by
 unfold dk;rw [nu hX hZ,kW hX hZ];split <;> omega
theorem Dj(h:n≤Y.length):(X++(Y++Z)).take (X.length+n)=X++Y.take n:=by
 rw [List.take_append,ao (by omega),show X.length+n - X.length=n by omega,aH h]
theorem Fk(h:n≤Y.length):(X++(Y++Z)).drop (X.length+n)=Y.drop n++Z:=by
 rw [List.drop_append,List.drop_of_length_le (by omega),show X.length+n - X.length=n by omega,ij h,List.nil_append]
theorem OW{X Z:List Pr}{key:ByteArray}(hX:∀ p ∈ X,cR p.1 key=true)(hZ:∀ p ∈ Z,cR key p.1=true):fx (X++(Y++Z)) key value=X++(fx Y key value++Z):=by
 unfold fx;rw [kW hX hZ,vI hX hZ,Dj (cH _ _),Fk (jV _ _)];simp
theorem MR{X Z:List Pr}{key:ByteArray}(hX:∀ p ∈ X,cR p.1 key=true)(hZ:∀ p ∈ Z,cR key p.1=true):fT (X++(Y++Z)) key=X++(fT Y key++Z):=by
 unfold fT;rw [kW hX hZ,vI hX hZ,Dj (cH _ _),Fk (jV _ _)];simp
theorem Dk(l:List Pr)(k:Nat):fB (l.drop k)≤fB l:=by
 have h:fB l=fB (l.take k)+fB (l.drop k):=by rw [← iG,aI]
 omega
theorem As(l:List Pr){n m:Nat}(h:n≤m):fB (l.take n)+fB (l.drop m)≤fB l:=by
 have h1:fB l=fB (l.take n)+fB (l.drop n):=by rw [← iG,aI]
 have h2:l.drop m=(l.drop n).drop (m - n):=by rw [List.drop_drop];congr 1;omega
 rw [h2];have:=Dk (l.drop n) (m - n);omega
theorem Iz{l:List Pr}{key:ByteArray}(hr:gK l):gK (fT l key):=by
 refine uU (hr.take _) (hr.drop _) (fun p hp q hq=>?_)
 obtain ⟨i,hi,rfl⟩:=aK hp;obtain ⟨j,hj,rfl⟩:=aK hq;rw [ag] at hi;rw [al] at hj;have:=eP l key;simp only [bF,cu];exact hr.lt i _ (by omega) (by omega)
theorem wJ{key:ByteArray}(hm:cQ (key,value)=true):Fit key (fun l=>fx l key value) where
 loc:=fun _ _ _ hX hZ=>OW hX hZ
 rise:=fun _ h=>OV h
 mem:=fun l p hp=>by
  unfold fx at hp;rcases List.mem_append.1 hp with h | h
  ·exact .inl (bJ h)
  ·rcases List.mem_cons.1 h with rfl | h
   ·exact .inr ⟨rfl,hm⟩
   ·exact .inl (bK h)
 size:=fun l=>by
  unfold fx;rw [iG,mj];have h1:=As l (eP l key);have h2:=dY hm;unfold zG;simp only at h2 ⊢;omega
theorem fit_drop(key:ByteArray):Fit key (fun l=>fT l key) where
 loc:=fun _ _ _ hX hZ=>MR hX hZ
 rise:=fun _ h=>Iz h
 mem:=fun l p hp=>by
  unfold fT at hp;rcases List.mem_append.1 hp with h | h
  ·exact .inl (bJ h)
  ·exact .inl (bK h)
 size:=fun l=>by
  unfold fT;rw [iG];have h1:=As l (eP l key);omega
abbrev cT:=Option ((h:Nat) × Nd h)
def aD:cT→List Pr
 | none=>[]
 | some r=>flat r.1 r.2
def qf:(h:Nat)→Nd h→Prop
 | 0,t=>t.2≠[]
 | _+1,t=>t.2.1≠[]
def eD:cT→Prop
 | none=>True
 | some r=>Ok r.1 r.2 none none∧mQ r.1 r.2≤4072∧qf r.1 r.2
def uG(h:Nat)(t:Nd h)(r:cT):Prop :=
 (Ng h t∧∃ a k b,Cut h t a k b∧r=some ⟨h+1,(0,[k],[a,b])⟩) ∨
 (¬ Ng h t∧qf h t∧r=some ⟨h,t⟩) ∨
 (¬ Ng h t∧¬ qf h t∧match h,t with
  | 0,_=>r=none
  | h+1,t=>∃ c,t.2.2=[c]∧r=some ⟨h,c⟩)
theorem AD{h:Nat}{t:Nd h}{r:cT}(ho:Ok h t none none)(hs:mQ h t≤zO h)(hr:uG h t r):eD r∧aD r=flat h t:=by
 rcases hr with ⟨hb,a,k,b,hc,rfl⟩ | ⟨hb,h1,rfl⟩ | ⟨hb,h1,hm⟩
 ·obtain ⟨g1,g2,g3,g4,g5⟩:=Rq ho hc hb hs;refine ⟨⟨⟨g3,g4,g1,g2⟩,?_,by simp [qf]⟩,by simp [aD,flat,← g5]⟩
  have e1:=iQ k [];have e5:eI []=6:=rfl;unfold cV at g4;show eI [k]≤4072
  omega
 ·exact ⟨⟨ho,by unfold Ng at hb;show mQ h t≤4072;omega,h1⟩,rfl⟩
 ·cases h with
  | zero =>
   subst hm;have:t.2=[]:=Classical.not_not.1 h1;exact ⟨trivial,by simp [aD,flat,this]⟩
  | succ h =>
   obtain ⟨c,hc,rfl⟩:=hm;have hk:t.2.1=[]:=Classical.not_not.1 h1;have Ib:gi (kG h) none none t.2.1 t.2.2:=ho;rw [hk,hc] at Ib;have jf:kG h c none none:=Ib;refine ⟨⟨jf.1,jf.2.2,?_⟩,by simp [aD,flat,hc]⟩
   have hf:=jf.2.1;cases h with
   | zero =>
    intro e;have e:c.2=[]:=e;simp [xY,mQ,e,lG] at hf
   | succ h =>
    intro e;have e:c.2.1=[]:=e;simp [xY,mQ,e,eI] at hf
theorem K5(h:Nat):4072+Ay h≤zO h:=by cases h <;> simp [Ay,zO]
def uE(key:ByteArray)(f:List Pr→List Pr):cT→cT→Prop
 | none,r'=>uG 0 (0,f []) r'
 | some r,r'=>∃ t',Zo key f r.1 r.2 t'∧uG r.1 t' r'
theorem pw{key:ByteArray}{f:List Pr→List Pr}(hf:Fit key f){r r':cT}(h:eD r)(hu:uE key f r r'):eD r'∧aD r'=f (aD r):=by
 cases r with
 | none =>
  have hu:uG 0 (0,f []) r':=hu;have h0:=hf.size [];rw [lG] at h0;exact AD (h:=0) (t:=(0,f [])) ⟨hf.rise _ DH,fun p hp=>by
   rcases hf.mem _ p hp with h1 | ⟨_,h2⟩
   ·simp at h1
   ·exact ⟨h2,J0 _⟩⟩ (by show fB (f [])≤5627;omega) hu
 | some r =>
  obtain ⟨t',h1,h2⟩:=hu;obtain ⟨g1,g2,g3⟩:=Oo hf r.1 h.1 (J0 key) h1;have:=AD g1 (by have h9:mQ r.1 r.2≤4072:=h.2.1;have h8:=K5 r.1;omega) h2
  exact ⟨this.1,by rw [this.2,g2];rfl⟩
def Way(key:ByteArray):(h:Nat)→Nd h→List Pr→Prop
 | 0,t,l=>l=t.2
 | h+1,t,l=>∃ (A B:List ByteArray) (C1:List (Nd h)) (c:Nd h) (C2:List (Nd h)),t.2.1=A++B∧t.2.2=C1++c::C2∧A.length=C1.length∧(∀ k ∈ A,cR key k=false)∧(∀ k,B.head?=some k→cR key k=true)∧Way key h c l
theorem Gx{key:ByteArray}:∀ (h:Nat) {t:Nd h} {l:List Pr} {lo hi:Option ByteArray},Ok h t lo hi→Way key h t l→∃ X Z,flat h t=X++(l++Z)∧(∀ p ∈ X,cR p.1 key=true)∧(∀ p ∈ Z,cR key p.1=true)
 | 0,t,l,_,_,_,hw=>by
  have hw:l=t.2:=hw;exact ⟨[],[],by simp [flat,hw],(fun _ h=>by simp at h),(fun _ h=>by simp at h)⟩
 | h+1,t,l,lo,hi,ho,hw=>by
  obtain ⟨A,B,C1,c,C2,e1,e2,hl,hA,hB,hw'⟩:=hw;have Ib:gi (kG h) lo hi (A++B) (C1++c::C2):=by rw [← e1,← e2];exact ho
  obtain ⟨hp,hc⟩:=(pF hl).1 Ib;obtain ⟨X,Z,e,h1,h2⟩:=Gx h (rW hc).1 hw';refine ⟨C1.flatMap (flat h)++X,Z++C2.flatMap (flat h),?_,fun p Ia=>?_,fun p Ia=>?_⟩
  ·show t.2.2.flatMap (flat h)=_
   rw [e2,aN,List.flatMap_cons,e];simp
  ·rcases List.mem_append.1 Ia with h' | h'
   ·exact rS (P:=kG h) (fun _ _ _ hc=>qh h hc.1) hp hA p h'
   ·exact h1 p h'
  ·rcases List.mem_append.1 Ia with h' | h'
   ·exact h2 p h'
   ·exact uC (P:=kG h) (fun _ _ _ hc=>qh h hc.1) hc hB p h'
namespace C
open Go.RowKit Go.Lib
variable {w:World} {v:Value} {base:Nat}
inductive Ch where
 | pg (id:Int)
 | nd (b:Nat)
def Ch.val:Ch→Value
 | .pg id=>.iface 146 (.int .i64 id)
 | .nd b=>.iface 152 (.pointer (some ⟨b,0,none⟩))
abbrev Lk:=Ch
def bn(l:List Lk):List Value:=l.map Ch.val
theorem di(a b:List Lk):bn (a++b)=bn a++bn b:=by simp [bn]
theorem aU(l:List Lk):(bn l).length=l.length*1:=by simp [bn]
theorem gI(l:List Lk)(j:Nat)(h:j<l.length):(bn l)[j]?=some l[j].val:=by simp [bn,h]
theorem val_one(p:Ch):p.val.oneCell'=true:=by cases p <;> rfl
theorem fW(l:List Lk):∀ u ∈ bn l,u.oneCell'=true:=by
 intro u hu;simp only [bn,List.mem_map] at hu;obtain ⟨p,_,rfl⟩:=hu;exact val_one p
theorem lL:(prog.info? 97).map (fun i=>(i.zero,i.size,i.bytes))=some (some .nilIface,1,16):=by kernel_rfl
def dJ(l:List Lk)(i:Nat)(p:Lk):List Lk:=l.take i++p::l.drop i
def cC(l:List Lk)(i:Nat):List Lk:=l.take i++l.drop (i+1)
def dm(w:World)(v:Value)(l:List Lk):Prop:=lF w v (bn l)
theorem dm.below{w w':World}{v:Value}{l:List Lk}(h:dm w v l)(hb:Below w.heap.size w w'):dm w' v l:=lF.below h hb
theorem dm.form{l:List Lk}(h:dm w v l):∃ a c,v = .slice a l.length c:=by
 obtain ⟨a,c,rfl,_⟩:=h;exact ⟨a,c,by rw [aU,Nat.mul_one]⟩
def b9(w:World)(base:Nat)(v:Value)(l:List Lk):Prop:=w.ownsRow base 97 1 v l.length (bn l)
theorem b9.at{l:List Lk}(h:b9 w base v l):dm w v l:=fV h
theorem b9.form{w:World}{base:Nat}{v:Value}{l:List Lk}(h:b9 w base v l):∃ a c,v = .slice a l.length c:=h.at.form
theorem b9.below{w':World}{l:List Lk}(h:b9 w base v l)(hb:Below w.heap.size w w'):b9 w' base v l:=by
 refine ⟨h.1,?_⟩;rcases h.2 with h' | ⟨g,cap,cur,h',h1,h2,hr⟩
 ·exact .inl h'
 ·refine .inr ⟨g,cap,cur,h',h1,?_,hr⟩;have hg:g<w.heap.size:=(Array.getElem?_eq_some_iff.1 h2).1;rw [hb.block g hg];exact h2
theorem b9.nil(w:World)(base:Nat):b9 w base (.slice none 0 0) []:=World.ownsRow_nil _ _ _ _
theorem b9.dx{l:List Lk}(h:b9 w base v l):∀ k,v.ownBlock=some k→base≤k∧k<w.heap.size:=World.ownsRow.lt h
theorem fs(base:Nat)(v s:Value)(xs us:List Lk)(w:World)(aE:b9 w base v xs)(hs:dm w s us)(hb:(xs.length+us.length)*16≤140737488355328)(dd:base≤w.heap.size):∃ a' eO w',(Builtin.append_ #[153,153] 153 #[v,s]).run prog w = .ok (.slice a' (xs.length+us.length) eO) w'∧b9 w' base (.slice a' (xs.length+us.length) eO) (xs++us)∧w.grownBy w' v.ownBlock:=by
 obtain ⟨a',c',w',h1,h2,h3⟩:=jW 153 97 .nilIface 16 lL underlying153 rfl base xs.length v (bn xs) w aE s (bn us) hs (fW us) (by rw [aU];omega) (by decide) dd
 have e:(bn us).length=us.length:=by rw [aU,Nat.mul_one]
 rw [e] at h1 h2;refine ⟨a',c',w',h1,?_,h3⟩;unfold b9;rw [ae,di];exact h2
theorem oL(ad:Addr)(n cap:Nat)(l:List Lk)(w:World)(hm:l.length≤1000000)(hn:l.length=n)(hr:dm w (.slice (some ad) n cap) l):Calls prog 164 #[.slice (some ad) n cap] w fun e w'=>∃ u,e = .returned u∧b9 w' w.heap.size u l∧Below w.heap.size w w':=by
 have qP:∀ w,(binOp .eql 153 (.slice (some ad) n cap) (.slice none 0 0)).run prog w = .ok (.bool false) w:=fun w=>by
  have h2:∀ d:Nat,(Op.equalIn (d+1) 153 (.slice (some ad) n cap) (.slice none 0 0)).run prog w = .ok false w:=fun d=>by
   simp [Op.equalIn,run_underlying underlying153]
  simp only [binOp];simp [Op.equal,Op.maxDepth,h2 9999]
 have fc:=ai w (.cells #[] 97);have ho:b9 (w.alloc (.cells #[] 97)) w.heap.size (.slice (some ⟨w.heap.size,0,none⟩) 0 0) []:=World.ownsRow_lit w #[] 0 (aj _) (aB _) rfl;obtain ⟨a1,c1,w1,bw,aE,hg⟩:=fs w.heap.size _ _ [] l _ ho (hr.below fc) (by simp;omega) (by simp)
 rw [List.length_nil,Nat.zero_add,hn] at bw aE;rw [List.nil_append] at aE;have aO:Below w.heap.size w w1:=fc.grown hg (by simp) (fun k hk=>by simp [Value.ownBlock] at hk;omega)
 have HO:=ab aE;have HB:=ab aO;clear hr fc ho aE hg aO;go_enter func164,ntmps164;go_wp2_with (first | (at_builtin;refine wpList_append_run 153 rfl (.tmp 5) (.tmp 6) rfl rfl _ _ rfl rfl _ _ bw ?_))
 clear bw;go_ret;exact ⟨_,rfl,HO.out,HB.out⟩
theorem eN(v:Value)(l:List Lk)(w:World)(hm:l.length≤1000000)(hr:dm w v l):Calls prog 164 #[v] w fun e w'=>∃ u,e = .returned u∧b9 w' w.heap.size u l∧Below w.heap.size w w':=by
 obtain ⟨a,c,hv⟩:=hr.form;subst hv;cases a with
 | some ad=>exact oL ad l.length c l w hm rfl hr
 | none =>
  have h0:l=[]∧c=0:=by
   obtain ⟨a',c',he,_,hn,hc⟩:=hr;simp only [Value.slice.injEq] at he;obtain ⟨rfl,-,rfl⟩:=he;refine ⟨?_,hn rfl⟩;cases l with
   | nil=>rfl
   | cons p r=>obtain ⟨g,o,he,_⟩:=hc 0 p.val rfl;cases he
  obtain ⟨rfl,rfl⟩:=h0;have qP:∀ w,(binOp .eql 153 (.slice none 0 0) (.slice none 0 0)).run prog w = .ok (.bool true) w:=fun w=>by
   have h2:∀ d:Nat,(Op.equalIn (d+1) 153 (.slice none 0 0) (.slice none 0 0)).run prog w = .ok true w:=fun d=>by
    simp [Op.equalIn,run_underlying underlying153]
   simp only [binOp];simp [Op.equal,Op.maxDepth,h2 9999]
  clear hr;rw [List.length_nil];go_enter func164,ntmps164;go_wp2;go_ret;exact ⟨_,rfl,b9.nil _ _,Below.refl _ _⟩
end C
end Go.Proofs.YtihmgigfkmofnaaGreatDoor
namespace Go.Proofs.YtihmgigfkmofnaaGreatDoor
namespace C
open Go.RowKit
theorem j6(n:Nat):(Builtin.zeroCells (Value.nilIface).cells n).size=n*1:=by
 simp [Builtin.zeroCells,Value.cells]
theorem tS(n:Nat)(w:World)(hn:n*16≤140737488355328):Calls prog 206 #[.slice none 0 0,.int .i64 (n:Int)] w fun e w'=>∃ u,e = .returned u∧b9 w' w.heap.size u []∧Below w.heap.size w w':=by
 obtain ⟨i0,hi,hz,b8,kQ⟩:=info_parts lL;have Gi:decide ((n:Int)<0)=false:=decide_eq_false (by omega)
 by_cases h0:0<n
 ·have bw:=Lib.run_append_nil_zeros (P:=prog) w 153 3 153 97 i0 _ .i64 .i64 underlying153 underlying3 hi hz n h0 (by omega) (by omega) (by rw [kQ];omega)
  have H9:(0:Int)<(n:Int):=by omega
  have hw:IntKind.i64.wrap ((n:Int))=(n:Int):=by rw [IntKind.wrap_i64];omega
  generalize dj:grownCap w n 0 97=cap at *;have hle:n≤cap:=by rw [← dj];exact grownCap_ge _ _ _ _
  have VQ:cap≤maxLen:=by rw [← dj];exact grownCap_le_maxLen _ _ _ _ (by unfold maxLen;omega)
  generalize fI:Builtin.zeroCells _ n++Builtin.zeroCells _ (cap - n)=cs at bw;have E5:cs.size=cap*1:=by rw [← fI,ew,j6,j6];omega
  have HO:Hid (b9 (w.drew.alloc (.cells cs 97)) w.heap.size (.slice (some ⟨w.heap.size,0,none⟩) 0 cap) []) :=
   ⟨by simp [bn],.inr ⟨w.heap.size,cap,cs,rfl,aj _,heap_alloc_new w.drew _,aB _,VQ,E5,by simp [bn]⟩⟩
  have HB:Hid (Below w.heap.size w (w.drew.alloc (.cells cs 97))):=((Below.refl _ _).drew).alloc (aj _) _;clear fI dj hi hz b8 kQ E5;go_enter func206,ntmps206;go_wp2_with (first | (at_builtin;refine Lib.wpList_append_run _ rfl (.tmp 20) (.tmp 21) 153 3 rfl _ _ rfl rfl _ _ bw ?_))
  go_ret;exact ⟨_,rfl,HO.out,HB.out⟩
 ·obtain rfl:n=0:=by omega
  go_enter func206,ntmps206;go_wp2;go_ret;exact ⟨_,rfl,b9.nil _ _,Below.refl _ _⟩
def cW(LL:List (List Lk))(k:Nat):Nat:=((LL.take k).flatten).length
theorem jo(LL:List (List Lk))(k:Nat)(h:k<LL.length):cW LL (k+1)=cW LL k+LL[k].length:=by
 unfold cW;rw [ax h,dH,ae];simp
theorem lq(LL:List (List Lk))(k:Nat):cW LL k≤LL.flatten.length:=by
 unfold cW;conv=>rhs;rw [← aI k LL,dH,ae]
 omega
theorem oK(B m cap:Nat)(uQ:List Value)(LL:List (List Lk))(w:World)(hm:LL.length=m)(J5:m≤3)(hs:uQ.length=m)(fY:LL.flatten.length*16≤140737488355328)(hc:∀ j (h:j<uQ.length),w.cell? ⟨B,j,none⟩=some uQ[j])(hr:∀ j (h:j<LL.length) (h':j<uQ.length),dm w uQ[j] LL[j]):Calls prog 166 #[.slice (some ⟨B,0,none⟩) m cap] w fun e w'=>∃ u,e = .returned u∧b9 w' w.heap.size u LL.flatten∧Below w.heap.size w w':=by
 have HM:=ab hm;have HS:=ab hs;have HC:=ab hc;have HR:=ab hr;have rn:=ab fY;obtain ⟨T,hT⟩ : ∃ T,T=LL.flatten.length:=⟨_,rfl⟩;have HT:=ab hT;have hTb:T*16≤140737488355328:=by rw [hT];exact fY
 have Sm:Hid (cW LL 0=0):=by show _=_;simp [cW]
 clear hm hs hc hr fY hT;go_enter func166,ntmps166;go_wp2;go_loop [3,11] (fun r i=>∃ k:Nat,k≤m∧i = .int .i64 k∧r = .int .i64 (cW LL k:Int)) (fun _ i=>m - (intOf i).toNat)
 case atStart=>exact ⟨0,aB _,rfl,by rw [Sm.out];rfl⟩
 case round =>
  obtain ⟨k,hk,rfl,rfl⟩:=hrel;by_cases bO:k<m
  ·have iV:k<uQ.length:=by have:=HS.out;omega
   have qk:k<LL.length:=by have:=HM.out;omega
   have c1:=HC.out k iV;obtain ⟨a,c,hf⟩:=(HR.out k qk iV).form;rw [hf] at c1;have Wm:=ab (jo LL k qk);have wR:=ab (lq LL (k+1));obtain ⟨x,hx⟩ : ∃ x,x=cW LL k:=⟨_,rfl⟩;obtain ⟨y,hy⟩ : ∃ y,y=cW LL (k+1):=⟨_,rfl⟩;obtain ⟨z,hz⟩ : ∃ z,z=LL[k].length:=⟨_,rfl⟩;rw [← hx,← hy,← hz] at Wm;rw [← hy,← HT.out] at wR;rw [← hx];rw [← hz] at c1;have HY:=ab hy;have hw:IntKind.i64.wrap ((x:Int)+(z:Int))=(y:Int):=by rw [IntKind.wrap_i64];have:=Wm.out;have:=wR.out;omega
   have Gi:decide ((y:Int)<0)=false:=decide_eq_false (by omega)
   have dE:(k:Int)<(m:Int):=by omega
   clear hx hy hz hf HC HR;go_wp2;go_round
   case rel=>exact ⟨k+1,by omega,by go_num,by rw [← HY.out]⟩
   case measure=>simp [intOf];omega
  ·have Md:k=m:=by omega
   subst Md;have dn:cW LL k=T:=by
    rw [HT.out];unfold cW;rw [ao (by rw [HM.out];exact aj _)]
   rw [dn];have dE:¬ (k:Int)<(k:Int):=by omega
   have HG:=ab (tS T w hTb);clear dn bO hk;go_wp2_with fail;refine HG.out.mono ?_
   rintro e w1 ⟨u,rfl,aE,aO⟩;have HO:=ab aE;have bT:=ab aO;clear aE aO HG;go_wp2;go_loopw [6,27] (fun u i wr=>∃ j:Nat,j≤k∧i = .int .i64 j∧b9 wr w.heap.size u ((LL.take j).flatten)∧Below w.heap.size w wr) (fun _ i _=>k - (intOf i).toNat)
   case atStart=>exact ⟨0,aB _,rfl,by simpa using HO.out,bT.out⟩
   case round =>
    obtain ⟨j,hj,rfl,aE,bQ⟩:=hrel;clear HO bT;by_cases bO:j<k
    ·have iV:j<uQ.length:=by have:=HS.out;omega
     have qk:j<LL.length:=by have:=HM.out;omega
     have c0:=HC.out j iV;have c1:wr.cell? ⟨B,j,none⟩=some uQ[j]:=(bQ.cell (p:=⟨B,j,none⟩) (World.block_lt_of_cell? w _ c0)).trans c0;have fX:=(HR.out j qk iV).below bQ;have hle:=lq LL (j+1);rw [jo LL j qk,← HT.out] at hle;unfold cW at hle;obtain ⟨a1,cp1,w2,bw,ic,fM⟩:=fs w.heap.size _ _ _ _ wr aE fX (by omega) bQ.size
     have aV:Below w.heap.size w w2:=bQ.grown fM bQ.size (fun q hq=>(aE.dx q hq).1)
     obtain ⟨a,c,hf⟩:=fX.form;obtain ⟨ua,uc,hu⟩:=aE.form;subst hu;rw [hf] at c1 bw;have il:(LL.take j).flatten++LL[j]=(LL.take (j+1)).flatten:=by
      rw [ax qk,dH];simp
     rw [il] at ic;generalize ((LL.take j).flatten).length=L1 at *;generalize LL[j].length=L2 at *;have jx:=ab ic;have bL:=ab aV;have dE:(j:Int)<(k:Int):=by omega
     clear hf HC HR aE ic bQ aV fM fX c0 hle;go_wp2_with (first | (at_builtin;refine wpList_append_run 153 rfl (.tmp 31) (.tmp 32) rfl rfl _ _ rfl rfl _ _ bw ?_))
     clear bw;go_wp2;go_roundw
     case rel=>exact ⟨j+1,by omega,by go_num,jx.out,bL.out⟩
     case measure=>simp [intOf];omega
    ·have dn:LL.take j=LL:=by rw [ao];have:=HM.out;omega
     rw [dn] at aE;have HO:=ab aE;have HB:=ab bQ;have dE:¬ (j:Int)<(k:Int):=by omega
     clear aE bQ dn HC HR;go_wp2;go_ret;exact ⟨_,rfl,HO.out,HB.out⟩
open Go.Lib
theorem ee{P:Program}(w:World)(dT sT ty elem:TypeId)(g o IB Ya:Nat)(a:Addr)(GM WT:Nat)(cur:Array Value)(t:TypeId)(cs:List Value)(hu:P.underlying dT=some (.slice elem))(hs:(P.info? elem).map (·.size)=some 1)(hg:w.heap[g]?=some (.cells cur t (0,0)))(hn:cs.length=Nat.min GM IB*1)(H5:∀ j v,cs[j]?=some v→w.cell? (a.add j)=some v)(eF:o+cs.length≤cur.size)(h1:∀ v ∈ cs,v.oneCell'=true):(Builtin.copy_ #[dT,sT] ty #[.slice (some ⟨g,o,none⟩) IB Ya,.slice (some a) GM WT]).run P w = .ok (goInt (Nat.min GM IB)) (w.setRow g (cur.toList.take o++cs++cur.toList.drop (o+cs.length)).toArray):=by
 have hl:=run_loadCells_list (P:=P) w a cs H5;have eZ:=run_storeCells_at P g o t cs 0 cur w hg (by simpa using eF) h1
 cases hq:P.info? elem with
 | none=>simp [hq] at hs
 | some i =>
  have hi:i.size=1:=by simpa [hq] using hs
  simp [Builtin.copy_,run_underlying hu,Builtin.lenOf,Builtin.firstCells,sizeOf,typeInfo,hq,hi,← hn,hl,eZ]
theorem lf{P:Program}(w:World)(t e ty:TypeId)(x:Value)(ht:P.underlying t=some (.slice e))(hv:∀ w,(zeroValue e).run P w = .ok x w)(hx:x.oneCell'=true)(hxc:x.cells=#[x])(g o c:Nat)(cur:Array Value)(tt:TypeId)(hg:w.heap[g]?=some (.cells cur tt (0,0)))(eF:o+1≤cur.size):(Builtin.clear_ #[t] ty #[.slice (some ⟨g,o,none⟩) 1 c]).run P w = .ok (.tuple #[]) (w.setRow g (cur.toList.take o++[x]++cur.toList.drop (o+1)).toArray):=by
 have YV:(Builtin.zeroCells x.cells 1).toList=[x]:=by
  rw [hxc];simp [Builtin.zeroCells,Array.range]
 have eZ:=run_storeCells_at P g o tt [x] 0 cur w hg (by simpa using eF) (by intro v T9;simp at T9;subst T9;exact hx)
 simp [Builtin.clear_,run_underlying ht,hv,YV,eZ]
theorem eo(l:List Lk):(bn l).length=l.length:=by simp [bn]
theorem B8(l:List Lk)(i:Nat):bn (l.take i)=(bn l).take i:=by simp [bn,List.map_take]
theorem PT(l:List Lk)(i:Nat):bn (l.drop i)=(bn l).drop i:=by simp [bn,List.map_drop]
theorem yj(base:Nat)(v:Value)(l:List Lk)(vb:Nat)(p:Lk)(w:World)(hm:l.length≤5864062014800)(ho:b9 w base v l)(dd:base≤w.heap.size)(hv:dm w (.slice (some ⟨vb,0,none⟩) 1 1) [p]):Calls prog 204 #[v,.int .i64 (l.length:Int),.slice (some ⟨vb,0,none⟩) 1 1] w fun e w'=>∃ u,e = .returned u∧b9 w' base u (l++[p])∧Below base w w':=by
 obtain ⟨a',c',w1,bw,aE,hg⟩:=fs base v _ l [p] w ho hv (by simp;omega) dd
 have aO:Below base w w1:=(Below.refl base w).grown hg dd (fun k hk=>(ho.dx k hk).1)
 have HO:=ab aE;have HB:=ab aO;have dj:∃ a c,v = .slice a l.length c∧l.length≤c:=by
  obtain ⟨a,c,rfl,hle,_⟩:=ho.at;exact ⟨a,c,by rw [eo],by rw [eo] at hle;exact hle⟩
 obtain ⟨a,c,rfl,hle⟩:=dj;rw [show ([p] : List Lk).length=1 from rfl] at bw
 obtain ⟨n,hn⟩ : ∃ n,n=l.length:=⟨_,rfl⟩;rw [← hn] at bw hle hm ⊢;have HN:=ab hn;clear aE hg aO ho hv hn;by_cases ue:c=n
 ·go_enter func204,ntmps204;go_wp2_with (first | (at_builtin;refine wpList_append_run 153 rfl (.tmp 23) (.tmp 24) rfl rfl _ _ rfl rfl _ _ bw ?_))
  clear bw;go_ret;exact ⟨_,rfl,by have:=HO.out;rwa [show l.length + [p].length=n+1 by rw [HN.out];rfl] at this,HB.out⟩
 ·go_enter func204,ntmps204;go_wp2_with (first | (at_builtin;refine wpList_append_run 153 rfl (.tmp 23) (.tmp 24) rfl rfl _ _ rfl rfl _ _ bw ?_))
  clear bw;go_ret;exact ⟨_,rfl,by have:=HO.out;rwa [show l.length + [p].length=n+1 by rw [HN.out];rfl] at this,HB.out⟩
theorem gU{w:World}{g:Nat}{cur:Array Value}{t:TypeId}{l:List Lk}(hg:w.heap[g]?=some (.cells cur t (0,0)))(ht:cur.toList.take (l.length)=bn l)(i:Nat):∀ j u,(bn (l.drop i))[j]?=some u→w.cell? ⟨g,i+j,none⟩=some u:=by
 intro j u h;rw [PT,← ht,bZ,cO] at h;split at h
 ·rw [Array.getElem?_toList] at h;simp [World.cell?,hg,h]
 ·cases h
theorem Po(w:World)(g vb i n1 c1:Nat)(cur vs:Array Value)(tA tB:TypeId)(cY:vb≠g)(hg:w.heap[g]?=some (.cells cur tA (0,0)))(hv:w.heap[vb]?=some (.cells vs tB (0,0)))(h0:cur.size≠0):(callFunc 232 #[.slice (some ⟨vb,0,none⟩) 1 1,.slice (some ⟨g,i,none⟩) n1 c1]).run prog w = .ok (.value (.bool false)) w:=by
 rw [run_callFunc_extern func232 (by kernel_rfl) (by kernel_rfl) (by kernel_rfl) (e:=Extern.SlicesOverlaps.overlaps #[153,153] #[4]) (by kernel_rfl),
  Lib.run_overlaps_apart w 153 4 97 underlying153 1 sizeOf97 ⟨vb,0,none⟩ ⟨g,i,none⟩ 1 1 n1 c1 cY tB tA vs.size cur.size (by simp [World.shape?,hv]) (by simp [World.shape?,hg]) h0 (by simp [World.frozen?,hv]) (by simp [World.frozen?,hv])]
 rfl
theorem tQ(g c:Nat)(l:List Lk)(i vb:Nat)(p:Lk)(w:World)(cur:Array Value)(hi:i<l.length)(aff:c≤9223372036854775807)(eb:l.length+1≤c)(hg:w.heap[g]?=some (.cells cur 97 (0,0)))(b8:cur.size=c)(ht:cur.toList.take (l.length)=bn l)(hv:w.heap[vb]?=some (.cells #[p.val] 97 (0,0)))(cY:vb≠g):Calls prog 204 #[.slice (some ⟨g,0,none⟩) l.length c,.int .i64 (i:Int),.slice (some ⟨vb,0,none⟩) 1 1] w fun e w'=>e = .returned (.slice (some ⟨g,0,none⟩) (l.length+1) c)∧∃ fN:Array Value,w'=w.drew.setRow g fN∧fN.size=c∧fN.toList.take ((l.length+1))=bn (dJ l i p):=by
 obtain ⟨n,hn⟩ : ∃ n,n=l.length:=⟨_,rfl⟩;have hov:=fun j n1 c1=>Po w g vb j n1 c1 cur _ _ _ cY hg hv (by omega)
 have iL:(prog.info? 97).map (·.size)=some 1:=by kernel_rfl
 have jE:(bn (l.drop i)).length=(n - i):=by rw [eo,al,hn]
 obtain ⟨C1,qR⟩ : ∃ C:Array Value,C=(cur.toList.take ((i+1))++bn (l.drop i)++cur.toList.drop ((i+1)+(bn (l.drop i)).length)).toArray:=⟨_,rfl⟩;have mR:C1.size=c:=by rw [qR];simp [jE,b8];omega
 obtain ⟨C2,sE⟩ : ∃ C:Array Value,C=(C1.toList.take (i)++bn [p]++C1.toList.drop (i+(bn [p]).length)).toArray:=⟨_,rfl⟩;have pL:C2.size=c:=by rw [sE];simp [bn,mR];omega
 have hU:C2.toList.take ((n+1))=bn (dJ l i p):=by
  have e1:cur.toList.take (i)=bn (l.take i):=by
   rw [B8,← ht,gS,aT (by omega)]
  have l1:(bn (l.take i)).length=i:=by rw [eo,ag];omega
  have e2:C1.toList.take (i)=bn (l.take i):=by
   rw [qR,List.toList_toArray,ay,aH (by simp [b8];omega),gS,aT (by omega),e1]
  have e3:C1.toList.drop (i+(bn [p]).length)=bn (l.drop i)++cur.toList.drop ((i+1)+(bn (l.drop i)).length):=by
   rw [qR,List.toList_toArray,ay,ij (by simp [b8,bn];omega),dC (by simp [b8,bn];omega)]
   rfl
  rw [sE,List.toList_toArray,e2,e3,dJ,di,show p::l.drop i=[p]++l.drop i from rfl,di,← ay,← ay,aH (by simp only [ae,jE,l1,eo,aQ];omega),ao (by simp only [ae,jE,l1,eo,aQ];omega)]
 have XR:∀ ty dc sc,(Builtin.copy_ #[153,153] ty #[.slice (some ⟨g,(i+1),none⟩) (n - i) dc,.slice (some ⟨g,i,none⟩) (n+1 - i) sc]).run prog w.drew = .ok (goInt (Nat.min (n+1 - i) (n - i))) (w.drew.setRow g C1):=fun ty dc sc=>by
  rw [qR];exact ee w.drew 153 153 ty 97 g ((i+1)) (n - i) dc ⟨g,i,none⟩ (n+1 - i) sc cur 97 (bn (l.drop i)) underlying153 iL hg (by rw [jE];simp only [kJ];split <;> omega) (fun j u hj=>by rw [bh];exact gU hg ht i j u hj) (by rw [jE,b8];omega) (fW _)
 have fM:(w.drew.setRow g C1).heap[g]?=some (.cells C1 97 (0,0)):=setRow_heap w.drew g cur C1 97 (0,0) hg;have fD:(w.drew.setRow g C1).heap[vb]?=some (.cells #[p.val] 97 (0,0)):=(setRow_other w.drew g vb C1 cY).trans hv;have XQ:∀ ty dc,(Builtin.copy_ #[153,153] ty #[.slice (some ⟨g,i,none⟩) (n+1 - i) dc,.slice (some ⟨vb,0,none⟩) 1 1]).run prog (w.drew.setRow g C1) = .ok (goInt (Nat.min 1 (n+1 - i))) (w.drew.setRow g C2):=fun ty dc=>by
  have h:=ee (w.drew.setRow g C1) 153 153 ty 97 g (i) (n+1 - i) dc ⟨vb,0,none⟩ 1 1 C1 97 (bn [p]) underlying153 iL fM (by simp only [eo,aQ,kJ];split <;> omega) (fun j u hj=>by
   rw [bh];have lY:(#[p.val] : Array Value)[j]?=some u:=by simpa [bn] using hj
   simp [World.cell?,fD,lY]) (by simp [bn,mR];omega) (fW _)
  rw [h,sE,setRow_setRow]
 have HF:=ab hU;have HZ:=ab pL;have mixed:prog.follows Departure.mixedOrders=true:=by kernel_rfl
 have mR:¬ ((i:Int)=(n:Int)):=by omega
 have sS:IntKind.i64.wrap ((i:Int)+1)=(i:Int)+1:=by rw [IntKind.wrap_i64];omega
 have Sw:IntKind.i64.wrap ((n:Int)+1)=(n:Int)+1:=by rw [IntKind.wrap_i64];omega
 have Y1:((i:Int)+1).toNat=i+1:=by omega
 have aew:((n:Int)+1).toNat=n+1:=by omega
 have aO:(0:Int)≤(i:Int)+1:=by omega
 have aV:¬ (c=i+1):=by omega
 have fS:¬ (c=i):=by omega
 have Ie:(i:Int)≤(n:Int):=by omega
 have bW:(i:Int)≤(n:Int)+1:=by omega
 have XM:i≤n:=by omega
 have ae1:i+1≤n+1:=by omega
 rw [← hn] at eb ⊢;clear qR sE hU pL jE fM fD ht b8 hg hv hn hi;go_enter func204,ntmps204;go_wp2_with (simp only [hov])
 go_region_law_o (refine step_copy_runI rfl _ _ 153 153 rfl _ _ (by simp [Act.eval,Act.put]) (by simp [Act.eval,Act.put]) (XR _ _ _) ?_)
 go_wp2_with (at_builtin;refine wpList_copy_runI _ rfl _ _ 153 153 rfl _ _ rfl rfl (XQ _ _) ?_)
 go_ret;exact ⟨rfl,C2,rfl,HZ.out,HF.out⟩
theorem wW(k:Nat):(Builtin.zeroCells (Value.nilIface).cells k).size=k:=by
 have:(Value.nilIface).cells=#[.nilIface]:=rfl;simp [Builtin.zeroCells,this]
theorem tR(g c:Nat)(l:List Lk)(i vb:Nat)(p:Lk)(w:World)(cur:Array Value)(hi:i<l.length)(hm:l.length≤5864062014800)(CR:l.length≤c)(eb:c<l.length+1)(hg:w.heap[g]?=some (.cells cur 97 (0,0)))(ht:cur.toList.take (l.length)=bn l)(hv:w.heap[vb]?=some (.cells #[p.val] 97 (0,0))):Calls prog 204 #[.slice (some ⟨g,0,none⟩) l.length c,.int .i64 (i:Int),.slice (some ⟨vb,0,none⟩) 1 1] w fun e w'=>∃ G:Nat,e = .returned (.slice (some ⟨w.heap.size,0,none⟩) (l.length+1) G)∧l.length+1≤G∧G≤maxLen∧∃ fN:Array Value,w'.heap[w.heap.size]?=some (.cells fN 97 (0,0))∧Below w.heap.size w w'∧fN.size=G∧fN.toList.take ((l.length+1))=bn (dJ l i p):=by
 obtain ⟨n,hn⟩ : ∃ n,n=l.length:=⟨_,rfl⟩;obtain ⟨i0,ud,nY,Ht,Qf⟩:=info_parts lL;have iL:(prog.info? 97).map (·.size)=some 1:=by rw [ud];simp [Ht]
 have QG:g<w.heap.size:=(Array.getElem?_eq_some_iff.1 hg).1;have hvw:vb<w.heap.size:=(Array.getElem?_eq_some_iff.1 hv).1;have jE:(bn (l.drop i)).length=(n - i):=by rw [eo,al,hn]
 have l1:(bn (l.take i)).length=i:=by rw [eo,ag];omega
 have SF:(n:Int)+1 - (i:Int)=((n+1 - i:Nat):Int):=by omega
 have SH:i+(n+1 - i)=n+1:=by omega
 have hold:(Builtin.firstCells i0.size i (.slice (some ⟨g,0,none⟩) i c)).run prog w.drew = .ok (bn (l.take i)).toArray w.drew:=by
  rw [Ht];refine run_firstCells_some w.drew 1 i ⟨g,0,none⟩ i c (bn (l.take i)) (by rw [Nat.mul_one];exact l1) (fun j v hj=>?_)
  rw [bh,Nat.zero_add];rw [B8,cO] at hj;split at hj
  ·have:=gU hg ht 0 j v (by simpa using hj)
   simpa using this
  ·cases hj
 obtain ⟨G,hG⟩ : ∃ G,G=grownCap w (n+1) c 97:=⟨_,rfl⟩;obtain ⟨R,hR⟩ : ∃ R:Array Value,R=(bn (l.take i)).toArray++Builtin.zeroCells (Value.nilIface).cells (n+1 - i)++Builtin.zeroCells (Value.nilIface).cells (G - (n+1)):=⟨_,rfl⟩;have Xv:∀ ty,(Builtin.append_ #[153,3] ty #[.slice (some ⟨g,0,none⟩) i c,.int .i64 ((n:Int)+1 - (i:Int))]).run prog w =
   .ok (.slice (some ⟨w.heap.size,0,none⟩) (n+1) G) (w.drew.alloc (.cells R 97)):=fun ty=>by
  have h:=Lib.run_append_grow_zeros w 153 3 ty 97 i0 _ .i64 .i64 underlying153 underlying3 ud nY (some ⟨g,0,none⟩) i c (bn (l.take i)) hold (n+1 - i) (by omega) (by omega) (by omega) (by omega) (by rw [Qf];omega) (by rw [Qf,SH];exact growslice_fits (by omega) (by omega))
  rw [SH] at h;rw [SF,hR,hG];exact h
 have hGn:n+1≤G:=by rw [hG];exact grownCap_ge w _ _ _
 have X0:G≤maxLen:=by rw [hG];exact grownCap_le_maxLen w (n+1) c 97 (by unfold maxLen;omega)
 have XY:R.size=G:=by
  rw [hR,ew,ew,wW,wW];simp [l1];omega
 obtain ⟨W1,ig⟩ : ∃ W1,W1=w.drew.alloc (.cells R 97):=⟨_,rfl⟩;have J9:W1.heap[w.heap.size]?=some (.cells R 97 (0,0)):=by rw [ig];exact heap_alloc_new w.drew _
 have Gk:Below w.heap.size w W1:=by rw [ig];exact (B.aP (Below.refl _ _)).alloc (aj _) _
 have fM:W1.heap[g]?=some (.cells cur 97 (0,0)):=(Gk.block g QG).trans hg;have fD:W1.heap[vb]?=some (.cells #[p.val] 97 (0,0)):=(Gk.block vb hvw).trans hv;rw [← ig] at Xv;obtain ⟨C1,qR⟩ : ∃ C:Array Value,C=(R.toList.take (i)++bn [p]++R.toList.drop (i+(bn [p]).length)).toArray:=⟨_,rfl⟩;have mR:C1.size=G:=by rw [qR];simp [bn,XY];omega
 obtain ⟨C2,sE⟩ : ∃ C:Array Value,C=(C1.toList.take ((i+1))++bn (l.drop i)++C1.toList.drop ((i+1)+(bn (l.drop i)).length)).toArray:=⟨_,rfl⟩;have pL:C2.size=G:=by rw [sE];simp [jE,mR];omega
 have hU:C2.toList.take ((n+1))=bn (dJ l i p):=by
  have e0:R.toList.take (i)=bn (l.take i):=by
   rw [hR,b7,b7,List.toList_toArray,ay,aH (by omega),ao (by omega)]
  have e1:C1.toList.take ((i+1))=bn (l.take i)++bn [p]:=by
   rw [qR,List.toList_toArray,e0,aH (by simp only [ae,l1,eo,aQ];omega),ao (by simp only [ae,l1,eo,aQ];omega)]
  rw [sE,List.toList_toArray,e1,dJ,di,show p::l.drop i=[p]++l.drop i from rfl,di,← ay,aH (by simp only [ae,jE,l1,eo,aQ];omega),ao (by simp only [ae,jE,l1,eo,aQ];omega)]
 have XE:vb≠w.heap.size:=by omega
 have Ck:g≠w.heap.size:=by omega
 have QP:∀ ty dc,(Builtin.copy_ #[153,153] ty #[.slice (some ⟨w.heap.size,i,none⟩) (n+1 - i) dc,.slice (some ⟨vb,0,none⟩) 1 1]).run prog W1 = .ok (goInt (Nat.min 1 (n+1 - i))) (W1.setRow w.heap.size C1):=fun ty dc=>by
  rw [qR];exact ee W1 153 153 ty 97 w.heap.size (i) (n+1 - i) dc ⟨vb,0,none⟩ 1 1 R 97 (bn [p]) underlying153 iL J9 (by simp only [eo,aQ,kJ];split <;> omega) (fun j u hj=>by
   rw [bh];have lY:(#[p.val] : Array Value)[j]?=some u:=by simpa [bn] using hj
   simp [World.cell?,fD,lY]) (by simp [bn,XY];omega) (fW _)
 have J8:(W1.setRow w.heap.size C1).drew.heap[w.heap.size]?=some (.cells C1 97 (0,0)):=setRow_heap W1 w.heap.size R C1 97 (0,0) J9;have zZ:(W1.setRow w.heap.size C1).drew.heap[g]?=some (.cells cur 97 (0,0)):=(setRow_other W1 w.heap.size g C1 Ck).trans fM;have QO:∀ ty dc sc,(Builtin.copy_ #[153,153] ty #[.slice (some ⟨w.heap.size,(i+1),none⟩) (n - i) dc,.slice (some ⟨g,i,none⟩) (n - i) sc]).run prog (W1.setRow w.heap.size C1).drew = .ok (goInt (Nat.min (n - i) (n - i))) ((W1.setRow w.heap.size C1).drew.setRow w.heap.size C2):=fun ty dc sc=>by
  rw [sE];exact ee (W1.setRow w.heap.size C1).drew 153 153 ty 97 w.heap.size ((i+1)) (n - i) dc ⟨g,i,none⟩ (n - i) sc C1 97 (bn (l.drop i)) underlying153 iL J8 (by rw [jE];simp only [kJ];split <;> omega) (fun j u hj=>by rw [bh];exact gU zZ ht i j u hj) (by rw [jE,mR];omega) (fW _)
 have QW:((W1.setRow w.heap.size C1).drew.setRow w.heap.size C2).heap[w.heap.size]?=some (.cells C2 97 (0,0)):=setRow_heap (W1.setRow w.heap.size C1).drew w.heap.size C1 C2 97 (0,0) J8;have Uz:Below w.heap.size w ((W1.setRow w.heap.size C1).drew.setRow w.heap.size C2):=below_setRow (B.aP (below_setRow Gk (aj _) C1)) (aj _) C2;obtain ⟨s,hs⟩ : ∃ s,s=w.heap.size:=⟨_,rfl⟩;rw [← hs] at Xv QP QO QW Uz ⊢;have HF:=ab hU;have HZ:=ab pL;have ZA:=ab QW;have eH:=ab Uz;have HG:=ab X0;have mixed:prog.follows Departure.mixedOrders=true:=by kernel_rfl
 have afC:G≤9223372036854775807:=by unfold maxLen at X0;omega
 have Qq:¬ ((i:Int)=(n:Int)):=by omega
 have sS:IntKind.i64.wrap ((i:Int)+1)=(i:Int)+1:=by rw [IntKind.wrap_i64];omega
 have Sw:IntKind.i64.wrap ((n:Int)+1)=(n:Int)+1:=by rw [IntKind.wrap_i64];omega
 have NL:IntKind.i64.wrap ((n:Int)+1 - (i:Int))=(n:Int)+1 - (i:Int):=by rw [IntKind.wrap_i64];omega
 have Y1:((i:Int)+1).toNat=i+1:=by omega
 have aO:(0:Int)≤(i:Int)+1:=by omega
 have bW:(i:Int)≤(n:Int)+1:=by omega
 have aV:¬ (G=i+1):=by omega
 have my:¬ (G=i):=by omega
 have fS:¬ (c=i):=by omega
 have Ie:(i:Int)≤(n:Int):=by omega
 have XM:i≤n:=by omega
 have Zb:(i:Int)≤(c:Int):=by omega
 have hcr:(c:Int)<(n:Int)+1:=by omega
 rw [← hn] at eb ⊢;clear qR sE hU pL mR jE fM fD zZ J9 J8 QW Gk Uz ht hg hv hi l1 SF SH hold XY hR hG QG hvw ud nY Ht Qf iL hn X0 XE Ck ig hs;go_enter func204,ntmps204;go_wp2_with (first
  | (at_builtin;refine Lib.wpList_append_run _ rfl _ _ _ _ rfl _ _ rfl rfl _ _ (Xv _) ?_)
  | (at_builtin;refine wpList_copy_runI _ rfl _ _ 153 153 rfl _ _ rfl rfl (QP _ _) ?_))
 go_region_law_o (refine step_copy_runI rfl _ _ 153 153 rfl _ _ (by simp [Act.eval,Act.put]) (by simp [Act.eval,Act.put]) (QO _ _ _) ?_)
 go_wp2;go_ret;exact ⟨G,rfl,hGn,HG.out,C2,ZA.out,eH.out,HZ.out,HF.out⟩
theorem b9.row{w:World}{base g c:Nat}{l:List Lk}{cur:Array Value}(hb:base≤g)(hg:w.heap[g]?=some (.cells cur 97 (0,0)))(CR:l.length≤c)(hc:c≤maxLen)(hs:cur.size=c)(ht:cur.toList.take (l.length)=bn l):b9 w base (.slice (some ⟨g,0,none⟩) l.length c) l :=
 ⟨by rw [eo,Nat.mul_one],.inr ⟨g,c,cur,rfl,hb,hg,CR,hc,by rw [hs,Nat.mul_one],by rw [Nat.mul_one];exact ht⟩⟩
theorem eX(l:List Lk)(i:Nat)(p:Lk)(h:i≤l.length):(dJ l i p).length=l.length+1:=by
 unfold dJ;rw [ae,List.length_cons,ag,al];omega
theorem yp(l:List Lk)(p:Lk):dJ l l.length p=l++[p]:=by simp [dJ]
theorem oI(base:Nat)(v:Value)(l:List Lk)(i vb:Nat)(p:Lk)(w:World)(hm:l.length≤5864062014800)(hi:i≤l.length)(ho:b9 w base v l)(dd:base≤w.heap.size)(hv:B.au w vb #[p.val] 97)(cY:v.ownBlock≠some vb):Calls prog 204 #[v,.int .i64 (i:Int),.slice (some ⟨vb,0,none⟩) 1 1] w fun e w'=>∃ u,e = .returned u∧b9 w' base u (dJ l i p)∧Below base w w':=by
 by_cases Ie:i=l.length
 ·subst Ie;rw [yp];refine yj base v l vb p w hm ho dd ⟨_,_,rfl,aj _,fun h=>(by cases h),fun j u hj=>⟨_,_,rfl,?_⟩⟩
  have lY:j<1:=(List.getElem?_eq_some_iff.1 hj).1;have Gg:j=0:=by omega
  subst Gg;cases hj;exact hv.cell 0 (by simp)
 ·have bO:i<l.length:=by omega
  rcases ho.2 with ⟨_,h0⟩ | ⟨g,c,cur,rfl,hb,hg,CQ,sA,fI,lE⟩
  ·omega
  ·by_cases hr:l.length+1≤c
   ·refine (tQ g c l i vb p w cur bO (by unfold maxLen at sA;omega) hr hg (by rw [fI,Nat.mul_one]) (by rw [Nat.mul_one] at lE;exact lE) hv (fun h=>cY (by rw [h];rfl))).mono ?_
    rintro e w' ⟨rfl,fN,rfl,h2,h3⟩;refine ⟨_,rfl,?_,below_setRow (B.aP (Below.refl _ _)) hb fN⟩;have:=b9.row (l:=dJ l i p) hb (setRow_heap w.drew g cur fN 97 (0,0) hg) (by rw [eX l i p hi];exact hr) sA h2 (by rw [eX l i p hi];exact h3)
    rwa [eX l i p hi] at this
   ·refine (tR g c l i vb p w cur bO hm CQ (by omega) hg (by rw [Nat.mul_one] at lE;exact lE) hv).mono ?_
    rintro e w' ⟨G,rfl,h1,h2,fN,h3,h4,h5,h6⟩;refine ⟨_,rfl,?_,h4.mono dd⟩;have:=b9.row (l:=dJ l i p) dd h3 (by rw [eX l i p hi];exact h1) h2 h5 (by rw [eX l i p hi];exact h6)
    rwa [eX l i p hi] at this
end C
end Go.Proofs.YtihmgigfkmofnaaGreatDoor
