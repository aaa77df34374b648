import Derived.Test.YtihmgigfkmofnaaGreatDoorG02
import Derived.Shelf.Spec.SlicesInsertGrow
import Derived.Laws.CopyRow
import Derived.Laws.CopyOwn
set_option maxHeartbeats 4000000
set_option maxRecDepth 100000
open Go.Proofs.Tryz
namespace Go.Proofs.YtihmgigfkmofnaaGreatDoor
theorem kT{X Y Z:List Pr}{key:ByteArray}(hX:∀ p ∈ X,cQ p.1 key=true)(hZ:∀ p ∈ Z,cQ key p.1=true):aP (X++(Y++Z)) key=X.length+aP Y key:=by
 have gU:=cD Y key;by_cases h:aP Y key<Y.length
 ·refine rX (by simp;omega) (fun j hj=>?_) ?_
  ·by_cases Vc:j<X.length
   ·rw [aJ Vc];exact hX _ (aI Vc)
   ·rw [bu (by omega),aJ (by omega)]
    exact lS Y key _ (by omega) (by omega)
  ·rw [bu (by omega),aJ (by omega)]
   simp only [show X.length+aP Y key - X.length=aP Y key by omega]
   exact rY Y key h
 ·have he:aP Y key=Y.length:=by omega
  have df:∀ j (hj:j<Y.length),cQ Y[j].1 key=true:=fun j hj=>lS Y key j (by omega) hj
  rw [he];cases Z with
  | nil =>
   rw [List.append_nil,qH,ae];intro j hj;rw [ae] at hj;by_cases Vc:j<X.length
   ·rw [aJ Vc];exact hX _ (aI Vc)
   ·rw [bu (by omega)];exact df _ (by omega)
  | cons z Z =>
   refine rX (by simp) (fun j hj=>?_) ?_
   ·by_cases Vc:j<X.length
    ·rw [aJ Vc];exact hX _ (aI Vc)
    ·rw [bu (by omega),aJ (by omega)];exact df _ (by omega)
   ·rw [bu (by omega),bu (by omega)]
    simp only [show X.length+Y.length - X.length - Y.length=0 by omega,List.getElem_cons_zero]
    exact mw (hZ z dk)
theorem Q3{X Y Z:List Pr}{n:Nat}(h:n<Y.length):(X++(Y++Z))[X.length+n]?=Y[n]?:=by
 rw [bf (by omega),show X.length+n - X.length=n by omega,bD h]
theorem nz{X Y Z:List Pr}{key:ByteArray}(hX:∀ p ∈ X,cQ p.1 key=true)(hZ:∀ p ∈ Z,cQ key p.1=true):bg (X++(Y++Z)) key=bg Y key:=by
 have gU:=cD Y key;unfold bg;rw [kT hX hZ];by_cases h:aP Y key<Y.length
 ·rw [Q3 h]
 ·have he:aP Y key=Y.length:=by omega
  rw [he,bf (by omega),show X.length+Y.length - X.length=Y.length by omega,bf (by omega),dR]
  rw [bB (aj Y.length)];cases Z with
  | nil=>rfl
  | cons z Z =>
   have:=hZ z dk;simp only [List.getElem?_cons_zero,decide_eq_false_iff_not];intro e;rw [e,nk] at this;cases this
theorem uU{X Y Z:List Pr}{key:ByteArray}(hX:∀ p ∈ X,cQ p.1 key=true)(hZ:∀ p ∈ Z,cQ key p.1=true):dd (X++(Y++Z)) key=X.length+dd Y key:=by
 unfold dd;rw [nz hX hZ,kT hX hZ];split <;> omega
theorem CY{X Y Z:List Pr}{n:Nat}(h:n≤Y.length):(X++(Y++Z)).take (X.length+n)=X++Y.take n:=by
 rw [List.take_append,al (by omega),show X.length+n - X.length=n by omega,aG h]
theorem ER{X Y Z:List Pr}{n:Nat}(h:n≤Y.length):(X++(Y++Z)).drop (X.length+n)=Y.drop n++Z:=by
 rw [List.drop_append,List.drop_of_length_le (by omega),show X.length+n - X.length=n by omega,im h,List.nil_append]
theorem N5{X Y Z:List Pr}{key value:ByteArray}(hX:∀ p ∈ X,cQ p.1 key=true)(hZ:∀ p ∈ Z,cQ key p.1=true):fu (X++(Y++Z)) key value=X++(fu Y key value++Z):=by
 unfold fu;rw [kT hX hZ,uU hX hZ,CY (cD _ _),ER (jQ _ _)];simp
theorem L4{X Y Z:List Pr}{key:ByteArray}(hX:∀ p ∈ X,cQ p.1 key=true)(hZ:∀ p ∈ Z,cQ key p.1=true):fX (X++(Y++Z)) key=X++(fX Y key++Z):=by
 unfold fX;rw [kT hX hZ,uU hX hZ,CY (cD _ _),ER (jQ _ _)];simp
theorem CZ(l:List Pr)(k:Nat):fY (l.drop k)≤fY l:=by
 have h:fY l=fY (l.take k)+fY (l.drop k):=by rw [← iH,aH]
 omega
theorem z7(l:List Pr){n m:Nat}(h:n≤m):fY (l.take n)+fY (l.drop m)≤fY l:=by
 have h1:fY l=fY (l.take n)+fY (l.drop n):=by rw [← iH,aH]
 have h2:l.drop m=(l.drop n).drop (m - n):=by rw [List.drop_drop];congr 1;omega
 rw [h2];have:=CZ (l.drop n) (m - n);omega
theorem Hp{l:List Pr}{key:ByteArray}(hr:gX l):gX (fX l key):=by
 refine uh (hr.take _) (hr.drop _) (fun p hp q hq=>?_)
 obtain ⟨i,hi,rfl⟩:=aO hp;obtain ⟨j,hj,rfl⟩:=aO hq;rw [ag] at hi;rw [ao] at hj;have:=eW l key;simp only [bF,cV];exact hr.lt i _ (by omega) (by omega)
theorem vV{key value:ByteArray}(hm:cN (key,value)=true):Fit key (fun l=>fu l key value) where
 loc:=fun _ _ _ hX hZ=>N5 hX hZ
 rise:=fun _ h=>N4 h
 mem:=fun l p hp=>by
  unfold fu at hp;rcases List.mem_append.1 hp with h | h
  ·exact .inl (bn h)
  ·rcases List.mem_cons.1 h with rfl | h
   ·exact .inr ⟨rfl,hm⟩
   ·exact .inl (bH h)
 size:=fun l=>by
  unfold fu;rw [iH,oa];have h1:=z7 l (eW l key);have h2:=eS hm;unfold z6;simp only at h2 ⊢;omega
theorem fit_drop(key:ByteArray):Fit key (fun l=>fX l key) where
 loc:=fun _ _ _ hX hZ=>L4 hX hZ
 rise:=fun _ h=>Hp h
 mem:=fun l p hp=>by
  unfold fX at hp;rcases List.mem_append.1 hp with h | h
  ·exact .inl (bn h)
  ·exact .inl (bH h)
 size:=fun l=>by
  unfold fX;rw [iH];have h1:=z7 l (eW l key);omega
abbrev cC:=Option ((h:Nat) × Nd h)
def aD:cC→List Pr
 | none=>[]
 | some r=>flat r.1 r.2
def wP:(h:Nat)→Nd h→Prop
 | 0,t=>t.2≠[]
 | _+1,t=>t.2.1≠[]
def fc:cC→Prop
 | none=>True
 | some r=>Ok r.1 r.2 none none∧nI r.1 r.2≤4072∧wP r.1 r.2
def tR(h:Nat)(t:Nd h)(r:cC):Prop :=
 (Mr h t∧∃ a k b,Cut h t a k b∧r=some ⟨h+1,(0,[k],[a,b])⟩) ∨
 (¬ Mr h t∧wP h t∧r=some ⟨h,t⟩) ∨
 (¬ Mr h t∧¬ wP h t∧match h,t with
  | 0,_=>r=none
  | h+1,t=>∃ c,t.2.2=[c]∧r=some ⟨h,c⟩)
theorem Aj{h:Nat}{t:Nd h}{r:cC}(ho:Ok h t none none)(hs:nI h t≤zn h)(hr:tR h t r):fc r∧aD r=flat h t:=by
 rcases hr with ⟨hb,a,k,b,hc,rfl⟩ | ⟨hb,h1,rfl⟩ | ⟨hb,h1,hm⟩
 ·obtain ⟨g1,g2,g3,g4,g5⟩:=QE ho hc hb hs;refine ⟨⟨⟨g3,g4,g1,g2⟩,?_,by simp [wP]⟩,by simp [aD,flat,← g5]⟩
  have e1:=iP k [];have e5:fE []=6:=rfl;unfold cP at g4;show fE [k]≤4072
  omega
 ·exact ⟨⟨ho,by unfold Mr at hb;show nI h t≤4072;omega,h1⟩,rfl⟩
 ·cases h with
  | zero =>
   subst hm;have:t.2=[]:=Classical.not_not.1 h1;exact ⟨trivial,by simp [aD,flat,this]⟩
  | succ h =>
   obtain ⟨c,hc,rfl⟩:=hm;have hk:t.2.1=[]:=Classical.not_not.1 h1;have G6:gY (kW h) none none t.2.1 t.2.2:=ho;rw [hk,hc] at G6;have ja:kW h c none none:=G6;refine ⟨⟨ja.1,ja.2.2,?_⟩,by simp [aD,flat,hc]⟩
   have hf:=ja.2.1;cases h with
   | zero =>
    intro e;have e:c.2=[]:=e;simp [xK,nI,e,q7] at hf
   | succ h =>
    intro e;have e:c.2.1=[]:=e;simp [xK,nI,e,fE] at hf
theorem Kp(h:Nat):4072+Af h≤zn h:=by cases h <;> simp [Af,zn]
def tP(key:ByteArray)(f:List Pr→List Pr):cC→cC→Prop
 | none,r'=>tR 0 (0,f []) r'
 | some r,r'=>∃ t',Yg key f r.1 r.2 t'∧tR r.1 t' r'
theorem oW{key:ByteArray}{f:List Pr→List Pr}(hf:Fit key f){r r':cC}(h:fc r)(hu:tP key f r r'):fc r'∧aD r'=f (aD r):=by
 cases r with
 | none =>
  have hu:tR 0 (0,f []) r':=hu;have h0:=hf.size [];rw [q7] at h0;exact Aj (h:=0) (t:=(0,f [])) ⟨hf.rise _ Dh,fun p hp=>by
   rcases hf.mem _ p hp with h1 | ⟨_,h2⟩
   ·simp at h1
   ·exact ⟨h2,Ji _⟩⟩ (by show fY (f [])≤5627;omega) hu
 | some r =>
  obtain ⟨t',h1,h2⟩:=hu;obtain ⟨g1,g2,g3⟩:=Nw hf r.1 h.1 (Ji key) h1;have:=Aj g1 (by have h9:nI r.1 r.2≤4072:=h.2.1;have h8:=Kp r.1;omega) h2
  exact ⟨this.1,by rw [this.2,g2];rfl⟩
def Way(key:ByteArray):(h:Nat)→Nd h→List Pr→Prop
 | 0,t,l=>l=t.2
 | h+1,t,l=>∃ (A B:List ByteArray) (C1:List (Nd h)) (c:Nd h) (C2:List (Nd h)),t.2.1=A++B∧t.2.2=C1++c::C2∧A.length=C1.length∧(∀ k ∈ A,cQ key k=false)∧(∀ k,B.head?=some k→cQ key k=true)∧Way key h c l
theorem F4{key:ByteArray}:∀ (h:Nat) {t:Nd h} {l:List Pr} {lo hi:Option ByteArray},Ok h t lo hi→Way key h t l→∃ X Z,flat h t=X++(l++Z)∧(∀ p ∈ X,cQ p.1 key=true)∧(∀ p ∈ Z,cQ key p.1=true)
 | 0,t,l,_,_,_,hw=>by
  have hw:l=t.2:=hw;exact ⟨[],[],by simp [flat,hw],(fun _ h=>by simp at h),(fun _ h=>by simp at h)⟩
 | h+1,t,l,lo,hi,ho,hw=>by
  obtain ⟨A,B,C1,c,C2,e1,e2,hl,hA,hB,hw'⟩:=hw;have G6:gY (kW h) lo hi (A++B) (C1++c::C2):=by rw [← e1,← e2];exact ho
  obtain ⟨hp,hc⟩:=(pd hl).1 G6;obtain ⟨X,Z,e,h1,h2⟩:=F4 h (rA hc).1 hw';refine ⟨C1.flatMap (flat h)++X,Z++C2.flatMap (flat h),?_,fun p G5=>?_,fun p G5=>?_⟩
  ·show t.2.2.flatMap (flat h)=_
   rw [e2,aR,List.flatMap_cons,e];simp
  ·rcases List.mem_append.1 G5 with h' | h'
   ·exact ry (P:=kW h) (fun _ _ _ hc=>pY h hc.1) hp hA p h'
   ·exact h1 p h'
  ·rcases List.mem_append.1 G5 with h' | h'
   ·exact h2 p h'
   ·exact tN (P:=kW h) (fun _ _ _ hc=>pY h hc.1) hc hB p h'
namespace C
open Go.RowKit Go.Lib
inductive Ch where
 | pg (id:Int)
 | nd (b:Nat)
def Ch.val:Ch→Value
 | .pg id=>.iface 146 (.int .i64 id)
 | .nd b=>.iface 152 (.pointer (some ⟨b,0,none⟩))
abbrev Lk:=Ch
def bh(l:List Lk):List Value:=l.map Ch.val
theorem cZ(a b:List Lk):bh (a++b)=bh a++bh b:=by simp [bh]
theorem aT(l:List Lk):(bh l).length=l.length*1:=by simp [bh]
theorem gJ(l:List Lk)(j:Nat)(h:j<l.length):(bh l)[j]?=some l[j].val:=by simp [bh,h]
theorem val_one(p:Ch):p.val.oneCell'=true:=by cases p <;> rfl
theorem gh(l:List Lk):∀ u ∈ bh l,u.oneCell'=true:=by
 intro u hu;simp only [bh,List.mem_map] at hu;obtain ⟨p,_,rfl⟩:=hu;exact val_one p
theorem lO:(prog.info? 97).map (fun i=>(i.zero,i.size,i.bytes))=some (some .nilIface,1,16):=by kernel_rfl
def dJ(l:List Lk)(i:Nat)(p:Lk):List Lk:=l.take i++p::l.drop i
def cA(l:List Lk)(i:Nat):List Lk:=l.take i++l.drop (i+1)
def di(w:World)(v:Value)(l:List Lk):Prop:=nG w v (bh l)
theorem di.below{w w':World}{v:Value}{l:List Lk}(h:di w v l)(hb:Below w.heap.size w w'):di w' v l:=nG.below h hb
theorem di.form{w:World}{v:Value}{l:List Lk}(h:di w v l):∃ a c,v = .slice a l.length c:=by
 obtain ⟨a,c,rfl,_⟩:=h;exact ⟨a,c,by rw [aT,Nat.mul_one]⟩
def b7(w:World)(base:Nat)(v:Value)(l:List Lk):Prop:=w.ownsRow base 97 1 v l.length (bh l)
theorem b7.at{w:World}{base:Nat}{v:Value}{l:List Lk}(h:b7 w base v l):di w v l:=gd h
theorem b7.form{w:World}{base:Nat}{v:Value}{l:List Lk}(h:b7 w base v l):∃ a c,v = .slice a l.length c:=h.at.form
theorem b7.below{w w':World}{base:Nat}{v:Value}{l:List Lk}(h:b7 w base v l)(hb:Below w.heap.size w w'):b7 w' base v l:=by
 refine ⟨h.1,?_⟩;rcases h.2 with h' | ⟨g,cap,cur,h',h1,h2,hr⟩
 ·exact .inl h'
 ·refine .inr ⟨g,cap,cur,h',h1,?_,hr⟩;have hg:g<w.heap.size:=(Array.getElem?_eq_some_iff.1 h2).1;rw [hb.block g hg];exact h2
theorem b7.nil(w:World)(base:Nat):b7 w base (.slice none 0 0) []:=World.ownsRow_nil _ _ _ _
theorem b7.dF{w:World}{base:Nat}{v:Value}{l:List Lk}(h:b7 w base v l):∀ k,v.ownBlock=some k→base≤k∧k<w.heap.size:=World.ownsRow.lt h
theorem fo(base:Nat)(v s:Value)(xs us:List Lk)(w:World)(aF:b7 w base v xs)(hs:di w s us)(hb:(xs.length+us.length)*16≤140737488355328)(dx:base≤w.heap.size):∃ a' eY w',(Builtin.append_ #[153,153] 153 #[v,s]).run prog w = .ok (.slice a' (xs.length+us.length) eY) w'∧b7 w' base (.slice a' (xs.length+us.length) eY) (xs++us)∧w.grownBy w' v.ownBlock:=by
 obtain ⟨a',c',w',h1,h2,h3⟩:=nF 153 97 .nilIface 16 lO underlying153 rfl base xs.length v (bh xs) w aF s (bh us) hs (gh us) (by rw [aT];omega) (by decide) dx
 have e:(bh us).length=us.length:=by rw [aT,Nat.mul_one]
 rw [e] at h1 h2;refine ⟨a',c',w',h1,?_,h3⟩;unfold b7;rw [ae,cZ];exact h2
theorem oB(ad:Addr)(n cap:Nat)(l:List Lk)(w:World)(hm:l.length≤1000000)(hn:l.length=n)(hr:di w (.slice (some ad) n cap) l):Calls prog 164 #[.slice (some ad) n cap] w fun e w'=>∃ u,e = .returned u∧b7 w' w.heap.size u l∧Below w.heap.size w w':=by
 have qD:∀ w,(binOp .eql 153 (.slice (some ad) n cap) (.slice none 0 0)).run prog w = .ok (.bool false) w:=fun w=>by
  have h2:∀ d:Nat,(Op.equalIn (d+1) 153 (.slice (some ad) n cap) (.slice none 0 0)).run prog w = .ok false w:=fun d=>by
   simp [Op.equalIn,run_underlying underlying153]
  simp only [binOp];simp [Op.equal,Op.maxDepth,h2 9999]
 have fi:=ai w (.cells #[] 97);have ho:b7 (w.alloc (.cells #[] 97)) w.heap.size (.slice (some ⟨w.heap.size,0,none⟩) 0 0) []:=World.ownsRow_lit w #[] 0 (aj _) (aB _) rfl;obtain ⟨a1,c1,w1,bq,aF,hg⟩:=fo w.heap.size _ _ [] l _ ho (hr.below fi) (by simp;omega) (by simp)
 rw [List.length_nil,Nat.zero_add,hn] at bq aF;rw [List.nil_append] at aF;have aM:Below w.heap.size w w1:=fi.grown hg (by simp) (fun k hk=>by simp [Value.ownBlock] at hk;omega)
 have HO:=ab aF;have HB:=ab aM;clear hr fi ho aF hg aM;go_enter func164,ntmps164;go_wp2_with (first | (at_builtin;refine wpList_append_run 153 rfl (.tmp 5) (.tmp 6) rfl rfl _ _ rfl rfl _ _ bq ?_))
 clear bq;go_ret;exact ⟨_,rfl,HO.out,HB.out⟩
theorem eU(v:Value)(l:List Lk)(w:World)(hm:l.length≤1000000)(hr:di w v l):Calls prog 164 #[v] w fun e w'=>∃ u,e = .returned u∧b7 w' w.heap.size u l∧Below w.heap.size w w':=by
 obtain ⟨a,c,hv⟩:=hr.form;subst hv;cases a with
 | some ad=>exact oB ad l.length c l w hm rfl hr
 | none =>
  have h0:l=[]∧c=0:=by
   obtain ⟨a',c',he,_,hn,hc⟩:=hr;simp only [Value.slice.injEq] at he;obtain ⟨rfl,-,rfl⟩:=he;refine ⟨?_,hn rfl⟩;cases l with
   | nil=>rfl
   | cons p r=>obtain ⟨g,o,he,_⟩:=hc 0 p.val rfl;cases he
  obtain ⟨rfl,rfl⟩:=h0;have qD:∀ w,(binOp .eql 153 (.slice none 0 0) (.slice none 0 0)).run prog w = .ok (.bool true) w:=fun w=>by
   have h2:∀ d:Nat,(Op.equalIn (d+1) 153 (.slice none 0 0) (.slice none 0 0)).run prog w = .ok true w:=fun d=>by
    simp [Op.equalIn,run_underlying underlying153]
   simp only [binOp];simp [Op.equal,Op.maxDepth,h2 9999]
  clear hr;rw [List.length_nil];go_enter func164,ntmps164;go_wp2;go_ret;exact ⟨_,rfl,b7.nil _ _,Below.refl _ _⟩
end C
end Go.Proofs.YtihmgigfkmofnaaGreatDoor
namespace Go.Proofs.YtihmgigfkmofnaaGreatDoor
namespace C
open Go.RowKit
theorem jX(n:Nat):(Builtin.zeroCells (Value.nilIface).cells n).size=n*1:=by
 simp [Builtin.zeroCells,Value.cells]
theorem te(n:Nat)(w:World)(hn:n*16≤140737488355328):Calls prog 206 #[.slice none 0 0,.int .i64 (n:Int)] w fun e w'=>∃ u,e = .returned u∧b7 w' w.heap.size u []∧Below w.heap.size w w':=by
 obtain ⟨i0,hi,hz,b8,kP⟩:=info_parts lO;have Hd:decide ((n:Int)<0)=false:=decide_eq_false (by omega)
 by_cases h0:0<n
 ·have bq:=Lib.run_append_nil_zeros (P:=prog) w 153 3 153 97 i0 _ .i64 .i64 underlying153 underlying3 hi hz n h0 (by omega) (by omega) (by rw [kP];omega)
  have G4:(0:Int)<(n:Int):=by omega
  have hw:IntKind.i64.wrap ((n:Int))=(n:Int):=by rw [IntKind.wrap_i64];omega
  generalize cT:grownCap w n 0 97=cap at *;have hle:n≤cap:=by rw [← cT];exact grownCap_ge _ _ _ _
  have U5:cap≤maxLen:=by rw [← cT];exact grownCap_le_maxLen _ _ _ _ (by unfold maxLen;omega)
  generalize fI:Builtin.zeroCells _ n++Builtin.zeroCells _ (cap - n)=cs at bq;have ED:cs.size=cap*1:=by rw [← fI,ey,jX,jX];omega
  have HO:Hid (b7 (w.drew.alloc (.cells cs 97)) w.heap.size (.slice (some ⟨w.heap.size,0,none⟩) 0 cap) []) :=
   ⟨by simp [bh],.inr ⟨w.heap.size,cap,cs,rfl,aj _,heap_alloc_new w.drew _,aB _,U5,ED,by simp [bh]⟩⟩
  have HB:Hid (Below w.heap.size w (w.drew.alloc (.cells cs 97))):=((Below.refl _ _).drew).alloc (aj _) _;clear fI cT hi hz b8 kP ED;go_enter func206,ntmps206;go_wp2_with (first | (at_builtin;refine Lib.wpList_append_run _ rfl (.tmp 20) (.tmp 21) 153 3 rfl _ _ rfl rfl _ _ bq ?_))
  go_ret;exact ⟨_,rfl,HO.out,HB.out⟩
 ·obtain rfl:n=0:=by omega
  go_enter func206,ntmps206;go_wp2;go_ret;exact ⟨_,rfl,b7.nil _ _,Below.refl _ _⟩
def cR(LL:List (List Lk))(k:Nat):Nat:=((LL.take k).flatten).length
theorem ji(LL:List (List Lk))(k:Nat)(h:k<LL.length):cR LL (k+1)=cR LL k+LL[k].length:=by
 unfold cR;rw [ax h,dI,ae];simp
theorem lp(LL:List (List Lk))(k:Nat):cR LL k≤LL.flatten.length:=by
 unfold cR;conv=>rhs;rw [← aH k LL,dI,ae]
 omega
theorem oA(B m cap:Nat)(ub:List Value)(LL:List (List Lk))(w:World)(hm:LL.length=m)(Jn:m≤3)(hs:ub.length=m)(gi:LL.flatten.length*16≤140737488355328)(hc:∀ j (h:j<ub.length),w.cell? ⟨B,j,none⟩=some ub[j])(hr:∀ j (h:j<LL.length) (h':j<ub.length),di w ub[j] LL[j]):Calls prog 166 #[.slice (some ⟨B,0,none⟩) m cap] w fun e w'=>∃ u,e = .returned u∧b7 w' w.heap.size u LL.flatten∧Below w.heap.size w w':=by
 have HM:=ab hm;have HS:=ab hs;have HC:=ab hc;have HR:=ab hr;have qR:=ab gi;obtain ⟨T,hT⟩ : ∃ T,T=LL.flatten.length:=⟨_,rfl⟩;have HT:=ab hT;have hTb:T*16≤140737488355328:=by rw [hT];exact gi
 have Rs:Hid (cR LL 0=0):=by show _=_;simp [cR]
 clear hm hs hc hr gi hT;go_enter func166,ntmps166;go_wp2;go_loop [3,11] (fun r i=>∃ k:Nat,k≤m∧i = .int .i64 k∧r = .int .i64 (cR LL k:Int)) (fun _ i=>m - (intOf i).toNat)
 case atStart=>exact ⟨0,aB _,rfl,by rw [Rs.out];rfl⟩
 case round =>
  obtain ⟨k,hk,rfl,rfl⟩:=hrel;by_cases bK:k<m
  ·have jx:k<ub.length:=by have:=HS.out;omega
   have p9:k<LL.length:=by have:=HM.out;omega
   have c1:=HC.out k jx;obtain ⟨a,c,hf⟩:=(HR.out k p9 jx).form;rw [hf] at c1;have Vx:=ab (ji LL k p9);have wj:=ab (lp LL (k+1));obtain ⟨x,hx⟩ : ∃ x,x=cR LL k:=⟨_,rfl⟩;obtain ⟨y,hy⟩ : ∃ y,y=cR LL (k+1):=⟨_,rfl⟩;obtain ⟨z,hz⟩ : ∃ z,z=LL[k].length:=⟨_,rfl⟩;rw [← hx,← hy,← hz] at Vx;rw [← hy,← HT.out] at wj;rw [← hx];rw [← hz] at c1;have HY:=ab hy;have hw:IntKind.i64.wrap ((x:Int)+(z:Int))=(y:Int):=by rw [IntKind.wrap_i64];have:=Vx.out;have:=wj.out;omega
   have Hd:decide ((y:Int)<0)=false:=decide_eq_false (by omega)
   have dK:(k:Int)<(m:Int):=by omega
   clear hx hy hz hf HC HR;go_wp2;go_round
   case rel=>exact ⟨k+1,by omega,by go_num,by rw [← HY.out]⟩
   case measure=>simp [intOf];omega
  ·have Ln:k=m:=by omega
   subst Ln;have df:cR LL k=T:=by
    rw [HT.out];unfold cR;rw [al (by rw [HM.out];exact aj _)]
   rw [df];have dK:¬ (k:Int)<(k:Int):=by omega
   have HG:=ab (te T w hTb);clear df bK hk;go_wp2_with fail;refine HG.out.mono ?_
   rintro e w1 ⟨u,rfl,aF,aM⟩;have HO:=ab aF;have bN:=ab aM;clear aF aM HG;go_wp2;go_loopw [6,27] (fun u i wr=>∃ j:Nat,j≤k∧i = .int .i64 j∧b7 wr w.heap.size u ((LL.take j).flatten)∧Below w.heap.size w wr) (fun _ i _=>k - (intOf i).toNat)
   case atStart=>exact ⟨0,aB _,rfl,by simpa using HO.out,bN.out⟩
   case round =>
    obtain ⟨j,hj,rfl,aF,bO⟩:=hrel;clear HO bN;by_cases bK:j<k
    ·have jx:j<ub.length:=by have:=HS.out;omega
     have p9:j<LL.length:=by have:=HM.out;omega
     have c0:=HC.out j jx;have c1:wr.cell? ⟨B,j,none⟩=some ub[j]:=(bO.cell (p:=⟨B,j,none⟩) (World.block_lt_of_cell? w _ c0)).trans c0;have fU:=(HR.out j p9 jx).below bO;have hle:=lp LL (j+1);rw [ji LL j p9,← HT.out] at hle;unfold cR at hle;obtain ⟨a1,cp1,w2,bq,ij,fO⟩:=fo w.heap.size _ _ _ _ wr aF fU (by omega) bO.size
     have aS:Below w.heap.size w w2:=bO.grown fO bO.size (fun q hq=>(aF.dF q hq).1)
     obtain ⟨a,c,hf⟩:=fU.form;obtain ⟨ua,uc,hu⟩:=aF.form;subst hu;rw [hf] at c1 bq;have gU:(LL.take j).flatten++LL[j]=(LL.take (j+1)).flatten:=by
      rw [ax p9,dI];simp
     rw [gU] at ij;generalize ((LL.take j).flatten).length=L1 at *;generalize LL[j].length=L2 at *;have jE:=ab ij;have bG:=ab aS;have dK:(j:Int)<(k:Int):=by omega
     clear hf HC HR aF ij bO aS fO fU c0 hle;go_wp2_with (first | (at_builtin;refine wpList_append_run 153 rfl (.tmp 31) (.tmp 32) rfl rfl _ _ rfl rfl _ _ bq ?_))
     clear bq;go_wp2;go_roundw
     case rel=>exact ⟨j+1,by omega,by go_num,jE.out,bG.out⟩
     case measure=>simp [intOf];omega
    ·have df:LL.take j=LL:=by rw [al];have:=HM.out;omega
     rw [df] at aF;have HO:=ab aF;have HB:=ab bO;have dK:¬ (j:Int)<(k:Int):=by omega
     clear aF bO df HC HR;go_wp2;go_ret;exact ⟨_,rfl,HO.out,HB.out⟩
open Go.Lib
theorem eo{P:Program}(w:World)(dT sT ty elem:TypeId)(g o Hs Xh:Nat)(a:Addr)(Gj VV:Nat)(cur:Array Value)(t:TypeId)(cs:List Value)(hu:P.underlying dT=some (.slice elem))(hs:(P.info? elem).map (·.size)=some 1)(hg:w.heap[g]?=some (.cells cur t (0,0)))(hn:cs.length=Nat.min Gj Hs*1)(G2:∀ j v,cs[j]?=some v→w.cell? (a.add j)=some v)(eM:o+cs.length≤cur.size)(h1:∀ v ∈ cs,v.oneCell'=true):(Builtin.copy_ #[dT,sT] ty #[.slice (some ⟨g,o,none⟩) Hs Xh,.slice (some a) Gj VV]).run P w = .ok (goInt (Nat.min Gj Hs)) (w.setRow g (cur.toList.take o++cs++cur.toList.drop (o+cs.length)).toArray):=by
 have hl:=run_loadCells_list (P:=P) w a cs G2;have eK:=run_storeCells_at P g o t cs 0 cur w hg (by simpa using eM) h1
 cases hq:P.info? elem with
 | none=>simp [hq] at hs
 | some i =>
  have hi:i.size=1:=by simpa [hq] using hs
  simp [Builtin.copy_,run_underlying hu,Builtin.lenOf,Builtin.firstCells,sizeOf,typeInfo,hq,hi,← hn,hl,eK]
theorem kZ{P:Program}(w:World)(t e ty:TypeId)(x:Value)(ht:P.underlying t=some (.slice e))(hv:∀ w,(zeroValue e).run P w = .ok x w)(hx:x.oneCell'=true)(hxc:x.cells=#[x])(g o c:Nat)(cur:Array Value)(tt:TypeId)(hg:w.heap[g]?=some (.cells cur tt (0,0)))(eM:o+1≤cur.size):(Builtin.clear_ #[t] ty #[.slice (some ⟨g,o,none⟩) 1 c]).run P w = .ok (.tuple #[]) (w.setRow g (cur.toList.take o++[x]++cur.toList.drop (o+1)).toArray):=by
 have XR:(Builtin.zeroCells x.cells 1).toList=[x]:=by
  rw [hxc];simp [Builtin.zeroCells,Array.range]
 have eK:=run_storeCells_at P g o tt [x] 0 cur w hg (by simpa using eM) (by intro v Tk;simp at Tk;subst Tk;exact hx)
 simp [Builtin.clear_,run_underlying ht,hv,XR,eK]
theorem et(l:List Lk):(bh l).length=l.length:=by simp [bh]
theorem BG(l:List Lk)(i:Nat):bh (l.take i)=(bh l).take i:=by simp [bh,List.map_take]
theorem O3(l:List Lk)(i:Nat):bh (l.drop i)=(bh l).drop i:=by simp [bh,List.map_drop]
theorem xS(base:Nat)(v:Value)(l:List Lk)(vb:Nat)(p:Lk)(w:World)(hm:l.length≤5864062014800)(ho:b7 w base v l)(dx:base≤w.heap.size)(hv:di w (.slice (some ⟨vb,0,none⟩) 1 1) [p]):Calls prog 204 #[v,.int .i64 (l.length:Int),.slice (some ⟨vb,0,none⟩) 1 1] w fun e w'=>∃ u,e = .returned u∧b7 w' base u (l++[p])∧Below base w w':=by
 obtain ⟨a',c',w1,bq,aF,hg⟩:=fo base v _ l [p] w ho hv (by simp;omega) dx
 have aM:Below base w w1:=(Below.refl base w).grown hg dx (fun k hk=>(ho.dF k hk).1)
 have HO:=ab aF;have HB:=ab aM;have cT:∃ a c,v = .slice a l.length c∧l.length≤c:=by
  obtain ⟨a,c,rfl,hle,_⟩:=ho.at;exact ⟨a,c,by rw [et],by rw [et] at hle;exact hle⟩
 obtain ⟨a,c,rfl,hle⟩:=cT;rw [show ([p] : List Lk).length=1 from rfl] at bq
 obtain ⟨n,hn⟩ : ∃ n,n=l.length:=⟨_,rfl⟩;rw [← hn] at bq hle hm ⊢;have HN:=ab hn;clear aF hg aM ho hv hn;by_cases tp:c=n
 ·go_enter func204,ntmps204;go_wp2_with (first | (at_builtin;refine wpList_append_run 153 rfl (.tmp 23) (.tmp 24) rfl rfl _ _ rfl rfl _ _ bq ?_))
  clear bq;go_ret;exact ⟨_,rfl,by have:=HO.out;rwa [show l.length + [p].length=n+1 by rw [HN.out];rfl] at this,HB.out⟩
 ·go_enter func204,ntmps204;go_wp2_with (first | (at_builtin;refine wpList_append_run 153 rfl (.tmp 23) (.tmp 24) rfl rfl _ _ rfl rfl _ _ bq ?_))
  clear bq;go_ret;exact ⟨_,rfl,by have:=HO.out;rwa [show l.length + [p].length=n+1 by rw [HN.out];rfl] at this,HB.out⟩
theorem gZ{w:World}{g:Nat}{cur:Array Value}{t:TypeId}{l:List Lk}(hg:w.heap[g]?=some (.cells cur t (0,0)))(ht:cur.toList.take (l.length)=bh l)(i:Nat):∀ j u,(bh (l.drop i))[j]?=some u→w.cell? ⟨g,i+j,none⟩=some u:=by
 intro j u h;rw [O3,← ht,dn,cJ] at h;split at h
 ·rw [Array.getElem?_toList] at h;simp [World.cell?,hg,h]
 ·cases h
theorem Oy(w:World)(g vb i n1 c1:Nat)(cur vs:Array Value)(tA tB:TypeId)(dH:vb≠g)(hg:w.heap[g]?=some (.cells cur tA (0,0)))(hv:w.heap[vb]?=some (.cells vs tB (0,0)))(h0:cur.size≠0):(callFunc 232 #[.slice (some ⟨vb,0,none⟩) 1 1,.slice (some ⟨g,i,none⟩) n1 c1]).run prog w = .ok (.value (.bool false)) w:=by
 rw [run_callFunc_extern func232 (by kernel_rfl) (by kernel_rfl) (by kernel_rfl) (e:=Extern.SlicesOverlaps.overlaps #[153,153] #[4]) (by kernel_rfl),
  Lib.run_overlaps_apart w 153 4 97 underlying153 1 sizeOf97 ⟨vb,0,none⟩ ⟨g,i,none⟩ 1 1 n1 c1 dH tB tA vs.size cur.size (by simp [World.shape?,hv]) (by simp [World.shape?,hg]) h0 (by simp [World.frozen?,hv]) (by simp [World.frozen?,hv])]
 rfl
theorem s8(g c:Nat)(l:List Lk)(i vb:Nat)(p:Lk)(w:World)(cur:Array Value)(hi:i<l.length)(adP:c≤9223372036854775807)(eh:l.length+1≤c)(hg:w.heap[g]?=some (.cells cur 97 (0,0)))(b8:cur.size=c)(ht:cur.toList.take (l.length)=bh l)(hv:w.heap[vb]?=some (.cells #[p.val] 97 (0,0)))(dH:vb≠g):Calls prog 204 #[.slice (some ⟨g,0,none⟩) l.length c,.int .i64 (i:Int),.slice (some ⟨vb,0,none⟩) 1 1] w fun e w'=>e = .returned (.slice (some ⟨g,0,none⟩) (l.length+1) c)∧∃ fJ:Array Value,w'=w.drew.setRow g fJ∧fJ.size=c∧fJ.toList.take ((l.length+1))=bh (dJ l i p):=by
 obtain ⟨n,hn⟩ : ∃ n,n=l.length:=⟨_,rfl⟩;have hov:=fun j n1 c1=>Oy w g vb j n1 c1 cur _ _ _ dH hg hv (by omega)
 have jv:(prog.info? 97).map (·.size)=some 1:=by kernel_rfl
 have jB:(bh (l.drop i)).length=(n - i):=by rw [et,ao,hn]
 obtain ⟨C1,qF⟩ : ∃ C:Array Value,C=(cur.toList.take ((i+1))++bh (l.drop i)++cur.toList.drop ((i+1)+(bh (l.drop i)).length)).toArray:=⟨_,rfl⟩;have mU:C1.size=c:=by rw [qF];simp [jB,b8];omega
 obtain ⟨C2,rT⟩ : ∃ C:Array Value,C=(C1.toList.take (i)++bh [p]++C1.toList.drop (i+(bh [p]).length)).toArray:=⟨_,rfl⟩;have py:C2.size=c:=by rw [rT];simp [bh,mU];omega
 have ic:C2.toList.take ((n+1))=bh (dJ l i p):=by
  have e1:cur.toList.take (i)=bh (l.take i):=by
   rw [BG,← ht,fM,a6 (by omega)]
  have l1:(bh (l.take i)).length=i:=by rw [et,ag];omega
  have e2:C1.toList.take (i)=bh (l.take i):=by
   rw [qF,List.toList_toArray,ay,aG (by simp [b8];omega),fM,a6 (by omega),e1]
  have e3:C1.toList.drop (i+(bh [p]).length)=bh (l.drop i)++cur.toList.drop ((i+1)+(bh (l.drop i)).length):=by
   rw [qF,List.toList_toArray,ay,im (by simp [b8,bh];omega),dB (by simp [b8,bh];omega)]
   rfl
  rw [rT,List.toList_toArray,e2,e3,dJ,cZ,show p::l.drop i=[p]++l.drop i from rfl,cZ,← ay,← ay,aG (by simp only [ae,jB,l1,et,aQ];omega),al (by simp only [ae,jB,l1,et,aQ];omega)]
 have WR:∀ ty dc sc,(Builtin.copy_ #[153,153] ty #[.slice (some ⟨g,(i+1),none⟩) (n - i) dc,.slice (some ⟨g,i,none⟩) (n+1 - i) sc]).run prog w.drew = .ok (goInt (Nat.min (n+1 - i) (n - i))) (w.drew.setRow g C1):=fun ty dc sc=>by
  rw [qF];exact eo w.drew 153 153 ty 97 g ((i+1)) (n - i) dc ⟨g,i,none⟩ (n+1 - i) sc cur 97 (bh (l.drop i)) underlying153 jv hg (by rw [jB];simp only [kK];split <;> omega) (fun j u hj=>by rw [bt];exact gZ hg ht i j u hj) (by rw [jB,b8];omega) (gh _)
 have fO:(w.drew.setRow g C1).heap[g]?=some (.cells C1 97 (0,0)):=setRow_heap w.drew g cur C1 97 (0,0) hg;have fP:(w.drew.setRow g C1).heap[vb]?=some (.cells #[p.val] 97 (0,0)):=(setRow_other w.drew g vb C1 dH).trans hv;have WQ:∀ ty dc,(Builtin.copy_ #[153,153] ty #[.slice (some ⟨g,i,none⟩) (n+1 - i) dc,.slice (some ⟨vb,0,none⟩) 1 1]).run prog (w.drew.setRow g C1) = .ok (goInt (Nat.min 1 (n+1 - i))) (w.drew.setRow g C2):=fun ty dc=>by
  have h:=eo (w.drew.setRow g C1) 153 153 ty 97 g (i) (n+1 - i) dc ⟨vb,0,none⟩ 1 1 C1 97 (bh [p]) underlying153 jv fO (by simp only [et,aQ,kK];split <;> omega) (fun j u hj=>by
   rw [bt];have lY:(#[p.val] : Array Value)[j]?=some u:=by simpa [bh] using hj
   simp [World.cell?,fP,lY]) (by simp [bh,mU];omega) (gh _)
  rw [h,rT,setRow_setRow]
 have HF:=ab ic;have HZ:=ab py;have mixed:prog.follows Departure.mixedOrders=true:=by kernel_rfl
 have mU:¬ ((i:Int)=(n:Int)):=by omega
 have vR:IntKind.i64.wrap ((i:Int)+1)=(i:Int)+1:=by rw [IntKind.wrap_i64];omega
 have GY:IntKind.i64.wrap ((n:Int)+1)=(n:Int)+1:=by rw [IntKind.wrap_i64];omega
 have XX:((i:Int)+1).toNat=i+1:=by omega
 have ac4:((n:Int)+1).toNat=n+1:=by omega
 have aM:(0:Int)≤(i:Int)+1:=by omega
 have aS:¬ (c=i+1):=by omega
 have fW:¬ (c=i):=by omega
 have MZ:(i:Int)≤(n:Int):=by omega
 have bQ:(i:Int)≤(n:Int)+1:=by omega
 have WI:i≤n:=by omega
 have adC:i+1≤n+1:=by omega
 rw [← hn] at eh ⊢;clear qF rT ic py jB fO fP ht b8 hg hv hn hi;go_enter func204,ntmps204;go_wp2_with (simp only [hov])
 go_region_law_o (refine step_copy_runI rfl _ _ 153 153 rfl _ _ (by simp [Act.eval,Act.put]) (by simp [Act.eval,Act.put]) (WR _ _ _) ?_)
 go_wp2_with (at_builtin;refine wpList_copy_runI _ rfl _ _ 153 153 rfl _ _ rfl rfl (WQ _ _) ?_)
 go_ret;exact ⟨rfl,C2,rfl,HZ.out,HF.out⟩
theorem wu(k:Nat):(Builtin.zeroCells (Value.nilIface).cells k).size=k:=by
 have:(Value.nilIface).cells=#[.nilIface]:=rfl;simp [Builtin.zeroCells,this]
theorem td(g c:Nat)(l:List Lk)(i vb:Nat)(p:Lk)(w:World)(cur:Array Value)(hi:i<l.length)(hm:l.length≤5864062014800)(Cq:l.length≤c)(eh:c<l.length+1)(hg:w.heap[g]?=some (.cells cur 97 (0,0)))(ht:cur.toList.take (l.length)=bh l)(hv:w.heap[vb]?=some (.cells #[p.val] 97 (0,0))):Calls prog 204 #[.slice (some ⟨g,0,none⟩) l.length c,.int .i64 (i:Int),.slice (some ⟨vb,0,none⟩) 1 1] w fun e w'=>∃ G:Nat,e = .returned (.slice (some ⟨w.heap.size,0,none⟩) (l.length+1) G)∧l.length+1≤G∧G≤maxLen∧∃ fJ:Array Value,w'.heap[w.heap.size]?=some (.cells fJ 97 (0,0))∧Below w.heap.size w w'∧fJ.size=G∧fJ.toList.take ((l.length+1))=bh (dJ l i p):=by
 obtain ⟨n,hn⟩ : ∃ n,n=l.length:=⟨_,rfl⟩;obtain ⟨i0,yW,mV,GV,Pu⟩:=info_parts lO;have jv:(prog.info? 97).map (·.size)=some 1:=by rw [yW];simp [GV]
 have PX:g<w.heap.size:=(Array.getElem?_eq_some_iff.1 hg).1;have Y7:vb<w.heap.size:=(Array.getElem?_eq_some_iff.1 hv).1;have jB:(bh (l.drop i)).length=(n - i):=by rw [et,ao,hn]
 have l1:(bh (l.take i)).length=i:=by rw [et,ag];omega
 have RM:(n:Int)+1 - (i:Int)=((n+1 - i:Nat):Int):=by omega
 have RQ:i+(n+1 - i)=n+1:=by omega
 have hold:(Builtin.firstCells i0.size i (.slice (some ⟨g,0,none⟩) i c)).run prog w.drew = .ok (bh (l.take i)).toArray w.drew:=by
  rw [GV];refine run_firstCells_some w.drew 1 i ⟨g,0,none⟩ i c (bh (l.take i)) (by rw [Nat.mul_one];exact l1) (fun j v hj=>?_)
  rw [bt,Nat.zero_add];rw [BG,cJ] at hj;split at hj
  ·have:=gZ hg ht 0 j v (by simpa using hj)
   simpa using this
  ·cases hj
 obtain ⟨G,hG⟩ : ∃ G,G=grownCap w (n+1) c 97:=⟨_,rfl⟩;obtain ⟨R,hR⟩ : ∃ R:Array Value,R=(bh (l.take i)).toArray++Builtin.zeroCells (Value.nilIface).cells (n+1 - i)++Builtin.zeroCells (Value.nilIface).cells (G - (n+1)):=⟨_,rfl⟩;have Wp:∀ ty,(Builtin.append_ #[153,3] ty #[.slice (some ⟨g,0,none⟩) i c,.int .i64 ((n:Int)+1 - (i:Int))]).run prog w =
   .ok (.slice (some ⟨w.heap.size,0,none⟩) (n+1) G) (w.drew.alloc (.cells R 97)):=fun ty=>by
  have h:=Lib.run_append_grow_zeros w 153 3 ty 97 i0 _ .i64 .i64 underlying153 underlying3 yW mV (some ⟨g,0,none⟩) i c (bh (l.take i)) hold (n+1 - i) (by omega) (by omega) (by omega) (by omega) (by rw [Pu];omega) (by rw [Pu,RQ];exact growslice_fits (by omega) (by omega))
  rw [RQ] at h;rw [RM,hR,hG];exact h
 have hGn:n+1≤G:=by rw [hG];exact grownCap_ge w _ _ _
 have Xb:G≤maxLen:=by rw [hG];exact grownCap_le_maxLen w (n+1) c 97 (by unfold maxLen;omega)
 have WZ:R.size=G:=by
  rw [hR,ey,ey,wu,wu];simp [l1];omega
 obtain ⟨W1,gL⟩ : ∃ W1,W1=w.drew.alloc (.cells R 97):=⟨_,rfl⟩;have Ju:W1.heap[w.heap.size]?=some (.cells R 97 (0,0)):=by rw [gL];exact heap_alloc_new w.drew _
 have FM:Below w.heap.size w W1:=by rw [gL];exact (B.aK (Below.refl _ _)).alloc (aj _) _
 have fO:W1.heap[g]?=some (.cells cur 97 (0,0)):=(FM.block g PX).trans hg;have fP:W1.heap[vb]?=some (.cells #[p.val] 97 (0,0)):=(FM.block vb Y7).trans hv;rw [← gL] at Wp;obtain ⟨C1,qF⟩ : ∃ C:Array Value,C=(R.toList.take (i)++bh [p]++R.toList.drop (i+(bh [p]).length)).toArray:=⟨_,rfl⟩;have mU:C1.size=G:=by rw [qF];simp [bh,WZ];omega
 obtain ⟨C2,rT⟩ : ∃ C:Array Value,C=(C1.toList.take ((i+1))++bh (l.drop i)++C1.toList.drop ((i+1)+(bh (l.drop i)).length)).toArray:=⟨_,rfl⟩;have py:C2.size=G:=by rw [rT];simp [jB,mU];omega
 have ic:C2.toList.take ((n+1))=bh (dJ l i p):=by
  have e0:R.toList.take (i)=bh (l.take i):=by
   rw [hR,bX,bX,List.toList_toArray,ay,aG (by omega),al (by omega)]
  have e1:C1.toList.take ((i+1))=bh (l.take i)++bh [p]:=by
   rw [qF,List.toList_toArray,e0,aG (by simp only [ae,l1,et,aQ];omega),al (by simp only [ae,l1,et,aQ];omega)]
  rw [rT,List.toList_toArray,e1,dJ,cZ,show p::l.drop i=[p]++l.drop i from rfl,cZ,← ay,aG (by simp only [ae,jB,l1,et,aQ];omega),al (by simp only [ae,jB,l1,et,aQ];omega)]
 have Wx:vb≠w.heap.size:=by omega
 have BP:g≠w.heap.size:=by omega
 have P7:∀ ty dc,(Builtin.copy_ #[153,153] ty #[.slice (some ⟨w.heap.size,i,none⟩) (n+1 - i) dc,.slice (some ⟨vb,0,none⟩) 1 1]).run prog W1 = .ok (goInt (Nat.min 1 (n+1 - i))) (W1.setRow w.heap.size C1):=fun ty dc=>by
  rw [qF];exact eo W1 153 153 ty 97 w.heap.size (i) (n+1 - i) dc ⟨vb,0,none⟩ 1 1 R 97 (bh [p]) underlying153 jv Ju (by simp only [et,aQ,kK];split <;> omega) (fun j u hj=>by
   rw [bt];have lY:(#[p.val] : Array Value)[j]?=some u:=by simpa [bh] using hj
   simp [World.cell?,fP,lY]) (by simp [bh,WZ];omega) (gh _)
 have Jt:(W1.setRow w.heap.size C1).drew.heap[w.heap.size]?=some (.cells C1 97 (0,0)):=setRow_heap W1 w.heap.size R C1 97 (0,0) Ju;have vo:(W1.setRow w.heap.size C1).drew.heap[g]?=some (.cells cur 97 (0,0)):=(setRow_other W1 w.heap.size g C1 BP).trans fO;have P6:∀ ty dc sc,(Builtin.copy_ #[153,153] ty #[.slice (some ⟨w.heap.size,(i+1),none⟩) (n - i) dc,.slice (some ⟨g,i,none⟩) (n - i) sc]).run prog (W1.setRow w.heap.size C1).drew = .ok (goInt (Nat.min (n - i) (n - i))) ((W1.setRow w.heap.size C1).drew.setRow w.heap.size C2):=fun ty dc sc=>by
  rw [rT];exact eo (W1.setRow w.heap.size C1).drew 153 153 ty 97 w.heap.size ((i+1)) (n - i) dc ⟨g,i,none⟩ (n - i) sc C1 97 (bh (l.drop i)) underlying153 jv Jt (by rw [jB];simp only [kK];split <;> omega) (fun j u hj=>by rw [bt];exact gZ vo ht i j u hj) (by rw [jB,mU];omega) (gh _)
 have Qf:((W1.setRow w.heap.size C1).drew.setRow w.heap.size C2).heap[w.heap.size]?=some (.cells C2 97 (0,0)):=setRow_heap (W1.setRow w.heap.size C1).drew w.heap.size C1 C2 97 (0,0) Jt;have Xc:Below w.heap.size w ((W1.setRow w.heap.size C1).drew.setRow w.heap.size C2):=below_setRow (B.aK (below_setRow FM (aj _) C1)) (aj _) C2;obtain ⟨s,hs⟩ : ∃ s,s=w.heap.size:=⟨_,rfl⟩;rw [← hs] at Wp P7 P6 Qf Xc ⊢;have HF:=ab ic;have HZ:=ab py;have HN3:=ab Qf;have eG:=ab Xc;have HG:=ab Xb;have mixed:prog.follows Departure.mixedOrders=true:=by kernel_rfl
 have ad8:G≤9223372036854775807:=by unfold maxLen at Xb;omega
 have PF:¬ ((i:Int)=(n:Int)):=by omega
 have vR:IntKind.i64.wrap ((i:Int)+1)=(i:Int)+1:=by rw [IntKind.wrap_i64];omega
 have GY:IntKind.i64.wrap ((n:Int)+1)=(n:Int)+1:=by rw [IntKind.wrap_i64];omega
 have MV:IntKind.i64.wrap ((n:Int)+1 - (i:Int))=(n:Int)+1 - (i:Int):=by rw [IntKind.wrap_i64];omega
 have XX:((i:Int)+1).toNat=i+1:=by omega
 have aM:(0:Int)≤(i:Int)+1:=by omega
 have bQ:(i:Int)≤(n:Int)+1:=by omega
 have aS:¬ (G=i+1):=by omega
 have lH:¬ (G=i):=by omega
 have fW:¬ (c=i):=by omega
 have MZ:(i:Int)≤(n:Int):=by omega
 have WI:i≤n:=by omega
 have hic:(i:Int)≤(c:Int):=by omega
 have hcr:(c:Int)<(n:Int)+1:=by omega
 rw [← hn] at eh ⊢;clear qF rT ic py mU jB fO fP vo Ju Jt Qf FM Xc ht hg hv hi l1 RM RQ hold WZ hR hG PX Y7 yW mV GV Pu jv hn Xb Wx BP gL hs;go_enter func204,ntmps204;go_wp2_with (first
  | (at_builtin;refine Lib.wpList_append_run _ rfl _ _ _ _ rfl _ _ rfl rfl _ _ (Wp _) ?_)
  | (at_builtin;refine wpList_copy_runI _ rfl _ _ 153 153 rfl _ _ rfl rfl (P7 _ _) ?_))
 go_region_law_o (refine step_copy_runI rfl _ _ 153 153 rfl _ _ (by simp [Act.eval,Act.put]) (by simp [Act.eval,Act.put]) (P6 _ _ _) ?_)
 go_wp2;go_ret;exact ⟨G,rfl,hGn,HG.out,C2,HN3.out,eG.out,HZ.out,HF.out⟩
theorem b7.row{w:World}{base g c:Nat}{l:List Lk}{cur:Array Value}(hb:base≤g)(hg:w.heap[g]?=some (.cells cur 97 (0,0)))(Cq:l.length≤c)(hc:c≤maxLen)(hs:cur.size=c)(ht:cur.toList.take (l.length)=bh l):b7 w base (.slice (some ⟨g,0,none⟩) l.length c) l :=
 ⟨by rw [et,Nat.mul_one],.inr ⟨g,c,cur,rfl,hb,hg,Cq,hc,by rw [hs,Nat.mul_one],by rw [Nat.mul_one];exact ht⟩⟩
theorem ff(l:List Lk)(i:Nat)(p:Lk)(h:i≤l.length):(dJ l i p).length=l.length+1:=by
 unfold dJ;rw [ae,List.length_cons,ag,ao];omega
theorem xY(l:List Lk)(p:Lk):dJ l l.length p=l++[p]:=by simp [dJ]
theorem oy(base:Nat)(v:Value)(l:List Lk)(i vb:Nat)(p:Lk)(w:World)(hm:l.length≤5864062014800)(hi:i≤l.length)(ho:b7 w base v l)(dx:base≤w.heap.size)(hv:B.au w vb #[p.val] 97)(dH:v.ownBlock≠some vb):Calls prog 204 #[v,.int .i64 (i:Int),.slice (some ⟨vb,0,none⟩) 1 1] w fun e w'=>∃ u,e = .returned u∧b7 w' base u (dJ l i p)∧Below base w w':=by
 by_cases MZ:i=l.length
 ·subst MZ;rw [xY];refine xS base v l vb p w hm ho dx ⟨_,_,rfl,aj _,fun h=>(by cases h),fun j u hj=>⟨_,_,rfl,?_⟩⟩
  have lY:j<1:=(List.getElem?_eq_some_iff.1 hj).1;have Lp:j=0:=by omega
  subst Lp;cases hj;exact hv.cell 0 (by simp)
 ·have bK:i<l.length:=by omega
  rcases ho.2 with ⟨_,h0⟩ | ⟨g,c,cur,rfl,hb,hg,BQ,sB,fI,mf⟩
  ·omega
  ·by_cases hr:l.length+1≤c
   ·refine (s8 g c l i vb p w cur bK (by unfold maxLen at sB;omega) hr hg (by rw [fI,Nat.mul_one]) (by rw [Nat.mul_one] at mf;exact mf) hv (fun h=>dH (by rw [h];rfl))).mono ?_
    rintro e w' ⟨rfl,fJ,rfl,h2,h3⟩;refine ⟨_,rfl,?_,below_setRow (B.aK (Below.refl _ _)) hb fJ⟩;have:=b7.row (l:=dJ l i p) hb (setRow_heap w.drew g cur fJ 97 (0,0) hg) (by rw [ff l i p hi];exact hr) sB h2 (by rw [ff l i p hi];exact h3)
    rwa [ff l i p hi] at this
   ·refine (td g c l i vb p w cur bK hm BQ (by omega) hg (by rw [Nat.mul_one] at mf;exact mf) hv).mono ?_
    rintro e w' ⟨G,rfl,h1,h2,fJ,h3,h4,h5,h6⟩;refine ⟨_,rfl,?_,h4.mono dx⟩;have:=b7.row (l:=dJ l i p) dx h3 (by rw [ff l i p hi];exact h1) h2 h5 (by rw [ff l i p hi];exact h6)
    rwa [ff l i p hi] at this
end C
end Go.Proofs.YtihmgigfkmofnaaGreatDoor
