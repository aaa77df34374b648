import Derived.Test.YtihmgigfkmofnaaGreatDoorG02
import Derived.Shelf.Spec.SlicesInsertGrow
import Derived.Laws.CopyRow
import Derived.Laws.CopyOwn
set_option maxHeartbeats 4000000
set_option maxRecDepth 100000
open Go.Proofs.Tryz
namespace Go.Proofs.YtihmgigfkmofnaaGreatDoor
theorem pD{X Y Z:List Pr}{key:ByteArray}(hX:∀ p ∈ X,df p.1 key=true)(hZ:∀ p ∈ Z,df key p.1=true):aQ (X++(Y++Z)) key=X.length+aQ Y key:=by
 have kU:=cW Y key;by_cases h:aQ Y key<Y.length
 ·refine sw (by simp;omega) (fun j hj=>?_) ?_
  ·by_cases Uh:j<X.length
   ·rw [aM Uh];exact hX _ (aH Uh)
   ·rw [bt (by omega),aM (by omega)]
    exact jQ Y key _ (by omega) (by omega)
  ·rw [bt (by omega),aM (by omega)]
   simp only [show X.length+aQ Y key - X.length=aQ Y key by omega]
   exact sA Y key h
 ·have he:aQ Y key=Y.length:=by omega
  have cZ:∀ j (hj:j<Y.length),df Y[j].1 key=true:=fun j hj=>jQ Y key j (by omega) hj
  rw [he];cases Z with
  | nil =>
   rw [List.append_nil,qO,ae];intro j hj;rw [ae] at hj;by_cases Uh:j<X.length
   ·rw [aM Uh];exact hX _ (aH Uh)
   ·rw [bt (by omega)];exact cZ _ (by omega)
  | cons z Z =>
   refine sw (by simp) (fun j hj=>?_) ?_
   ·by_cases Uh:j<X.length
    ·rw [aM Uh];exact hX _ (aH Uh)
    ·rw [bt (by omega),aM (by omega)];exact cZ _ (by omega)
   ·rw [bt (by omega),bt (by omega)]
    simp only [show X.length+Y.length - X.length - Y.length=0 by omega,List.getElem_cons_zero]
    exact lU (hZ z dh)
theorem V7{X Y Z:List Pr}{n:Nat}(h:n<Y.length):(X++(Y++Z))[X.length+n]?=Y[n]?:=by
 rw [aX (by omega),show X.length+n - X.length=n by omega,bu h]
theorem yn{X Y Z:List Pr}{key:ByteArray}(hX:∀ p ∈ X,df p.1 key=true)(hZ:∀ p ∈ Z,df key p.1=true):bq (X++(Y++Z)) key=bq Y key:=by
 have kU:=cW Y key;unfold bq;rw [pD hX hZ];by_cases h:aQ Y key<Y.length
 ·rw [V7 h]
 ·have he:aQ Y key=Y.length:=by omega
  rw [he,aX (by omega),show X.length+Y.length - X.length=Y.length by omega,aX (by omega),dI]
  rw [bB (aj Y.length)];cases Z with
  | nil=>rfl
  | cons z Z =>
   have:=hZ z dh;simp only [List.getElem?_cons_zero,decide_eq_false_iff_not];intro e;rw [e,jz] at this;cases this
theorem uZ{X Y Z:List Pr}{key:ByteArray}(hX:∀ p ∈ X,df p.1 key=true)(hZ:∀ p ∈ Z,df key p.1=true):bW (X++(Y++Z)) key=X.length+bW Y key:=by
 unfold bW;rw [yn hX hZ,pD hX hZ];split <;> omega
theorem CV{X Y Z:List Pr}{n:Nat}(h:n≤Y.length):(X++(Y++Z)).take (X.length+n)=X++Y.take n:=by
 rw [List.take_append,ar (by omega),show X.length+n - X.length=n by omega,aF h]
theorem EJ{X Y Z:List Pr}{n:Nat}(h:n≤Y.length):(X++(Y++Z)).drop (X.length+n)=Y.drop n++Z:=by
 rw [List.drop_append,List.drop_of_length_le (by omega),show X.length+n - X.length=n by omega,ij h,List.nil_append]
theorem Nu{X Y Z:List Pr}{key value:ByteArray}(hX:∀ p ∈ X,df p.1 key=true)(hZ:∀ p ∈ Z,df key p.1=true):eT (X++(Y++Z)) key value=X++(eT Y key value++Z):=by
 unfold eT;rw [pD hX hZ,uZ hX hZ,CV (cW _ _),EJ (jF _ _)];simp
theorem Lw{X Y Z:List Pr}{key:ByteArray}(hX:∀ p ∈ X,df p.1 key=true)(hZ:∀ p ∈ Z,df key p.1=true):cX (X++(Y++Z)) key=X++(cX Y key++Z):=by
 unfold cX;rw [pD hX hZ,uZ hX hZ,CV (cW _ _),EJ (jF _ _)];simp
theorem CW(l:List Pr)(k:Nat):fQ (l.drop k)≤fQ l:=by
 have h:fQ l=fQ (l.take k)+fQ (l.drop k):=by rw [← iF,aE]
 omega
theorem z6(l:List Pr){n m:Nat}(h:n≤m):fQ (l.take n)+fQ (l.drop m)≤fQ l:=by
 have h1:fQ l=fQ (l.take n)+fQ (l.drop n):=by rw [← iF,aE]
 have h2:l.drop m=(l.drop n).drop (m - n):=by rw [List.drop_drop];congr 1;omega
 rw [h2];have:=CW (l.drop n) (m - n);omega
theorem Hf{l:List Pr}{key:ByteArray}(hr:gB l):gB (cX l key):=by
 refine uw (hr.take _) (hr.drop _) (fun p hp q hq=>?_)
 obtain ⟨i,hi,rfl⟩:=aI hp;obtain ⟨j,hj,rfl⟩:=aI hq;rw [ag] at hi;rw [ao] at hj;have:=eP l key;simp only [bZ,cY];exact hr.lt i _ (by omega) (by omega)
theorem ll{key value:ByteArray}(hm:cF (key,value)=true):Fit key (fun l=>eT l key value) where
 loc:=fun _ _ _ hX hZ=>Nu hX hZ
 rise:=fun _ h=>Nt h
 mem:=fun l p hp=>by
  unfold eT at hp;rcases List.mem_append.1 hp with h | h
  ·exact .inl (bF h)
  ·rcases List.mem_cons.1 h with rfl | h
   ·exact .inr ⟨rfl,hm⟩
   ·exact .inl (bG h)
 size:=fun l=>by
  unfold eT;rw [iF,nX];have h1:=z6 l (eP l key);have h2:=eu hm;unfold zZ;simp only at h2 ⊢;omega
theorem fit_drop(key:ByteArray):Fit key (fun l=>cX l key) where
 loc:=fun _ _ _ hX hZ=>Lw hX hZ
 rise:=fun _ h=>Hf h
 mem:=fun l p hp=>by
  unfold cX at hp;rcases List.mem_append.1 hp with h | h
  ·exact .inl (bF h)
  ·exact .inl (bG h)
 size:=fun l=>by
  unfold cX;rw [iF];have h1:=z6 l (eP l key);omega
abbrev cT:=Option ((h:Nat) × Nd h)
def aP:cT→List Pr
 | none=>[]
 | some r=>flat r.1 r.2
def wM:(h:Nat)→Nd h→Prop
 | 0,t=>t.2≠[]
 | _+1,t=>t.2.1≠[]
def dU:cT→Prop
 | none=>True
 | some r=>Ok r.1 r.2 none none∧np r.1 r.2≤4072∧wM r.1 r.2
def ni(h:Nat)(t:Nd h)(r:cT):Prop :=
 (Hq h t∧∃ a k b,Cut h t a k b∧r=some ⟨h+1,(0,[k],[a,b])⟩) ∨
 (¬ Hq h t∧wM h t∧r=some ⟨h,t⟩) ∨
 (¬ Hq h t∧¬ wM h t∧match h,t with
  | 0,_=>r=none
  | h+1,t=>∃ c,t.2.2=[c]∧r=some ⟨h,c⟩)
theorem Af{h:Nat}{t:Nd h}{r:cT}(ho:Ok h t none none)(hs:np h t≤zA h)(hr:ni h t r):dU r∧aP r=flat h t:=by
 rcases hr with ⟨hb,a,k,b,hc,rfl⟩ | ⟨hb,h1,rfl⟩ | ⟨hb,h1,hm⟩
 ·obtain ⟨g1,g2,g3,g4,g5⟩:=P1 ho hc hb hs;refine ⟨⟨⟨g3,g4,g1,g2⟩,?_,by simp [wM]⟩,by simp [aP,flat,← g5]⟩
  have e1:=iN k [];have e5:fD []=6:=rfl;unfold cQ at g4;show fD [k]≤4072
  omega
 ·exact ⟨⟨ho,by unfold Hq at hb;show np h t≤4072;omega,h1⟩,rfl⟩
 ·cases h with
  | zero =>
   subst hm;have:t.2=[]:=Classical.not_not.1 h1;exact ⟨trivial,by simp [aP,flat,this]⟩
  | succ h =>
   obtain ⟨c,hc,rfl⟩:=hm;have hk:t.2.1=[]:=Classical.not_not.1 h1;have OZ:ig (mF h) none none t.2.1 t.2.2:=ho;rw [hk,hc] at OZ;have dW:mF h c none none:=OZ;refine ⟨⟨dW.1,dW.2.2,?_⟩,by simp [aP,flat,hc]⟩
   have hf:=dW.2.1;cases h with
   | zero =>
    intro e;have e:c.2=[]:=e;simp [xC,np,e,kW] at hf
   | succ h =>
    intro e;have e:c.2.1=[]:=e;simp [xC,np,e,fD] at hf
theorem J9(h:Nat):4072+Ac h≤zA h:=by cases h <;> simp [Ac,zA]
def pQ(key:ByteArray)(f:List Pr→List Pr):cT→cT→Prop
 | none,r'=>ni 0 (0,f []) r'
 | some r,r'=>∃ t',Q9 key f r.1 r.2 t'∧ni r.1 t' r'
theorem km{key:ByteArray}{f:List Pr→List Pr}(hf:Fit key f){r r':cT}(h:dU r)(hu:pQ key f r r'):dU r'∧aP r'=f (aP r):=by
 cases r with
 | none =>
  have hu:ni 0 (0,f []) r':=hu;have h0:=hf.size [];rw [kW] at h0;exact Af (h:=0) (t:=(0,f [])) ⟨hf.rise _ De,fun p hp=>by
   rcases hf.mem _ p hp with h1 | ⟨_,h2⟩
   ·simp at h1
   ·exact ⟨h2,Ja _⟩⟩ (by show fQ (f [])≤5627;omega) hu
 | some r =>
  obtain ⟨t',h1,h2⟩:=hu;obtain ⟨g1,g2,g3⟩:=MT hf r.1 h.1 (Ja key) h1;have:=Af g1 (by have h9:np r.1 r.2≤4072:=h.2.1;have h8:=J9 r.1;omega) h2
  exact ⟨this.1,by rw [this.2,g2];rfl⟩
def Way(key:ByteArray):(h:Nat)→Nd h→List Pr→Prop
 | 0,t,l=>l=t.2
 | h+1,t,l=>∃ (A B:List ByteArray) (C1:List (Nd h)) (c:Nd h) (C2:List (Nd h)),t.2.1=A++B∧t.2.2=C1++c::C2∧A.length=C1.length∧(∀ k ∈ A,df key k=false)∧(∀ k,B.head?=some k→df key k=true)∧Way key h c l
theorem MQ{key:ByteArray}:∀ (h:Nat) {t:Nd h} {l:List Pr} {lo hi:Option ByteArray},Ok h t lo hi→Way key h t l→∃ X Z,flat h t=X++(l++Z)∧(∀ p ∈ X,df p.1 key=true)∧(∀ p ∈ Z,df key p.1=true)
 | 0,t,l,_,_,_,hw=>by
  have hw:l=t.2:=hw;exact ⟨[],[],by simp [flat,hw],(fun _ h=>by simp at h),(fun _ h=>by simp at h)⟩
 | h+1,t,l,lo,hi,ho,hw=>by
  obtain ⟨A,B,C1,c,C2,e1,e2,hl,hA,hB,hw'⟩:=hw;have OZ:ig (mF h) lo hi (A++B) (C1++c::C2):=by rw [← e1,← e2];exact ho
  obtain ⟨hp,hc⟩:=(rP hl).1 OZ;obtain ⟨X,Z,e,h1,h2⟩:=MQ h (vL hc).1 hw';refine ⟨C1.flatMap (flat h)++X,Z++C2.flatMap (flat h),?_,fun p Vk=>?_,fun p Vk=>?_⟩
  ·show t.2.2.flatMap (flat h)=_
   rw [e2,bh,List.flatMap_cons,e];simp
  ·rcases List.mem_append.1 Vk with h' | h'
   ·exact vG (P:=mF h) (fun _ _ _ hc=>uy h hc.1) hp hA p h'
   ·exact h1 p h'
  ·rcases List.mem_append.1 Vk with h' | h'
   ·exact h2 p h'
   ·exact A6 (P:=mF h) (fun _ _ _ hc=>uy h hc.1) hc hB p h'
namespace C
open Go.RowKit Go.Lib
inductive Ch where
 | pg (id:Int)
 | nd (b:Nat)
def Ch.val:Ch→Value
 | .pg id=>.iface 146 (.int .i64 id)
 | .nd b=>.iface 152 (.pointer (some ⟨b,0,none⟩))
abbrev Lk:=Ch
def bg(l:List Lk):List Value:=l.map Ch.val
theorem ee(p:Lk)(l:List Lk):bg (p::l)=p.val::bg l:=rfl
theorem dt(a b:List Lk):bg (a++b)=bg a++bg b:=by simp [bg]
theorem a7(l:List Lk):(bg l).length=l.length*1:=by simp [bg]
theorem ib(l:List Lk)(j:Nat)(h:j<l.length):(bg l)[j]?=some l[j].val:=by simp [bg,h]
theorem val_one(p:Ch):p.val.oneCell'=true:=by cases p <;> rfl
theorem fT(l:List Lk):∀ u ∈ bg l,u.oneCell'=true:=by
 intro u hu;simp only [bg,List.mem_map] at hu;obtain ⟨p,_,rfl⟩:=hu;exact val_one p
theorem rU(l:List Lk)(i:Nat):bg (l.take i)=(bg l).take (i*1):=by simp [bg,List.map_take]
theorem DO(l:List Lk)(i:Nat):bg (l.drop i)=(bg l).drop (i*1):=by simp [bg,List.map_drop]
theorem lV:(prog.info? 97).map (fun i=>(i.zero,i.size,i.bytes))=some (some .nilIface,1,16):=by kernel_rfl
def dD(l:List Lk)(i:Nat)(p:Lk):List Lk:=l.take i++p::l.drop i
def cB(l:List Lk)(i:Nat):List Lk:=l.take i++l.drop (i+1)
def dm(w:World)(v:Value)(l:List Lk):Prop:=nh w v (bg l)
theorem dm.below{w w':World}{v:Value}{l:List Lk}(h:dm w v l)(hb:Below w.heap.size w w'):dm w' v l:=nh.below h hb
theorem dm.form{w:World}{v:Value}{l:List Lk}(h:dm w v l):∃ a c,v = .slice a l.length c:=by
 obtain ⟨a,c,rfl,_⟩:=h;exact ⟨a,c,by rw [a7,Nat.mul_one]⟩
def bQ(w:World)(base:Nat)(v:Value)(l:List Lk):Prop:=w.ownsRow base 97 1 v l.length (bg l)
theorem bQ.at{w:World}{base:Nat}{v:Value}{l:List Lk}(h:bQ w base v l):dm w v l:=fS h
theorem bQ.form{w:World}{base:Nat}{v:Value}{l:List Lk}(h:bQ w base v l):∃ a c,v = .slice a l.length c:=h.at.form
theorem bQ.below{w w':World}{base:Nat}{v:Value}{l:List Lk}(h:bQ w base v l)(hb:Below w.heap.size w w'):bQ w' base v l:=by
 refine ⟨h.1,?_⟩;rcases h.2 with h' | ⟨g,cap,cur,h',h1,h2,hr⟩
 ·exact .inl h'
 ·refine .inr ⟨g,cap,cur,h',h1,?_,hr⟩;have hg:g<w.heap.size:=(Array.getElem?_eq_some_iff.1 h2).1;rw [hb.block g hg];exact h2
theorem bQ.nil(w:World)(base:Nat):bQ w base (.slice none 0 0) []:=World.ownsRow_nil _ _ _ _
theorem bQ.dy{w:World}{base:Nat}{v:Value}{l:List Lk}(h:bQ w base v l):∀ k,v.ownBlock=some k→base≤k∧k<w.heap.size:=World.ownsRow.lt h
theorem fo(base:Nat)(v s:Value)(xs us:List Lk)(w:World)(aD:bQ w base v xs)(hs:dm w s us)(hb:(xs.length+us.length)*16≤140737488355328)(dr:base≤w.heap.size):∃ a' eO w',(Builtin.append_ #[153,153] 153 #[v,s]).run prog w = .ok (.slice a' (xs.length+us.length) eO) w'∧bQ w' base (.slice a' (xs.length+us.length) eO) (xs++us)∧w.grownBy w' v.ownBlock:=by
 obtain ⟨a',c',w',h1,h2,h3⟩:=ng 153 97 .nilIface 16 lV underlying153 rfl base xs.length v (bg xs) w aD s (bg us) hs (fT us) (by rw [a7];omega) (by decide) dr
 have e:(bg us).length=us.length:=by rw [a7,Nat.mul_one]
 rw [e] at h1 h2;refine ⟨a',c',w',h1,?_,h3⟩;unfold bQ;rw [ae,dt];exact h2
theorem ow(ad:Addr)(n cap:Nat)(l:List Lk)(w:World)(hm:l.length≤1000000)(hn:l.length=n)(hr:dm w (.slice (some ad) n cap) l):Calls prog 164 #[.slice (some ad) n cap] w fun e w'=>∃ u,e = .returned u∧bQ w' w.heap.size u l∧Below w.heap.size w w':=by
 have qH:∀ w,(binOp .eql 153 (.slice (some ad) n cap) (.slice none 0 0)).run prog w = .ok (.bool false) w:=fun w=>by
  have h2:∀ d:Nat,(Op.equalIn (d+1) 153 (.slice (some ad) n cap) (.slice none 0 0)).run prog w = .ok false w:=fun d=>by
   simp [Op.equalIn,run_underlying underlying153]
  simp only [binOp];simp [Op.equal,Op.maxDepth,h2 9999]
 have fh:=ai w (.cells #[] 97);have ho:bQ (w.alloc (.cells #[] 97)) w.heap.size (.slice (some ⟨w.heap.size,0,none⟩) 0 0) []:=World.ownsRow_lit w #[] 0 (aj _) (aC _) rfl;obtain ⟨a1,c1,w1,bo,aD,hg⟩:=fo w.heap.size _ _ [] l _ ho (hr.below fh) (by simp;omega) (by simp)
 rw [List.length_nil,Nat.zero_add,hn] at bo aD;rw [List.nil_append] at aD;have aN:Below w.heap.size w w1:=fh.grown hg (by simp) (fun k hk=>by simp [Value.ownBlock] at hk;omega)
 have HO:=ab aD;have HB:=ab aN;clear hr fh ho aD hg aN;go_enter func164,ntmps164;go_wp2_with (first | (at_builtin;refine wpList_append_run 153 rfl (.tmp 5) (.tmp 6) rfl rfl _ _ rfl rfl _ _ bo ?_))
 clear bo;go_ret;exact ⟨_,rfl,HO.out,HB.out⟩
theorem eM(v:Value)(l:List Lk)(w:World)(hm:l.length≤1000000)(hr:dm w v l):Calls prog 164 #[v] w fun e w'=>∃ u,e = .returned u∧bQ w' w.heap.size u l∧Below w.heap.size w w':=by
 obtain ⟨a,c,hv⟩:=hr.form;subst hv;cases a with
 | some ad=>exact ow ad l.length c l w hm rfl hr
 | none =>
  have h0:l=[]∧c=0:=by
   obtain ⟨a',c',he,_,hn,hc⟩:=hr;simp only [Value.slice.injEq] at he;obtain ⟨rfl,-,rfl⟩:=he;refine ⟨?_,hn rfl⟩;cases l with
   | nil=>rfl
   | cons p r=>obtain ⟨g,o,he,_⟩:=hc 0 p.val rfl;cases he
  obtain ⟨rfl,rfl⟩:=h0;have qH:∀ w,(binOp .eql 153 (.slice none 0 0) (.slice none 0 0)).run prog w = .ok (.bool true) w:=fun w=>by
   have h2:∀ d:Nat,(Op.equalIn (d+1) 153 (.slice none 0 0) (.slice none 0 0)).run prog w = .ok true w:=fun d=>by
    simp [Op.equalIn,run_underlying underlying153]
   simp only [binOp];simp [Op.equal,Op.maxDepth,h2 9999]
  clear hr;rw [List.length_nil];go_enter func164,ntmps164;go_wp2;go_ret;exact ⟨_,rfl,bQ.nil _ _,Below.refl _ _⟩
end C
end Go.Proofs.YtihmgigfkmofnaaGreatDoor
namespace Go.Proofs.YtihmgigfkmofnaaGreatDoor
namespace C
open Go.RowKit
theorem jK(n:Nat):(Builtin.zeroCells (Value.nilIface).cells n).size=n*1:=by
 simp [Builtin.zeroCells,Value.cells]
theorem tw(n:Nat)(w:World)(hn:n*16≤140737488355328):Calls prog 206 #[.slice none 0 0,.int .i64 (n:Int)] w fun e w'=>∃ u,e = .returned u∧bQ w' w.heap.size u []∧Below w.heap.size w w':=by
 obtain ⟨i0,hi,hz,cp,kL⟩:=info_parts lV;have G3:decide ((n:Int)<0)=false:=decide_eq_false (by omega)
 by_cases h0:0<n
 ·have bo:=Lib.run_append_nil_zeros (P:=prog) w 153 3 153 97 i0 _ .i64 .i64 underlying153 underlying3 hi hz n h0 (by omega) (by omega) (by rw [kL];omega)
  have Yp:(0:Int)<(n:Int):=by omega
  have hw:IntKind.i64.wrap ((n:Int))=(n:Int):=by rw [IntKind.wrap_i64];omega
  generalize du:grownCap w n 0 97=cap at *;have hle:n≤cap:=by rw [← du];exact grownCap_ge _ _ _ _
  have Ub:cap≤maxLen:=by rw [← du];exact grownCap_le_maxLen _ _ _ _ (by unfold maxLen;omega)
  generalize fG:Builtin.zeroCells _ n++Builtin.zeroCells _ (cap - n)=cs at bo;have Eu:cs.size=cap*1:=by rw [← fG,gv,jK,jK];omega
  have HO:Hid (bQ (w.drew.alloc (.cells cs 97)) w.heap.size (.slice (some ⟨w.heap.size,0,none⟩) 0 cap) []) :=
   ⟨by simp [bg],.inr ⟨w.heap.size,cap,cs,rfl,aj _,heap_alloc_new w.drew _,aC _,Ub,Eu,by simp [bg]⟩⟩
  have HB:Hid (Below w.heap.size w (w.drew.alloc (.cells cs 97))):=((Below.refl _ _).drew).alloc (aj _) _;clear fG du hi hz cp kL Eu;go_enter func206,ntmps206;go_wp2_with (first | (at_builtin;refine Lib.wpList_append_run _ rfl (.tmp 20) (.tmp 21) 153 3 rfl _ _ rfl rfl _ _ bo ?_))
  go_ret;exact ⟨_,rfl,HO.out,HB.out⟩
 ·obtain rfl:n=0:=by omega
  go_enter func206,ntmps206;go_wp2;go_ret;exact ⟨_,rfl,bQ.nil _ _,Below.refl _ _⟩
def cR(LL:List (List Lk))(k:Nat):Nat:=((LL.take k).flatten).length
theorem jb(LL:List (List Lk))(k:Nat)(h:k<LL.length):cR LL (k+1)=cR LL k+LL[k].length:=by
 unfold cR;rw [ay h,dC,ae];simp
theorem kK(LL:List (List Lk))(k:Nat):cR LL k≤LL.flatten.length:=by
 unfold cR;conv=>rhs;rw [← aE k LL,dC,ae]
 omega
theorem ov(B m cap:Nat)(uh:List Value)(LL:List (List Lk))(w:World)(hm:LL.length=m)(Ek:m≤3)(hs:uh.length=m)(fU:LL.flatten.length*16≤140737488355328)(hc:∀ j (h:j<uh.length),w.cell? ⟨B,j,none⟩=some uh[j])(hr:∀ j (h:j<LL.length) (h':j<uh.length),dm w uh[j] LL[j]):Calls prog 166 #[.slice (some ⟨B,0,none⟩) m cap] w fun e w'=>∃ u,e = .returned u∧bQ w' w.heap.size u LL.flatten∧Below w.heap.size w w':=by
 have HM:=ab hm;have HS:=ab hs;have HC:=ab hc;have HR:=ab hr;have q9:=ab fU;obtain ⟨T,hT⟩ : ∃ T,T=LL.flatten.length:=⟨_,rfl⟩;have HT:=ab hT;have Zn:T*16≤140737488355328:=by rw [hT];exact fU
 have QL:Hid (cR LL 0=0):=by show _=_;simp [cR]
 clear hm hs hc hr fU hT;go_enter func166,ntmps166;go_wp2;go_loop [3,11] (fun r i=>∃ k:Nat,k≤m∧i = .int .i64 k∧r = .int .i64 (cR LL k:Int)) (fun _ i=>m - (intOf i).toNat)
 case atStart=>exact ⟨0,aC _,rfl,by rw [QL.out];rfl⟩
 case round =>
  obtain ⟨k,hk,rfl,rfl⟩:=hrel;by_cases bX:k<m
  ·have jm:k<uh.length:=by have:=HS.out;omega
   have pC:k<LL.length:=by have:=HM.out;omega
   have c1:=HC.out k jm;obtain ⟨a,c,hf⟩:=(HR.out k pC jm).form;rw [hf] at c1;have UB:=ab (jb LL k pC);have CF:=ab (kK LL (k+1));obtain ⟨x,hx⟩ : ∃ x,x=cR LL k:=⟨_,rfl⟩;obtain ⟨y,hy⟩ : ∃ y,y=cR LL (k+1):=⟨_,rfl⟩;obtain ⟨z,hz⟩ : ∃ z,z=LL[k].length:=⟨_,rfl⟩;rw [← hx,← hy,← hz] at UB;rw [← hy,← HT.out] at CF;rw [← hx];rw [← hz] at c1;have HY:=ab hy;have hw:IntKind.i64.wrap ((x:Int)+(z:Int))=(y:Int):=by rw [IntKind.wrap_i64];have:=UB.out;have:=CF.out;omega
   have G3:decide ((y:Int)<0)=false:=decide_eq_false (by omega)
   have dO:(k:Int)<(m:Int):=by omega
   clear hx hy hz hf HC HR;go_wp2;go_round
   case rel=>exact ⟨k+1,by omega,by go_num,by rw [← HY.out]⟩
   case measure=>simp [intOf];omega
  ·have GY:k=m:=by omega
   subst GY;have cZ:cR LL k=T:=by
    rw [HT.out];unfold cR;rw [ar (by rw [HM.out];exact aj _)]
   rw [cZ];have dO:¬ (k:Int)<(k:Int):=by omega
   have HG:=ab (tw T w Zn);clear cZ bX hk;go_wp2_with fail;refine HG.out.mono ?_
   rintro e w1 ⟨u,rfl,aD,aN⟩;have HO:=ab aD;have bN:=ab aN;clear aD aN HG;go_wp2;go_loopw [6,27] (fun u i wr=>∃ j:Nat,j≤k∧i = .int .i64 j∧bQ wr w.heap.size u ((LL.take j).flatten)∧Below w.heap.size w wr) (fun _ i _=>k - (intOf i).toNat)
   case atStart=>exact ⟨0,aC _,rfl,by simpa using HO.out,bN.out⟩
   case round =>
    obtain ⟨j,hj,rfl,aD,bL⟩:=hrel;clear HO bN;by_cases bX:j<k
    ·have jm:j<uh.length:=by have:=HS.out;omega
     have pC:j<LL.length:=by have:=HM.out;omega
     have c0:=HC.out j jm;have c1:wr.cell? ⟨B,j,none⟩=some uh[j]:=(bL.cell (p:=⟨B,j,none⟩) (World.block_lt_of_cell? w _ c0)).trans c0;have eN:=(HR.out j pC jm).below bL;have hle:=kK LL (j+1);rw [jb LL j pC,← HT.out] at hle;unfold cR at hle;obtain ⟨a1,cp1,w2,bo,dq,fJ⟩:=fo w.heap.size _ _ _ _ wr aD eN (by omega) bL.size
     have aY:Below w.heap.size w w2:=bL.grown fJ bL.size (fun q hq=>(aD.dy q hq).1)
     obtain ⟨a,c,hf⟩:=eN.form;obtain ⟨ua,uc,hu⟩:=aD.form;subst hu;rw [hf] at c1 bo;have kU:(LL.take j).flatten++LL[j]=(LL.take (j+1)).flatten:=by
      rw [ay pC,dC];simp
     rw [kU] at dq;generalize ((LL.take j).flatten).length=L1 at *;generalize LL[j].length=L2 at *;have gX:=ab dq;have bH:=ab aY;have dO:(j:Int)<(k:Int):=by omega
     clear hf HC HR aD dq bL aY fJ eN c0 hle;go_wp2_with (first | (at_builtin;refine wpList_append_run 153 rfl (.tmp 31) (.tmp 32) rfl rfl _ _ rfl rfl _ _ bo ?_))
     clear bo;go_wp2;go_roundw
     case rel=>exact ⟨j+1,by omega,by go_num,gX.out,bH.out⟩
     case measure=>simp [intOf];omega
    ·have cZ:LL.take j=LL:=by rw [ar];have:=HM.out;omega
     rw [cZ] at aD;have HO:=ab aD;have HB:=ab bL;have dO:¬ (j:Int)<(k:Int):=by omega
     clear aD bL cZ HC HR;go_wp2;go_ret;exact ⟨_,rfl,HO.out,HB.out⟩
open Go.Lib
theorem dY{P:Program}(w:World)(dT sT ty elem:TypeId)(g o Hh V2:Nat)(a:Addr)(Ga UT:Nat)(cur:Array Value)(t:TypeId)(cs:List Value)(hu:P.underlying dT=some (.slice elem))(hs:(P.info? elem).map (·.size)=some 1)(hg:w.heap[g]?=some (.cells cur t (0,0)))(hn:cs.length=Nat.min Ga Hh*1)(GS:∀ j v,cs[j]?=some v→w.cell? (a.add j)=some v)(eE:o+cs.length≤cur.size)(h1:∀ v ∈ cs,v.oneCell'=true):(Builtin.copy_ #[dT,sT] ty #[.slice (some ⟨g,o,none⟩) Hh V2,.slice (some a) Ga UT]).run P w = .ok (goInt (Nat.min Ga Hh)) (w.setRow g (cur.toList.take o++cs++cur.toList.drop (o+cs.length)).toArray):=by
 have hl:=run_loadCells_list (P:=P) w a cs GS;have eS:=run_storeCells_at P g o t cs 0 cur w hg (by simpa using eE) h1
 cases hq:P.info? elem with
 | none=>simp [hq] at hs
 | some i =>
  have hi:i.size=1:=by simpa [hq] using hs
  simp [Builtin.copy_,run_underlying hu,Builtin.lenOf,Builtin.firstCells,sizeOf,typeInfo,hq,hi,← hn,hl,eS]
theorem kF{P:Program}(w:World)(t e ty:TypeId)(x:Value)(ht:P.underlying t=some (.slice e))(hv:∀ w,(zeroValue e).run P w = .ok x w)(hx:x.oneCell'=true)(hxc:x.cells=#[x])(g o c:Nat)(cur:Array Value)(tt:TypeId)(hg:w.heap[g]?=some (.cells cur tt (0,0)))(eE:o+1≤cur.size):(Builtin.clear_ #[t] ty #[.slice (some ⟨g,o,none⟩) 1 c]).run P w = .ok (.tuple #[]) (w.setRow g (cur.toList.take o++[x]++cur.toList.drop (o+1)).toArray):=by
 have WO:(Builtin.zeroCells x.cells 1).toList=[x]:=by
  rw [hxc];simp [Builtin.zeroCells,Array.range]
 have eS:=run_storeCells_at P g o tt [x] 0 cur w hg (by simpa using eE) (by intro v Sn;simp at Sn;subst Sn;exact hx)
 simp [Builtin.clear_,run_underlying ht,hv,WO,eS]
theorem eb(l:List Lk):(bg l).length=l.length:=by simp [bg]
theorem BG(l:List Lk)(i:Nat):bg (l.take i)=(bg l).take i:=by simp [bg,List.map_take]
theorem Om(l:List Lk)(i:Nat):bg (l.drop i)=(bg l).drop i:=by simp [bg,List.map_drop]
theorem xI(base:Nat)(v:Value)(l:List Lk)(vb:Nat)(p:Lk)(w:World)(hm:l.length≤5864062014800)(ho:bQ w base v l)(dr:base≤w.heap.size)(hv:dm w (.slice (some ⟨vb,0,none⟩) 1 1) [p]):Calls prog 204 #[v,.int .i64 (l.length:Int),.slice (some ⟨vb,0,none⟩) 1 1] w fun e w'=>∃ u,e = .returned u∧bQ w' base u (l++[p])∧Below base w w':=by
 obtain ⟨a',c',w1,bo,aD,hg⟩:=fo base v _ l [p] w ho hv (by simp;omega) dr
 have aN:Below base w w1:=(Below.refl base w).grown hg dr (fun k hk=>(ho.dy k hk).1)
 have HO:=ab aD;have HB:=ab aN;have du:∃ a c,v = .slice a l.length c∧l.length≤c:=by
  obtain ⟨a,c,rfl,hle,_⟩:=ho.at;exact ⟨a,c,by rw [eb],by rw [eb] at hle;exact hle⟩
 obtain ⟨a,c,rfl,hle⟩:=du;rw [show ([p] : List Lk).length=1 from rfl] at bo
 obtain ⟨n,hn⟩ : ∃ n,n=l.length:=⟨_,rfl⟩;rw [← hn] at bo hle hm ⊢;have HN:=ab hn;clear aD hg aN ho hv hn;by_cases zK:c=n
 ·go_enter func204,ntmps204;go_wp2_with (first | (at_builtin;refine wpList_append_run 153 rfl (.tmp 23) (.tmp 24) rfl rfl _ _ rfl rfl _ _ bo ?_))
  clear bo;go_ret;exact ⟨_,rfl,by have:=HO.out;rwa [show l.length + [p].length=n+1 by rw [HN.out];rfl] at this,HB.out⟩
 ·go_enter func204,ntmps204;go_wp2_with (first | (at_builtin;refine wpList_append_run 153 rfl (.tmp 23) (.tmp 24) rfl rfl _ _ rfl rfl _ _ bo ?_))
  clear bo;go_ret;exact ⟨_,rfl,by have:=HO.out;rwa [show l.length + [p].length=n+1 by rw [HN.out];rfl] at this,HB.out⟩
theorem hJ{w:World}{g:Nat}{cur:Array Value}{t:TypeId}{l:List Lk}(hg:w.heap[g]?=some (.cells cur t (0,0)))(ht:cur.toList.take (l.length)=bg l)(i:Nat):∀ j u,(bg (l.drop i))[j]?=some u→w.cell? ⟨g,i+j,none⟩=some u:=by
 intro j u h;rw [Om,← ht,cL,b7] at h;split at h
 ·rw [Array.getElem?_toList] at h;simp [World.cell?,hg,h]
 ·cases h
theorem NS(w:World)(g vb i n1 c1:Nat)(cur vs:Array Value)(tA tB:TypeId)(ey:vb≠g)(hg:w.heap[g]?=some (.cells cur tA (0,0)))(hv:w.heap[vb]?=some (.cells vs tB (0,0)))(h0:cur.size≠0):(callFunc 232 #[.slice (some ⟨vb,0,none⟩) 1 1,.slice (some ⟨g,i,none⟩) n1 c1]).run prog w = .ok (.value (.bool false)) w:=by
 rw [run_callFunc_extern func232 (by kernel_rfl) (by kernel_rfl) (by kernel_rfl) (e:=Extern.SlicesOverlaps.overlaps #[153,153] #[4]) (by kernel_rfl),
  Lib.run_overlaps_apart w 153 4 97 underlying153 1 sizeOf97 ⟨vb,0,none⟩ ⟨g,i,none⟩ 1 1 n1 c1 ey tB tA vs.size cur.size (by simp [World.shape?,hv]) (by simp [World.shape?,hg]) h0 (by simp [World.frozen?,hv]) (by simp [World.frozen?,hv])]
 rfl
theorem tu(g c:Nat)(l:List Lk)(i vb:Nat)(p:Lk)(w:World)(cur:Array Value)(hi:i<l.length)(acu:c≤9223372036854775807)(dV:l.length+1≤c)(hg:w.heap[g]?=some (.cells cur 97 (0,0)))(cp:cur.size=c)(ht:cur.toList.take (l.length)=bg l)(hv:w.heap[vb]?=some (.cells #[p.val] 97 (0,0)))(ey:vb≠g):Calls prog 204 #[.slice (some ⟨g,0,none⟩) l.length c,.int .i64 (i:Int),.slice (some ⟨vb,0,none⟩) 1 1] w fun e w'=>e = .returned (.slice (some ⟨g,0,none⟩) (l.length+1) c)∧∃ fK:Array Value,w'=w.drew.setRow g fK∧fK.size=c∧fK.toList.take ((l.length+1))=bg (dD l i p):=by
 obtain ⟨n,hn⟩ : ∃ n,n=l.length:=⟨_,rfl⟩;have hov:=fun j n1 c1=>NS w g vb j n1 c1 cur _ _ _ ey hg hv (by omega)
 have j8:(prog.info? 97).map (·.size)=some 1:=by kernel_rfl
 have jq:(bg (l.drop i)).length=(n - i):=by rw [eb,ao,hn]
 obtain ⟨C1,qM⟩ : ∃ C:Array Value,C=(cur.toList.take ((i+1))++bg (l.drop i)++cur.toList.drop ((i+1)+(bg (l.drop i)).length)).toArray:=⟨_,rfl⟩;have mB:C1.size=c:=by rw [qM];simp [jq,cp];omega
 obtain ⟨C2,sr⟩ : ∃ C:Array Value,C=(C1.toList.take (i)++bg [p]++C1.toList.drop (i+(bg [p]).length)).toArray:=⟨_,rfl⟩;have pB:C2.size=c:=by rw [sr];simp [bg,mB];omega
 have ic:C2.toList.take ((n+1))=bg (dD l i p):=by
  have e1:cur.toList.take (i)=bg (l.take i):=by
   rw [BG,← ht,gV,a8 (by omega)]
  have l1:(bg (l.take i)).length=i:=by rw [eb,ag];omega
  have e2:C1.toList.take (i)=bg (l.take i):=by
   rw [qM,List.toList_toArray,ax,aF (by simp [cp];omega),gV,a8 (by omega),e1]
  have e3:C1.toList.drop (i+(bg [p]).length)=bg (l.drop i)++cur.toList.drop ((i+1)+(bg (l.drop i)).length):=by
   rw [qM,List.toList_toArray,ax,ij (by simp [cp,bg];omega),fq (by simp [cp,bg];omega)]
   rfl
  rw [sr,List.toList_toArray,e2,e3,dD,dt,show p::l.drop i=[p]++l.drop i from rfl,dt,← ax,← ax,aF (by simp only [ae,jq,l1,eb,aO];omega),ar (by simp only [ae,jq,l1,eb,aO];omega)]
 have VK:∀ ty dc sc,(Builtin.copy_ #[153,153] ty #[.slice (some ⟨g,(i+1),none⟩) (n - i) dc,.slice (some ⟨g,i,none⟩) (n+1 - i) sc]).run prog w.drew = .ok (goInt (Nat.min (n+1 - i) (n - i))) (w.drew.setRow g C1):=fun ty dc sc=>by
  rw [qM];exact dY w.drew 153 153 ty 97 g ((i+1)) (n - i) dc ⟨g,i,none⟩ (n+1 - i) sc cur 97 (bg (l.drop i)) underlying153 j8 hg (by rw [jq];simp only [ke];split <;> omega) (fun j u hj=>by rw [bA];exact hJ hg ht i j u hj) (by rw [jq,cp];omega) (fT _)
 have fJ:(w.drew.setRow g C1).heap[g]?=some (.cells C1 97 (0,0)):=setRow_heap w.drew g cur C1 97 (0,0) hg;have eH:(w.drew.setRow g C1).heap[vb]?=some (.cells #[p.val] 97 (0,0)):=(setRow_other w.drew g vb C1 ey).trans hv;have VJ:∀ ty dc,(Builtin.copy_ #[153,153] ty #[.slice (some ⟨g,i,none⟩) (n+1 - i) dc,.slice (some ⟨vb,0,none⟩) 1 1]).run prog (w.drew.setRow g C1) = .ok (goInt (Nat.min 1 (n+1 - i))) (w.drew.setRow g C2):=fun ty dc=>by
  have h:=dY (w.drew.setRow g C1) 153 153 ty 97 g (i) (n+1 - i) dc ⟨vb,0,none⟩ 1 1 C1 97 (bg [p]) underlying153 j8 fJ (by simp only [eb,aO,ke];split <;> omega) (fun j u hj=>by
   rw [bA];have lW:(#[p.val] : Array Value)[j]?=some u:=by simpa [bg] using hj
   simp [World.cell?,eH,lW]) (by simp [bg,mB];omega) (fT _)
  rw [h,sr,setRow_setRow]
 have HF:=ab ic;have HZ:=ab pB;have mixed:prog.follows Departure.mixedOrders=true:=by kernel_rfl
 have mB:¬ ((i:Int)=(n:Int)):=by omega
 have vT:IntKind.i64.wrap ((i:Int)+1)=(i:Int)+1:=by rw [IntKind.wrap_i64];omega
 have QU:IntKind.i64.wrap ((n:Int)+1)=(n:Int)+1:=by rw [IntKind.wrap_i64];omega
 have WU:((i:Int)+1).toNat=i+1:=by omega
 have abF:((n:Int)+1).toNat=n+1:=by omega
 have aN:(0:Int)≤(i:Int)+1:=by omega
 have aY:¬ (c=i+1):=by omega
 have gH:¬ (c=i):=by omega
 have Q3:(i:Int)≤(n:Int):=by omega
 have b6:(i:Int)≤(n:Int)+1:=by omega
 have VA:i≤n:=by omega
 have acf:i+1≤n+1:=by omega
 rw [← hn] at dV ⊢;clear qM sr ic pB jq fJ eH ht cp hg hv hn hi;go_enter func204,ntmps204;go_wp2_with (simp only [hov])
 go_region_law_o (refine step_copy_runI rfl _ _ 153 153 rfl _ _ (by simp [Act.eval,Act.put]) (by simp [Act.eval,Act.put]) (VK _ _ _) ?_)
 go_wp2_with (at_builtin;refine wpList_copy_runI _ rfl _ _ 153 153 rfl _ _ rfl rfl (VJ _ _) ?_)
 go_ret;exact ⟨rfl,C2,rfl,HZ.out,HF.out⟩
theorem wu(k:Nat):(Builtin.zeroCells (Value.nilIface).cells k).size=k:=by
 have:(Value.nilIface).cells=#[.nilIface]:=rfl;simp [Builtin.zeroCells,this]
theorem tv(g c:Nat)(l:List Lk)(i vb:Nat)(p:Lk)(w:World)(cur:Array Value)(hi:i<l.length)(hm:l.length≤5864062014800)(Ct:l.length≤c)(dV:c<l.length+1)(hg:w.heap[g]?=some (.cells cur 97 (0,0)))(ht:cur.toList.take (l.length)=bg l)(hv:w.heap[vb]?=some (.cells #[p.val] 97 (0,0))):Calls prog 204 #[.slice (some ⟨g,0,none⟩) l.length c,.int .i64 (i:Int),.slice (some ⟨vb,0,none⟩) 1 1] w fun e w'=>∃ G:Nat,e = .returned (.slice (some ⟨w.heap.size,0,none⟩) (l.length+1) G)∧l.length+1≤G∧G≤maxLen∧∃ fK:Array Value,w'.heap[w.heap.size]?=some (.cells fK 97 (0,0))∧Below w.heap.size w w'∧fK.size=G∧fK.toList.take ((l.length+1))=bg (dD l i p):=by
 obtain ⟨n,hn⟩ : ∃ n,n=l.length:=⟨_,rfl⟩;obtain ⟨i0,AM,nP,GM,OI⟩:=info_parts lV;have j8:(prog.info? 97).map (·.size)=some 1:=by rw [AM];simp [GM]
 have Pe:g<w.heap.size:=(Array.getElem?_eq_some_iff.1 hg).1;have X5:vb<w.heap.size:=(Array.getElem?_eq_some_iff.1 hv).1;have jq:(bg (l.drop i)).length=(n - i):=by rw [eb,ao,hn]
 have l1:(bg (l.take i)).length=i:=by rw [eb,ag];omega
 have Q1:(n:Int)+1 - (i:Int)=((n+1 - i:Nat):Int):=by omega
 have Q4:i+(n+1 - i)=n+1:=by omega
 have hold:(Builtin.firstCells i0.size i (.slice (some ⟨g,0,none⟩) i c)).run prog w.drew = .ok (bg (l.take i)).toArray w.drew:=by
  rw [GM];refine run_firstCells_some w.drew 1 i ⟨g,0,none⟩ i c (bg (l.take i)) (by rw [Nat.mul_one];exact l1) (fun j v hj=>?_)
  rw [bA,Nat.zero_add];rw [BG,b7] at hj;split at hj
  ·have:=hJ hg ht 0 j v (by simpa using hj)
   simpa using this
  ·cases hj
 obtain ⟨G,hG⟩ : ∃ G,G=grownCap w (n+1) c 97:=⟨_,rfl⟩;obtain ⟨R,hR⟩ : ∃ R:Array Value,R=(bg (l.take i)).toArray++Builtin.zeroCells (Value.nilIface).cells (n+1 - i)++Builtin.zeroCells (Value.nilIface).cells (G - (n+1)):=⟨_,rfl⟩;have Vh:∀ ty,(Builtin.append_ #[153,3] ty #[.slice (some ⟨g,0,none⟩) i c,.int .i64 ((n:Int)+1 - (i:Int))]).run prog w =
   .ok (.slice (some ⟨w.heap.size,0,none⟩) (n+1) G) (w.drew.alloc (.cells R 97)):=fun ty=>by
  have h:=Lib.run_append_grow_zeros w 153 3 ty 97 i0 _ .i64 .i64 underlying153 underlying3 AM nP (some ⟨g,0,none⟩) i c (bg (l.take i)) hold (n+1 - i) (by omega) (by omega) (by omega) (by omega) (by rw [OI];omega) (by rw [OI,Q4];exact growslice_fits (by omega) (by omega))
  rw [Q4] at h;rw [Q1,hR,hG];exact h
 have hGn:n+1≤G:=by rw [hG];exact grownCap_ge w _ _ _
 have VS:G≤maxLen:=by rw [hG];exact grownCap_le_maxLen w (n+1) c 97 (by unfold maxLen;omega)
 have VP:R.size=G:=by
  rw [hR,gv,gv,wu,wu];simp [l1];omega
 obtain ⟨W1,lf⟩ : ∃ W1,W1=w.drew.alloc (.cells R 97):=⟨_,rfl⟩;have Jk:W1.heap[w.heap.size]?=some (.cells R 97 (0,0)):=by rw [lf];exact heap_alloc_new w.drew _
 have SP:Below w.heap.size w W1:=by rw [lf];exact (B.aR (Below.refl _ _)).alloc (aj _) _
 have fJ:W1.heap[g]?=some (.cells cur 97 (0,0)):=(SP.block g Pe).trans hg;have eH:W1.heap[vb]?=some (.cells #[p.val] 97 (0,0)):=(SP.block vb X5).trans hv;rw [← lf] at Vh;obtain ⟨C1,qM⟩ : ∃ C:Array Value,C=(R.toList.take (i)++bg [p]++R.toList.drop (i+(bg [p]).length)).toArray:=⟨_,rfl⟩;have mB:C1.size=G:=by rw [qM];simp [bg,VP];omega
 obtain ⟨C2,sr⟩ : ∃ C:Array Value,C=(C1.toList.take ((i+1))++bg (l.drop i)++C1.toList.drop ((i+1)+(bg (l.drop i)).length)).toArray:=⟨_,rfl⟩;have pB:C2.size=G:=by rw [sr];simp [jq,mB];omega
 have ic:C2.toList.take ((n+1))=bg (dD l i p):=by
  have e0:R.toList.take (i)=bg (l.take i):=by
   rw [hR,cP,cP,List.toList_toArray,ax,aF (by omega),ar (by omega)]
  have e1:C1.toList.take ((i+1))=bg (l.take i)++bg [p]:=by
   rw [qM,List.toList_toArray,e0,aF (by simp only [ae,l1,eb,aO];omega),ar (by simp only [ae,l1,eb,aO];omega)]
  rw [sr,List.toList_toArray,e1,dD,dt,show p::l.drop i=[p]++l.drop i from rfl,dt,← ax,aF (by simp only [ae,jq,l1,eb,aO];omega),ar (by simp only [ae,jq,l1,eb,aO];omega)]
 have Vn:vb≠w.heap.size:=by omega
 have BQ:g≠w.heap.size:=by omega
 have Po:∀ ty dc,(Builtin.copy_ #[153,153] ty #[.slice (some ⟨w.heap.size,i,none⟩) (n+1 - i) dc,.slice (some ⟨vb,0,none⟩) 1 1]).run prog W1 = .ok (goInt (Nat.min 1 (n+1 - i))) (W1.setRow w.heap.size C1):=fun ty dc=>by
  rw [qM];exact dY W1 153 153 ty 97 w.heap.size (i) (n+1 - i) dc ⟨vb,0,none⟩ 1 1 R 97 (bg [p]) underlying153 j8 Jk (by simp only [eb,aO,ke];split <;> omega) (fun j u hj=>by
   rw [bA];have lW:(#[p.val] : Array Value)[j]?=some u:=by simpa [bg] using hj
   simp [World.cell?,eH,lW]) (by simp [bg,VP];omega) (fT _)
 have Jj:(W1.setRow w.heap.size C1).drew.heap[w.heap.size]?=some (.cells C1 97 (0,0)):=setRow_heap W1 w.heap.size R C1 97 (0,0) Jk;have zJ:(W1.setRow w.heap.size C1).drew.heap[g]?=some (.cells cur 97 (0,0)):=(setRow_other W1 w.heap.size g C1 BQ).trans fJ;have Pn:∀ ty dc sc,(Builtin.copy_ #[153,153] ty #[.slice (some ⟨w.heap.size,(i+1),none⟩) (n - i) dc,.slice (some ⟨g,i,none⟩) (n - i) sc]).run prog (W1.setRow w.heap.size C1).drew = .ok (goInt (Nat.min (n - i) (n - i))) ((W1.setRow w.heap.size C1).drew.setRow w.heap.size C2):=fun ty dc sc=>by
  rw [sr];exact dY (W1.setRow w.heap.size C1).drew 153 153 ty 97 w.heap.size ((i+1)) (n - i) dc ⟨g,i,none⟩ (n - i) sc C1 97 (bg (l.drop i)) underlying153 j8 Jj (by rw [jq];simp only [ke];split <;> omega) (fun j u hj=>by rw [bA];exact hJ zJ ht i j u hj) (by rw [jq,mB];omega) (fT _)
 have Px:((W1.setRow w.heap.size C1).drew.setRow w.heap.size C2).heap[w.heap.size]?=some (.cells C2 97 (0,0)):=setRow_heap (W1.setRow w.heap.size C1).drew w.heap.size C1 C2 97 (0,0) Jj;have VV:Below w.heap.size w ((W1.setRow w.heap.size C1).drew.setRow w.heap.size C2):=below_setRow (B.aR (below_setRow SP (aj _) C1)) (aj _) C2;obtain ⟨s,hs⟩ : ∃ s,s=w.heap.size:=⟨_,rfl⟩;rw [← hs] at Vh Po Pn Px VV ⊢;have HF:=ab ic;have HZ:=ab pB;have HN3:=ab Px;have dH:=ab VV;have HG:=ab VS;have mixed:prog.follows Departure.mixedOrders=true:=by kernel_rfl
 have acK:G≤9223372036854775807:=by unfold maxLen at VS;omega
 have Su:¬ ((i:Int)=(n:Int)):=by omega
 have vT:IntKind.i64.wrap ((i:Int)+1)=(i:Int)+1:=by rw [IntKind.wrap_i64];omega
 have QU:IntKind.i64.wrap ((n:Int)+1)=(n:Int)+1:=by rw [IntKind.wrap_i64];omega
 have Mr:IntKind.i64.wrap ((n:Int)+1 - (i:Int))=(n:Int)+1 - (i:Int):=by rw [IntKind.wrap_i64];omega
 have WU:((i:Int)+1).toNat=i+1:=by omega
 have aN:(0:Int)≤(i:Int)+1:=by omega
 have b6:(i:Int)≤(n:Int)+1:=by omega
 have aY:¬ (G=i+1):=by omega
 have fk:¬ (G=i):=by omega
 have gH:¬ (c=i):=by omega
 have Q3:(i:Int)≤(n:Int):=by omega
 have VA:i≤n:=by omega
 have hic:(i:Int)≤(c:Int):=by omega
 have hcr:(c:Int)<(n:Int)+1:=by omega
 rw [← hn] at dV ⊢;clear qM sr ic pB mB jq fJ eH zJ Jk Jj Px SP VV ht hg hv hi l1 Q1 Q4 hold VP hR hG Pe X5 AM nP GM OI j8 hn VS Vn BQ lf hs;go_enter func204,ntmps204;go_wp2_with (first
  | (at_builtin;refine Lib.wpList_append_run _ rfl _ _ _ _ rfl _ _ rfl rfl _ _ (Vh _) ?_)
  | (at_builtin;refine wpList_copy_runI _ rfl _ _ 153 153 rfl _ _ rfl rfl (Po _ _) ?_))
 go_region_law_o (refine step_copy_runI rfl _ _ 153 153 rfl _ _ (by simp [Act.eval,Act.put]) (by simp [Act.eval,Act.put]) (Pn _ _ _) ?_)
 go_wp2;go_ret;exact ⟨G,rfl,hGn,HG.out,C2,HN3.out,dH.out,HZ.out,HF.out⟩
theorem bQ.row{w:World}{base g c:Nat}{l:List Lk}{cur:Array Value}(hb:base≤g)(hg:w.heap[g]?=some (.cells cur 97 (0,0)))(Ct:l.length≤c)(hc:c≤maxLen)(hs:cur.size=c)(ht:cur.toList.take (l.length)=bg l):bQ w base (.slice (some ⟨g,0,none⟩) l.length c) l :=
 ⟨by rw [eb,Nat.mul_one],.inr ⟨g,c,cur,rfl,hb,hg,Ct,hc,by rw [hs,Nat.mul_one],by rw [Nat.mul_one];exact ht⟩⟩
theorem fc(l:List Lk)(i:Nat)(p:Lk)(h:i≤l.length):(dD l i p).length=l.length+1:=by
 unfold dD;rw [ae,List.length_cons,ag,ao];omega
theorem xO(l:List Lk)(p:Lk):dD l l.length p=l++[p]:=by simp [dD]
theorem ot(base:Nat)(v:Value)(l:List Lk)(i vb:Nat)(p:Lk)(w:World)(hm:l.length≤5864062014800)(hi:i≤l.length)(ho:bQ w base v l)(dr:base≤w.heap.size)(hv:B.au w vb #[p.val] 97)(ey:v.ownBlock≠some vb):Calls prog 204 #[v,.int .i64 (i:Int),.slice (some ⟨vb,0,none⟩) 1 1] w fun e w'=>∃ u,e = .returned u∧bQ w' base u (dD l i p)∧Below base w w':=by
 by_cases Q3:i=l.length
 ·subst Q3;rw [xO];refine xI base v l vb p w hm ho dr ⟨_,_,rfl,aj _,fun h=>(by cases h),fun j u hj=>⟨_,_,rfl,?_⟩⟩
  have lW:j<1:=(List.getElem?_eq_some_iff.1 hj).1;have Mu:j=0:=by omega
  subst Mu;cases hj;exact hv.cell 0 (by simp)
 ·have bX:i<l.length:=by omega
  rcases ho.2 with ⟨_,h0⟩ | ⟨g,c,cur,rfl,hb,hg,Cs,sO,fG,mC⟩
  ·omega
  ·by_cases hr:l.length+1≤c
   ·refine (tu g c l i vb p w cur bX (by unfold maxLen at sO;omega) hr hg (by rw [fG,Nat.mul_one]) (by rw [Nat.mul_one] at mC;exact mC) hv (fun h=>ey (by rw [h];rfl))).mono ?_
    rintro e w' ⟨rfl,fK,rfl,h2,h3⟩;refine ⟨_,rfl,?_,below_setRow (B.aR (Below.refl _ _)) hb fK⟩;have:=bQ.row (l:=dD l i p) hb (setRow_heap w.drew g cur fK 97 (0,0) hg) (by rw [fc l i p hi];exact hr) sO h2 (by rw [fc l i p hi];exact h3)
    rwa [fc l i p hi] at this
   ·refine (tv g c l i vb p w cur bX hm Cs (by omega) hg (by rw [Nat.mul_one] at mC;exact mC) hv).mono ?_
    rintro e w' ⟨G,rfl,h1,h2,fK,h3,h4,h5,h6⟩;refine ⟨_,rfl,?_,h4.mono dr⟩;have:=bQ.row (l:=dD l i p) dr h3 (by rw [fc l i p hi];exact h1) h2 h5 (by rw [fc l i p hi];exact h6)
    rwa [fc l i p hi] at this
end C
end Go.Proofs.YtihmgigfkmofnaaGreatDoor
