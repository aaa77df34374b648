import Derived.Test.YtihmgigfkmofnaaGreatDoorG02
import Derived.Shelf.Spec.SlicesInsertGrow
import Derived.Laws.CopyRow
import Derived.Laws.CopyOwn
set_option maxHeartbeats 4000000
set_option maxRecDepth 100000
open Go.Proofs.Tryz
namespace Go.Proofs.YtihmgigfkmofnaaGreatDoor
theorem kY{X Y Z:List Pr}{key:ByteArray}(hX:∀ p ∈ X,cX p.1 key=true)(hZ:∀ p ∈ Z,cX key p.1=true):aJ (X++(Y++Z)) key=X.length+aJ Y key:=by
 have iB:=cp Y key;by_cases h:aJ Y key<Y.length
 ·refine mE (by simp;omega) (fun j hj=>?_) ?_
  ·by_cases UG:j<X.length
   ·rw [aI UG];exact hX _ (aH UG)
   ·rw [bt (by omega),aI (by omega)]
    exact kx Y key _ (by omega) (by omega)
  ·rw [bt (by omega),aI (by omega)]
   simp only [show X.length+aJ Y key - X.length=aJ Y key by omega]
   exact sw Y key h
 ·have he:aJ Y key=Y.length:=by omega
  have dj:∀ j (hj:j<Y.length),cX Y[j].1 key=true:=fun j hj=>kx Y key j (by omega) hj
  rw [he];cases Z with
  | nil =>
   rw [List.append_nil,qR,ae];intro j hj;rw [ae] at hj;by_cases UG:j<X.length
   ·rw [aI UG];exact hX _ (aH UG)
   ·rw [bt (by omega)];exact dj _ (by omega)
  | cons z Z =>
   refine mE (by simp) (fun j hj=>?_) ?_
   ·by_cases UG:j<X.length
    ·rw [aI UG];exact hX _ (aH UG)
    ·rw [bt (by omega),aI (by omega)];exact dj _ (by omega)
   ·rw [bt (by omega),bt (by omega)]
    simp only [show X.length+Y.length - X.length - Y.length=0 by omega,List.getElem_cons_zero]
    exact mw (hZ z dq)
theorem QL{X Y Z:List Pr}{n:Nat}(h:n<Y.length):(X++(Y++Z))[X.length+n]?=Y[n]?:=by
 rw [aZ (by omega),show X.length+n - X.length=n by omega,bu h]
theorem nA{X Y Z:List Pr}{key:ByteArray}(hX:∀ p ∈ X,cX p.1 key=true)(hZ:∀ p ∈ Z,cX key p.1=true):bh (X++(Y++Z)) key=bh Y key:=by
 have iB:=cp Y key;unfold bh;rw [kY hX hZ];by_cases h:aJ Y key<Y.length
 ·rw [QL h]
 ·have he:aJ Y key=Y.length:=by omega
  rw [he,aZ (by omega),show X.length+Y.length - X.length=Y.length by omega,aZ (by omega),dO]
  rw [bE (aj Y.length)];cases Z with
  | nil=>rfl
  | cons z Z =>
   have:=hZ z dq;simp only [List.getElem?_cons_zero,decide_eq_false_iff_not];intro e;rw [e,gS] at this;cases this
theorem vh{X Y Z:List Pr}{key:ByteArray}(hX:∀ p ∈ X,cX p.1 key=true)(hZ:∀ p ∈ Z,cX key p.1=true):bZ (X++(Y++Z)) key=X.length+bZ Y key:=by
 unfold bZ;rw [nA hX hZ,kY hX hZ];split <;> omega
theorem CU{X Y Z:List Pr}{n:Nat}(h:n≤Y.length):(X++(Y++Z)).take (X.length+n)=X++Y.take n:=by
 rw [List.take_append,aq (by omega),show X.length+n - X.length=n by omega,aF h]
theorem EO{X Y Z:List Pr}{n:Nat}(h:n≤Y.length):(X++(Y++Z)).drop (X.length+n)=Y.drop n++Z:=by
 rw [List.drop_append,List.drop_of_length_le (by omega),show X.length+n - X.length=n by omega,il h,List.nil_append]
theorem NO{X Y Z:List Pr}{key value:ByteArray}(hX:∀ p ∈ X,cX p.1 key=true)(hZ:∀ p ∈ Z,cX key p.1=true):fc (X++(Y++Z)) key value=X++(fc Y key value++Z):=by
 unfold fc;rw [kY hX hZ,vh hX hZ,CU (cp _ _),EO (jZ _ _)];simp
theorem LR{X Y Z:List Pr}{key:ByteArray}(hX:∀ p ∈ X,cX p.1 key=true)(hZ:∀ p ∈ Z,cX key p.1=true):cU (X++(Y++Z)) key=X++(cU Y key++Z):=by
 unfold cU;rw [kY hX hZ,vh hX hZ,CU (cp _ _),EO (jZ _ _)];simp
theorem CV(l:List Pr)(k:Nat):fL (l.drop k)≤fL l:=by
 have h:fL l=fL (l.take k)+fL (l.drop k):=by rw [← iQ,aG]
 omega
theorem z8(l:List Pr){n m:Nat}(h:n≤m):fL (l.take n)+fL (l.drop m)≤fL l:=by
 have h1:fL l=fL (l.take n)+fL (l.drop n):=by rw [← iQ,aG]
 have h2:l.drop m=(l.drop n).drop (m - n):=by rw [List.drop_drop];congr 1;omega
 rw [h2];have:=CV (l.drop n) (m - n);omega
theorem Ho{l:List Pr}{key:ByteArray}(hr:gD l):gD (cU l key):=by
 refine uB (hr.take _) (hr.drop _) (fun p hp q hq=>?_)
 obtain ⟨i,hi,rfl⟩:=aQ hp;obtain ⟨j,hj,rfl⟩:=aQ hq;rw [ag] at hi;rw [ao] at hj;have:=eQ l key;simp only [bD,dd];exact hr.lt i _ (by omega) (by omega)
theorem su{key value:ByteArray}(hm:cP (key,value)=true):Fit key (fun l=>fc l key value) where
 loc:=fun _ _ _ hX hZ=>NO hX hZ
 rise:=fun _ h=>NN h
 mem:=fun l p hp=>by
  unfold fc at hp;rcases List.mem_append.1 hp with h | h
  ·exact .inl (bH h)
  ·rcases List.mem_cons.1 h with rfl | h
   ·exact .inr ⟨rfl,hm⟩
   ·exact .inl (bI h)
 size:=fun l=>by
  unfold fc;rw [iQ,oq];have h1:=z8 l (eQ l key);have h2:=eM hm;unfold z7;simp only at h2 ⊢;omega
theorem fit_drop(key:ByteArray):Fit key (fun l=>cU l key) where
 loc:=fun _ _ _ hX hZ=>LR hX hZ
 rise:=fun _ h=>Ho h
 mem:=fun l p hp=>by
  unfold cU at hp;rcases List.mem_append.1 hp with h | h
  ·exact .inl (bH h)
  ·exact .inl (bI h)
 size:=fun l=>by
  unfold cU;rw [iQ];have h1:=z8 l (eQ l key);omega
abbrev cQ:=Option ((h:Nat) × Nd h)
def aC:cQ→List Pr
 | none=>[]
 | some r=>flat r.1 r.2
def wL:(h:Nat)→Nd h→Prop
 | 0,t=>t.2≠[]
 | _+1,t=>t.2.1≠[]
def eW:cQ→Prop
 | none=>True
 | some r=>Ok r.1 r.2 none none∧nK r.1 r.2≤4072∧wL r.1 r.2
def ue(h:Nat)(t:Nd h)(r:cQ):Prop :=
 (Mf h t∧∃ a k b,Cut h t a k b∧r=some ⟨h+1,(0,[k],[a,b])⟩) ∨
 (¬ Mf h t∧wL h t∧r=some ⟨h,t⟩) ∨
 (¬ Mf h t∧¬ wL h t∧match h,t with
  | 0,_=>r=none
  | h+1,t=>∃ c,t.2.2=[c]∧r=some ⟨h,c⟩)
theorem Ai{h:Nat}{t:Nd h}{r:cQ}(ho:Ok h t none none)(hs:nK h t≤zm h)(hr:ue h t r):eW r∧aC r=flat h t:=by
 rcases hr with ⟨hb,a,k,b,hc,rfl⟩ | ⟨hb,h1,rfl⟩ | ⟨hb,h1,hm⟩
 ·obtain ⟨g1,g2,g3,g4,g5⟩:=Qo ho hc hb hs;refine ⟨⟨⟨g3,g4,g1,g2⟩,?_,by simp [wL]⟩,by simp [aC,flat,← g5]⟩
  have e1:=iX k [];have e5:fD []=6:=rfl;unfold cW at g4;show fD [k]≤4072
  omega
 ·exact ⟨⟨ho,by unfold Mf at hb;show nK h t≤4072;omega,h1⟩,rfl⟩
 ·cases h with
  | zero =>
   subst hm;have:t.2=[]:=Classical.not_not.1 h1;exact ⟨trivial,by simp [aC,flat,this]⟩
  | succ h =>
   obtain ⟨c,hc,rfl⟩:=hm;have hk:t.2.1=[]:=Classical.not_not.1 h1;have G2:gX (ld h) none none t.2.1 t.2.2:=ho;rw [hk,hc] at G2;have gC:ld h c none none:=G2;refine ⟨⟨gC.1,gC.2.2,?_⟩,by simp [aC,flat,hc]⟩
   have hf:=gC.2.1;cases h with
   | zero =>
    intro e;have e:c.2=[]:=e;simp [xD,nK,e,ry] at hf
   | succ h =>
    intro e;have e:c.2.1=[]:=e;simp [xD,nK,e,fD] at hf
theorem Ki(h:Nat):4072+Ae h≤zm h:=by cases h <;> simp [Ae,zm]
def qZ(key:ByteArray)(f:List Pr→List Pr):cQ→cQ→Prop
 | none,r'=>ue 0 (0,f []) r'
 | some r,r'=>∃ t',XG key f r.1 r.2 t'∧ue r.1 t' r'
theorem lK{key:ByteArray}{f:List Pr→List Pr}(hf:Fit key f){r r':cQ}(h:eW r)(hu:qZ key f r r'):eW r'∧aC r'=f (aC r):=by
 cases r with
 | none =>
  have hu:ue 0 (0,f []) r':=hu;have h0:=hf.size [];rw [ry] at h0;exact Ai (h:=0) (t:=(0,f [])) ⟨hf.rise _ Dd,fun p hp=>by
   rcases hf.mem _ p hp with h1 | ⟨_,h2⟩
   ·simp at h1
   ·exact ⟨h2,Jc _⟩⟩ (by show fL (f [])≤5627;omega) hu
 | some r =>
  obtain ⟨t',h1,h2⟩:=hu;obtain ⟨g1,g2,g3⟩:=Nf hf r.1 h.1 (Jc key) h1;have:=Ai g1 (by have h9:nK r.1 r.2≤4072:=h.2.1;have h8:=Ki r.1;omega) h2
  exact ⟨this.1,by rw [this.2,g2];rfl⟩
def Way(key:ByteArray):(h:Nat)→Nd h→List Pr→Prop
 | 0,t,l=>l=t.2
 | h+1,t,l=>∃ (A B:List ByteArray) (C1:List (Nd h)) (c:Nd h) (C2:List (Nd h)),t.2.1=A++B∧t.2.2=C1++c::C2∧A.length=C1.length∧(∀ k ∈ A,cX key k=false)∧(∀ k,B.head?=some k→cX key k=true)∧Way key h c l
theorem FZ{key:ByteArray}:∀ (h:Nat) {t:Nd h} {l:List Pr} {lo hi:Option ByteArray},Ok h t lo hi→Way key h t l→∃ X Z,flat h t=X++(l++Z)∧(∀ p ∈ X,cX p.1 key=true)∧(∀ p ∈ Z,cX key p.1=true)
 | 0,t,l,_,_,_,hw=>by
  have hw:l=t.2:=hw;exact ⟨[],[],by simp [flat,hw],(fun _ h=>by simp at h),(fun _ h=>by simp at h)⟩
 | h+1,t,l,lo,hi,ho,hw=>by
  obtain ⟨A,B,C1,c,C2,e1,e2,hl,hA,hB,hw'⟩:=hw;have G2:gX (ld h) lo hi (A++B) (C1++c::C2):=by rw [← e1,← e2];exact ho
  obtain ⟨hp,hc⟩:=(pB hl).1 G2;obtain ⟨X,Z,e,h1,h2⟩:=FZ h (rO hc).1 hw';refine ⟨C1.flatMap (flat h)++X,Z++C2.flatMap (flat h),?_,fun p G1=>?_,fun p G1=>?_⟩
  ·show t.2.2.flatMap (flat h)=_
   rw [e2,aT,List.flatMap_cons,e];simp
  ·rcases List.mem_append.1 G1 with h' | h'
   ·exact rL (P:=ld h) (fun _ _ _ hc=>qe h hc.1) hp hA p h'
   ·exact h1 p h'
  ·rcases List.mem_append.1 G1 with h' | h'
   ·exact h2 p h'
   ·exact ub (P:=ld h) (fun _ _ _ hc=>qe h hc.1) hc hB p h'
namespace C
open Go.RowKit Go.Lib
inductive Ch where
 | pg (id:Int)
 | nd (b:Nat)
def Ch.val:Ch→Value
 | .pg id=>.iface 146 (.int .i64 id)
 | .nd b=>.iface 152 (.pointer (some ⟨b,0,none⟩))
abbrev Lk:=Ch
def bm(l:List Lk):List Value:=l.map Ch.val
theorem ep(p:Lk)(l:List Lk):bm (p::l)=p.val::bm l:=rfl
theorem dh(a b:List Lk):bm (a++b)=bm a++bm b:=by simp [bm]
theorem aR(l:List Lk):(bm l).length=l.length*1:=by simp [bm]
theorem gI(l:List Lk)(j:Nat)(h:j<l.length):(bm l)[j]?=some l[j].val:=by simp [bm,h]
theorem val_one(p:Ch):p.val.oneCell'=true:=by cases p <;> rfl
theorem fU(l:List Lk):∀ u ∈ bm l,u.oneCell'=true:=by
 intro u hu;simp only [bm,List.mem_map] at hu;obtain ⟨p,_,rfl⟩:=hu;exact val_one p
theorem rU(l:List Lk)(i:Nat):bm (l.take i)=(bm l).take (i*1):=by simp [bm,List.map_take]
theorem DT(l:List Lk)(i:Nat):bm (l.drop i)=(bm l).drop (i*1):=by simp [bm,List.map_drop]
theorem lQ:(prog.info? 97).map (fun i=>(i.zero,i.size,i.bytes))=some (some .nilIface,1,16):=by kernel_rfl
def dI(l:List Lk)(i:Nat)(p:Lk):List Lk:=l.take i++p::l.drop i
def cH(l:List Lk)(i:Nat):List Lk:=l.take i++l.drop (i+1)
def cV(w:World)(v:Value)(l:List Lk):Prop:=nI w v (bm l)
theorem cV.below{w w':World}{v:Value}{l:List Lk}(h:cV w v l)(hb:Below w.heap.size w w'):cV w' v l:=nI.below h hb
theorem cV.form{w:World}{v:Value}{l:List Lk}(h:cV w v l):∃ a c,v = .slice a l.length c:=by
 obtain ⟨a,c,rfl,_⟩:=h;exact ⟨a,c,by rw [aR,Nat.mul_one]⟩
def b7(w:World)(base:Nat)(v:Value)(l:List Lk):Prop:=w.ownsRow base 97 1 v l.length (bm l)
theorem b7.at{w:World}{base:Nat}{v:Value}{l:List Lk}(h:b7 w base v l):cV w v l:=fT h
theorem b7.form{w:World}{base:Nat}{v:Value}{l:List Lk}(h:b7 w base v l):∃ a c,v = .slice a l.length c:=h.at.form
theorem b7.below{w w':World}{base:Nat}{v:Value}{l:List Lk}(h:b7 w base v l)(hb:Below w.heap.size w w'):b7 w' base v l:=by
 refine ⟨h.1,?_⟩;rcases h.2 with h' | ⟨g,cap,cur,h',h1,h2,hr⟩
 ·exact .inl h'
 ·refine .inr ⟨g,cap,cur,h',h1,?_,hr⟩;have hg:g<w.heap.size:=(Array.getElem?_eq_some_iff.1 h2).1;rw [hb.block g hg];exact h2
theorem b7.nil(w:World)(base:Nat):b7 w base (.slice none 0 0) []:=World.ownsRow_nil _ _ _ _
theorem b7.dn{w:World}{base:Nat}{v:Value}{l:List Lk}(h:b7 w base v l):∀ k,v.ownBlock=some k→base≤k∧k<w.heap.size:=World.ownsRow.lt h
theorem fo(base:Nat)(v s:Value)(xs us:List Lk)(w:World)(aE:b7 w base v xs)(hs:cV w s us)(hb:(xs.length+us.length)*16≤140737488355328)(dy:base≤w.heap.size):∃ a' eP w',(Builtin.append_ #[153,153] 153 #[v,s]).run prog w = .ok (.slice a' (xs.length+us.length) eP) w'∧b7 w' base (.slice a' (xs.length+us.length) eP) (xs++us)∧w.grownBy w' v.ownBlock:=by
 obtain ⟨a',c',w',h1,h2,h3⟩:=nH 153 97 .nilIface 16 lQ underlying153 rfl base xs.length v (bm xs) w aE s (bm us) hs (fU us) (by rw [aR];omega) (by decide) dy
 have e:(bm us).length=us.length:=by rw [aR,Nat.mul_one]
 rw [e] at h1 h2;refine ⟨a',c',w',h1,?_,h3⟩;unfold b7;rw [ae,dh];exact h2
theorem oJ(ad:Addr)(n cap:Nat)(l:List Lk)(w:World)(hm:l.length≤1000000)(hn:l.length=n)(hr:cV w (.slice (some ad) n cap) l):Calls prog 164 #[.slice (some ad) n cap] w fun e w'=>∃ u,e = .returned u∧b7 w' w.heap.size u l∧Below w.heap.size w w':=by
 have qN:∀ w,(binOp .eql 153 (.slice (some ad) n cap) (.slice none 0 0)).run prog w = .ok (.bool false) w:=fun w=>by
  have h2:∀ d:Nat,(Op.equalIn (d+1) 153 (.slice (some ad) n cap) (.slice none 0 0)).run prog w = .ok false w:=fun d=>by
   simp [Op.equalIn,run_underlying underlying153]
  simp only [binOp];simp [Op.equal,Op.maxDepth,h2 9999]
 have fh:=ai w (.cells #[] 97);have ho:b7 (w.alloc (.cells #[] 97)) w.heap.size (.slice (some ⟨w.heap.size,0,none⟩) 0 0) []:=World.ownsRow_lit w #[] 0 (aj _) (aD _) rfl;obtain ⟨a1,c1,w1,bg,aE,hg⟩:=fo w.heap.size _ _ [] l _ ho (hr.below fh) (by simp;omega) (by simp)
 rw [List.length_nil,Nat.zero_add,hn] at bg aE;rw [List.nil_append] at aE;have aP:Below w.heap.size w w1:=fh.grown hg (by simp) (fun k hk=>by simp [Value.ownBlock] at hk;omega)
 have HO:=ab aE;have HB:=ab aP;clear hr fh ho aE hg aP;go_enter func164,ntmps164;go_wp2_with (first | (at_builtin;refine wpList_append_run 153 rfl (.tmp 5) (.tmp 6) rfl rfl _ _ rfl rfl _ _ bg ?_))
 clear bg;go_ret;exact ⟨_,rfl,HO.out,HB.out⟩
theorem eN(v:Value)(l:List Lk)(w:World)(hm:l.length≤1000000)(hr:cV w v l):Calls prog 164 #[v] w fun e w'=>∃ u,e = .returned u∧b7 w' w.heap.size u l∧Below w.heap.size w w':=by
 obtain ⟨a,c,hv⟩:=hr.form;subst hv;cases a with
 | some ad=>exact oJ ad l.length c l w hm rfl hr
 | none =>
  have h0:l=[]∧c=0:=by
   obtain ⟨a',c',he,_,hn,hc⟩:=hr;simp only [Value.slice.injEq] at he;obtain ⟨rfl,-,rfl⟩:=he;refine ⟨?_,hn rfl⟩;cases l with
   | nil=>rfl
   | cons p r=>obtain ⟨g,o,he,_⟩:=hc 0 p.val rfl;cases he
  obtain ⟨rfl,rfl⟩:=h0;have qN:∀ w,(binOp .eql 153 (.slice none 0 0) (.slice none 0 0)).run prog w = .ok (.bool true) w:=fun w=>by
   have h2:∀ d:Nat,(Op.equalIn (d+1) 153 (.slice none 0 0) (.slice none 0 0)).run prog w = .ok true w:=fun d=>by
    simp [Op.equalIn,run_underlying underlying153]
   simp only [binOp];simp [Op.equal,Op.maxDepth,h2 9999]
  clear hr;rw [List.length_nil];go_enter func164,ntmps164;go_wp2;go_ret;exact ⟨_,rfl,b7.nil _ _,Below.refl _ _⟩
end C
end Go.Proofs.YtihmgigfkmofnaaGreatDoor
namespace Go.Proofs.YtihmgigfkmofnaaGreatDoor
namespace C
open Go.RowKit
theorem ke(n:Nat):(Builtin.zeroCells (Value.nilIface).cells n).size=n*1:=by
 simp [Builtin.zeroCells,Value.cells]
theorem tF(n:Nat)(w:World)(hn:n*16≤140737488355328):Calls prog 206 #[.slice none 0 0,.int .i64 (n:Int)] w fun e w'=>∃ u,e = .returned u∧b7 w' w.heap.size u []∧Below w.heap.size w w':=by
 obtain ⟨i0,hi,hz,cx,kU⟩:=info_parts lQ;have Hb:decide ((n:Int)<0)=false:=decide_eq_false (by omega)
 by_cases h0:0<n
 ·have bg:=Lib.run_append_nil_zeros (P:=prog) w 153 3 153 97 i0 _ .i64 .i64 underlying153 underlying3 hi hz n h0 (by omega) (by omega) (by rw [kU];omega)
  have G0:(0:Int)<(n:Int):=by omega
  have hw:IntKind.i64.wrap ((n:Int))=(n:Int):=by rw [IntKind.wrap_i64];omega
  generalize di:grownCap w n 0 97=cap at *;have hle:n≤cap:=by rw [← di];exact grownCap_ge _ _ _ _
  have Uz:cap≤maxLen:=by rw [← di];exact grownCap_le_maxLen _ _ _ _ (by unfold maxLen;omega)
  generalize fs:Builtin.zeroCells _ n++Builtin.zeroCells _ (cap - n)=cs at bg;have EA:cs.size=cap*1:=by rw [← fs,ew,ke,ke];omega
  have HO:Hid (b7 (w.drew.alloc (.cells cs 97)) w.heap.size (.slice (some ⟨w.heap.size,0,none⟩) 0 cap) []) :=
   ⟨by simp [bm],.inr ⟨w.heap.size,cap,cs,rfl,aj _,heap_alloc_new w.drew _,aD _,Uz,EA,by simp [bm]⟩⟩
  have HB:Hid (Below w.heap.size w (w.drew.alloc (.cells cs 97))):=((Below.refl _ _).drew).alloc (aj _) _;clear fs di hi hz cx kU EA;go_enter func206,ntmps206;go_wp2_with (first | (at_builtin;refine Lib.wpList_append_run _ rfl (.tmp 20) (.tmp 21) 153 3 rfl _ _ rfl rfl _ _ bg ?_))
  go_ret;exact ⟨_,rfl,HO.out,HB.out⟩
 ·obtain rfl:n=0:=by omega
  go_enter func206,ntmps206;go_wp2;go_ret;exact ⟨_,rfl,b7.nil _ _,Below.refl _ _⟩
def cY(LL:List (List Lk))(k:Nat):Nat:=((LL.take k).flatten).length
theorem jr(LL:List (List Lk))(k:Nat)(h:k<LL.length):cY LL (k+1)=cY LL k+LL[k].length:=by
 unfold cY;rw [az h,dH,ae];simp
theorem lB(LL:List (List Lk))(k:Nat):cY LL k≤LL.flatten.length:=by
 unfold cY;conv=>rhs;rw [← aG k LL,dH,ae]
 omega
theorem oI(B m cap:Nat)(uv:List Value)(LL:List (List Lk))(w:World)(hm:LL.length=m)(Et:m≤3)(hs:uv.length=m)(fW:LL.flatten.length*16≤140737488355328)(hc:∀ j (h:j<uv.length),w.cell? ⟨B,j,none⟩=some uv[j])(hr:∀ j (h:j<LL.length) (h':j<uv.length),cV w uv[j] LL[j]):Calls prog 166 #[.slice (some ⟨B,0,none⟩) m cap] w fun e w'=>∃ u,e = .returned u∧b7 w' w.heap.size u LL.flatten∧Below w.heap.size w w':=by
 have HM:=ab hm;have HS:=ab hs;have HC:=ab hc;have HR:=ab hr;have ri:=ab fW;obtain ⟨T,hT⟩ : ∃ T,T=LL.flatten.length:=⟨_,rfl⟩;have HT:=ab hT;have ZS:T*16≤140737488355328:=by rw [hT];exact fW
 have Q6:Hid (cY LL 0=0):=by show _=_;simp [cY]
 clear hm hs hc hr fW hT;go_enter func166,ntmps166;go_wp2;go_loop [3,11] (fun r i=>∃ k:Nat,k≤m∧i = .int .i64 k∧r = .int .i64 (cY LL k:Int)) (fun _ i=>m - (intOf i).toNat)
 case atStart=>exact ⟨0,aD _,rfl,by rw [Q6.out];rfl⟩
 case round =>
  obtain ⟨k,hk,rfl,rfl⟩:=hrel;by_cases bP:k<m
  ·have jA:k<uv.length:=by have:=HS.out;omega
   have qg:k<LL.length:=by have:=HM.out;omega
   have c1:=HC.out k jA;obtain ⟨a,c,hf⟩:=(HR.out k qg jA).form;rw [hf] at c1;have U0:=ab (jr LL k qg);have vl:=ab (lB LL (k+1));obtain ⟨x,hx⟩ : ∃ x,x=cY LL k:=⟨_,rfl⟩;obtain ⟨y,hy⟩ : ∃ y,y=cY LL (k+1):=⟨_,rfl⟩;obtain ⟨z,hz⟩ : ∃ z,z=LL[k].length:=⟨_,rfl⟩;rw [← hx,← hy,← hz] at U0;rw [← hy,← HT.out] at vl;rw [← hx];rw [← hz] at c1;have HY:=ab hy;have hw:IntKind.i64.wrap ((x:Int)+(z:Int))=(y:Int):=by rw [IntKind.wrap_i64];have:=U0.out;have:=vl.out;omega
   have Hb:decide ((y:Int)<0)=false:=decide_eq_false (by omega)
   have dS:(k:Int)<(m:Int):=by omega
   clear hx hy hz hf HC HR;go_wp2;go_round
   case rel=>exact ⟨k+1,by omega,by go_num,by rw [← HY.out]⟩
   case measure=>simp [intOf];omega
  ·have Le:k=m:=by omega
   subst Le;have dj:cY LL k=T:=by
    rw [HT.out];unfold cY;rw [aq (by rw [HM.out];exact aj _)]
   rw [dj];have dS:¬ (k:Int)<(k:Int):=by omega
   have HG:=ab (tF T w ZS);clear dj bP hk;go_wp2_with fail;refine HG.out.mono ?_
   rintro e w1 ⟨u,rfl,aE,aP⟩;have HO:=ab aE;have bQ:=ab aP;clear aE aP HG;go_wp2;go_loopw [6,27] (fun u i wr=>∃ j:Nat,j≤k∧i = .int .i64 j∧b7 wr w.heap.size u ((LL.take j).flatten)∧Below w.heap.size w wr) (fun _ i _=>k - (intOf i).toNat)
   case atStart=>exact ⟨0,aD _,rfl,by simpa using HO.out,bQ.out⟩
   case round =>
    obtain ⟨j,hj,rfl,aE,bO⟩:=hrel;clear HO bQ;by_cases bP:j<k
    ·have jA:j<uv.length:=by have:=HS.out;omega
     have qg:j<LL.length:=by have:=HM.out;omega
     have c0:=HC.out j jA;have c1:wr.cell? ⟨B,j,none⟩=some uv[j]:=(bO.cell (p:=⟨B,j,none⟩) (World.block_lt_of_cell? w _ c0)).trans c0;have fV:=(HR.out j qg jA).below bO;have hle:=lB LL (j+1);rw [jr LL j qg,← HT.out] at hle;unfold cY at hle;obtain ⟨a1,cp1,w2,bg,ij,fK⟩:=fo w.heap.size _ _ _ _ wr aE fV (by omega) bO.size
     have aO:Below w.heap.size w w2:=bO.grown fK bO.size (fun q hq=>(aE.dn q hq).1)
     obtain ⟨a,c,hf⟩:=fV.form;obtain ⟨ua,uc,hu⟩:=aE.form;subst hu;rw [hf] at c1 bg;have iB:(LL.take j).flatten++LL[j]=(LL.take (j+1)).flatten:=by
      rw [az qg,dH];simp
     rw [iB] at ij;generalize ((LL.take j).flatten).length=L1 at *;generalize LL[j].length=L2 at *;have im:=ab ij;have bJ:=ab aO;have dS:(j:Int)<(k:Int):=by omega
     clear hf HC HR aE ij bO aO fK fV c0 hle;go_wp2_with (first | (at_builtin;refine wpList_append_run 153 rfl (.tmp 31) (.tmp 32) rfl rfl _ _ rfl rfl _ _ bg ?_))
     clear bg;go_wp2;go_roundw
     case rel=>exact ⟨j+1,by omega,by go_num,im.out,bJ.out⟩
     case measure=>simp [intOf];omega
    ·have dj:LL.take j=LL:=by rw [aq];have:=HM.out;omega
     rw [dj] at aE;have HO:=ab aE;have HB:=ab bO;have dS:¬ (j:Int)<(k:Int):=by omega
     clear aE bO dj HC HR;go_wp2;go_ret;exact ⟨_,rfl,HO.out,HB.out⟩
open Go.Lib
theorem ed{P:Program}(w:World)(dT sT ty elem:TypeId)(g o Hq Wt:Nat)(a:Addr)(Gh Vm:Nat)(cur:Array Value)(t:TypeId)(cs:List Value)(hu:P.underlying dT=some (.slice elem))(hs:(P.info? elem).map (·.size)=some 1)(hg:w.heap[g]?=some (.cells cur t (0,0)))(hn:cs.length=Nat.min Gh Hq*1)(GY:∀ j v,cs[j]?=some v→w.cell? (a.add j)=some v)(eE:o+cs.length≤cur.size)(h1:∀ v ∈ cs,v.oneCell'=true):(Builtin.copy_ #[dT,sT] ty #[.slice (some ⟨g,o,none⟩) Hq Wt,.slice (some a) Gh Vm]).run P w = .ok (goInt (Nat.min Gh Hq)) (w.setRow g (cur.toList.take o++cs++cur.toList.drop (o+cs.length)).toArray):=by
 have hl:=run_loadCells_list (P:=P) w a cs GY;have fi:=run_storeCells_at P g o t cs 0 cur w hg (by simpa using eE) h1
 cases hq:P.info? elem with
 | none=>simp [hq] at hs
 | some i =>
  have hi:i.size=1:=by simpa [hq] using hs
  simp [Builtin.copy_,run_underlying hu,Builtin.lenOf,Builtin.firstCells,sizeOf,typeInfo,hq,hi,← hn,hl,fi]
theorem lq{P:Program}(w:World)(t e ty:TypeId)(x:Value)(ht:P.underlying t=some (.slice e))(hv:∀ w,(zeroValue e).run P w = .ok x w)(hx:x.oneCell'=true)(hxc:x.cells=#[x])(g o c:Nat)(cur:Array Value)(tt:TypeId)(hg:w.heap[g]?=some (.cells cur tt (0,0)))(eE:o+1≤cur.size):(Builtin.clear_ #[t] ty #[.slice (some ⟨g,o,none⟩) 1 c]).run P w = .ok (.tuple #[]) (w.setRow g (cur.toList.take o++[x]++cur.toList.drop (o+1)).toArray):=by
 have Xi:(Builtin.zeroCells x.cells 1).toList=[x]:=by
  rw [hxc];simp [Builtin.zeroCells,Array.range]
 have fi:=run_storeCells_at P g o tt [x] 0 cur w hg (by simpa using eE) (by intro v SV;simp at SV;subst SV;exact hx)
 simp [Builtin.clear_,run_underlying ht,hv,Xi,fi]
theorem ej(l:List Lk):(bm l).length=l.length:=by simp [bm]
theorem BD(l:List Lk)(i:Nat):bm (l.take i)=(bm l).take i:=by simp [bm,List.map_take]
theorem OJ(l:List Lk)(i:Nat):bm (l.drop i)=(bm l).drop i:=by simp [bm,List.map_drop]
theorem xK(base:Nat)(v:Value)(l:List Lk)(vb:Nat)(p:Lk)(w:World)(hm:l.length≤5864062014800)(ho:b7 w base v l)(dy:base≤w.heap.size)(hv:cV w (.slice (some ⟨vb,0,none⟩) 1 1) [p]):Calls prog 204 #[v,.int .i64 (l.length:Int),.slice (some ⟨vb,0,none⟩) 1 1] w fun e w'=>∃ u,e = .returned u∧b7 w' base u (l++[p])∧Below base w w':=by
 obtain ⟨a',c',w1,bg,aE,hg⟩:=fo base v _ l [p] w ho hv (by simp;omega) dy
 have aP:Below base w w1:=(Below.refl base w).grown hg dy (fun k hk=>(ho.dn k hk).1)
 have HO:=ab aE;have HB:=ab aP;have di:∃ a c,v = .slice a l.length c∧l.length≤c:=by
  obtain ⟨a,c,rfl,hle,_⟩:=ho.at;exact ⟨a,c,by rw [ej],by rw [ej] at hle;exact hle⟩
 obtain ⟨a,c,rfl,hle⟩:=di;rw [show ([p] : List Lk).length=1 from rfl] at bg
 obtain ⟨n,hn⟩ : ∃ n,n=l.length:=⟨_,rfl⟩;rw [← hn] at bg hle hm ⊢;have HN:=ab hn;clear aE hg aP ho hv hn;by_cases uL:c=n
 ·go_enter func204,ntmps204;go_wp2_with (first | (at_builtin;refine wpList_append_run 153 rfl (.tmp 23) (.tmp 24) rfl rfl _ _ rfl rfl _ _ bg ?_))
  clear bg;go_ret;exact ⟨_,rfl,by have:=HO.out;rwa [show l.length + [p].length=n+1 by rw [HN.out];rfl] at this,HB.out⟩
 ·go_enter func204,ntmps204;go_wp2_with (first | (at_builtin;refine wpList_append_run 153 rfl (.tmp 23) (.tmp 24) rfl rfl _ _ rfl rfl _ _ bg ?_))
  clear bg;go_ret;exact ⟨_,rfl,by have:=HO.out;rwa [show l.length + [p].length=n+1 by rw [HN.out];rfl] at this,HB.out⟩
theorem gZ{w:World}{g:Nat}{cur:Array Value}{t:TypeId}{l:List Lk}(hg:w.heap[g]?=some (.cells cur t (0,0)))(ht:cur.toList.take (l.length)=bm l)(i:Nat):∀ j u,(bm (l.drop i))[j]?=some u→w.cell? ⟨g,i+j,none⟩=some u:=by
 intro j u h;rw [OJ,← ht,cN,cy] at h;split at h
 ·rw [Array.getElem?_toList] at h;simp [World.cell?,hg,h]
 ·cases h
theorem Of(w:World)(g vb i n1 c1:Nat)(cur vs:Array Value)(tA tB:TypeId)(dK:vb≠g)(hg:w.heap[g]?=some (.cells cur tA (0,0)))(hv:w.heap[vb]?=some (.cells vs tB (0,0)))(h0:cur.size≠0):(callFunc 232 #[.slice (some ⟨vb,0,none⟩) 1 1,.slice (some ⟨g,i,none⟩) n1 c1]).run prog w = .ok (.value (.bool false)) w:=by
 rw [run_callFunc_extern func232 (by kernel_rfl) (by kernel_rfl) (by kernel_rfl) (e:=Extern.SlicesOverlaps.overlaps #[153,153] #[4]) (by kernel_rfl),
  Lib.run_overlaps_apart w 153 4 97 underlying153 1 sizeOf97 ⟨vb,0,none⟩ ⟨g,i,none⟩ 1 1 n1 c1 dK tB tA vs.size cur.size (by simp [World.shape?,hv]) (by simp [World.shape?,hg]) h0 (by simp [World.frozen?,hv]) (by simp [World.frozen?,hv])]
 rfl
theorem tD(g c:Nat)(l:List Lk)(i vb:Nat)(p:Lk)(w:World)(cur:Array Value)(hi:i<l.length)(acX:c≤9223372036854775807)(dZ:l.length+1≤c)(hg:w.heap[g]?=some (.cells cur 97 (0,0)))(cx:cur.size=c)(ht:cur.toList.take (l.length)=bm l)(hv:w.heap[vb]?=some (.cells #[p.val] 97 (0,0)))(dK:vb≠g):Calls prog 204 #[.slice (some ⟨g,0,none⟩) l.length c,.int .i64 (i:Int),.slice (some ⟨vb,0,none⟩) 1 1] w fun e w'=>e = .returned (.slice (some ⟨g,0,none⟩) (l.length+1) c)∧∃ fN:Array Value,w'=w.drew.setRow g fN∧fN.size=c∧fN.toList.take ((l.length+1))=bm (dI l i p):=by
 obtain ⟨n,hn⟩ : ∃ n,n=l.length:=⟨_,rfl⟩;have hov:=fun j n1 c1=>Of w g vb j n1 c1 cur _ _ _ dK hg hv (by omega)
 have jy:(prog.info? 97).map (·.size)=some 1:=by kernel_rfl
 have jF:(bm (l.drop i)).length=(n - i):=by rw [ej,ao,hn]
 obtain ⟨C1,qP⟩ : ∃ C:Array Value,C=(cur.toList.take ((i+1))++bm (l.drop i)++cur.toList.drop ((i+1)+(bm (l.drop i)).length)).toArray:=⟨_,rfl⟩;have mW:C1.size=c:=by rw [qP];simp [jF,cx];omega
 obtain ⟨C2,sq⟩ : ∃ C:Array Value,C=(C1.toList.take (i)++bm [p]++C1.toList.drop (i+(bm [p]).length)).toArray:=⟨_,rfl⟩;have pH:C2.size=c:=by rw [sq];simp [bm,mW];omega
 have ic:C2.toList.take ((n+1))=bm (dI l i p):=by
  have e1:cur.toList.take (i)=bm (l.take i):=by
   rw [BD,← ht,gW,a8 (by omega)]
  have l1:(bm (l.take i)).length=i:=by rw [ej,ag];omega
  have e2:C1.toList.take (i)=bm (l.take i):=by
   rw [qP,List.toList_toArray,ay,aF (by simp [cx];omega),gW,a8 (by omega),e1]
  have e3:C1.toList.drop (i+(bm [p]).length)=bm (l.drop i)++cur.toList.drop ((i+1)+(bm (l.drop i)).length):=by
   rw [qP,List.toList_toArray,ay,il (by simp [cx,bm];omega),dB (by simp [cx,bm];omega)]
   rfl
  rw [sq,List.toList_toArray,e2,e3,dI,dh,show p::l.drop i=[p]++l.drop i from rfl,dh,← ay,← ay,aF (by simp only [ae,jF,l1,ej,aS];omega),aq (by simp only [ae,jF,l1,ej,aS];omega)]
 have Wc:∀ ty dc sc,(Builtin.copy_ #[153,153] ty #[.slice (some ⟨g,(i+1),none⟩) (n - i) dc,.slice (some ⟨g,i,none⟩) (n+1 - i) sc]).run prog w.drew = .ok (goInt (Nat.min (n+1 - i) (n - i))) (w.drew.setRow g C1):=fun ty dc sc=>by
  rw [qP];exact ed w.drew 153 153 ty 97 g ((i+1)) (n - i) dc ⟨g,i,none⟩ (n+1 - i) sc cur 97 (bm (l.drop i)) underlying153 jy hg (by rw [jF];simp only [kN];split <;> omega) (fun j u hj=>by rw [bB];exact gZ hg ht i j u hj) (by rw [jF,cx];omega) (fU _)
 have fK:(w.drew.setRow g C1).heap[g]?=some (.cells C1 97 (0,0)):=setRow_heap w.drew g cur C1 97 (0,0) hg;have dX:(w.drew.setRow g C1).heap[vb]?=some (.cells #[p.val] 97 (0,0)):=(setRow_other w.drew g vb C1 dK).trans hv;have V9:∀ ty dc,(Builtin.copy_ #[153,153] ty #[.slice (some ⟨g,i,none⟩) (n+1 - i) dc,.slice (some ⟨vb,0,none⟩) 1 1]).run prog (w.drew.setRow g C1) = .ok (goInt (Nat.min 1 (n+1 - i))) (w.drew.setRow g C2):=fun ty dc=>by
  have h:=ed (w.drew.setRow g C1) 153 153 ty 97 g (i) (n+1 - i) dc ⟨vb,0,none⟩ 1 1 C1 97 (bm [p]) underlying153 jy fK (by simp only [ej,aS,kN];split <;> omega) (fun j u hj=>by
   rw [bB];have l6:(#[p.val] : Array Value)[j]?=some u:=by simpa [bm] using hj
   simp [World.cell?,dX,l6]) (by simp [bm,mW];omega) (fU _)
  rw [h,sq,setRow_setRow]
 have HF:=ab ic;have HZ:=ab pH;have mixed:prog.follows Departure.mixedOrders=true:=by kernel_rfl
 have mW:¬ ((i:Int)=(n:Int)):=by omega
 have vS:IntKind.i64.wrap ((i:Int)+1)=(i:Int)+1:=by rw [IntKind.wrap_i64];omega
 have Ri:IntKind.i64.wrap ((n:Int)+1)=(n:Int)+1:=by rw [IntKind.wrap_i64];omega
 have Xo:((i:Int)+1).toNat=i+1:=by omega
 have acd:((n:Int)+1).toNat=n+1:=by omega
 have aP:(0:Int)≤(i:Int)+1:=by omega
 have aO:¬ (c=i+1):=by omega
 have eO:¬ (c=i):=by omega
 have Ru:(i:Int)≤(n:Int):=by omega
 have bF:(i:Int)≤(n:Int)+1:=by omega
 have V3:i≤n:=by omega
 have acK:i+1≤n+1:=by omega
 rw [← hn] at dZ ⊢;clear qP sq ic pH jF fK dX ht cx hg hv hn hi;go_enter func204,ntmps204;go_wp2_with (simp only [hov])
 go_region_law_o (refine step_copy_runI rfl _ _ 153 153 rfl _ _ (by simp [Act.eval,Act.put]) (by simp [Act.eval,Act.put]) (Wc _ _ _) ?_)
 go_wp2_with (at_builtin;refine wpList_copy_runI _ rfl _ _ 153 153 rfl _ _ rfl rfl (V9 _ _) ?_)
 go_ret;exact ⟨rfl,C2,rfl,HZ.out,HF.out⟩
theorem wk(k:Nat):(Builtin.zeroCells (Value.nilIface).cells k).size=k:=by
 have:(Value.nilIface).cells=#[.nilIface]:=rfl;simp [Builtin.zeroCells,this]
theorem tE(g c:Nat)(l:List Lk)(i vb:Nat)(p:Lk)(w:World)(cur:Array Value)(hi:i<l.length)(hm:l.length≤5864062014800)(Cp:l.length≤c)(dZ:c<l.length+1)(hg:w.heap[g]?=some (.cells cur 97 (0,0)))(ht:cur.toList.take (l.length)=bm l)(hv:w.heap[vb]?=some (.cells #[p.val] 97 (0,0))):Calls prog 204 #[.slice (some ⟨g,0,none⟩) l.length c,.int .i64 (i:Int),.slice (some ⟨vb,0,none⟩) 1 1] w fun e w'=>∃ G:Nat,e = .returned (.slice (some ⟨w.heap.size,0,none⟩) (l.length+1) G)∧l.length+1≤G∧G≤maxLen∧∃ fN:Array Value,w'.heap[w.heap.size]?=some (.cells fN 97 (0,0))∧Below w.heap.size w w'∧fN.size=G∧fN.toList.take ((l.length+1))=bm (dI l i p):=by
 obtain ⟨n,hn⟩ : ∃ n,n=l.length:=⟨_,rfl⟩;obtain ⟨i0,yU,n7,GR,O7⟩:=info_parts lQ;have jy:(prog.info? 97).map (·.size)=some 1:=by rw [yU];simp [GR]
 have PA:g<w.heap.size:=(Array.getElem?_eq_some_iff.1 hg).1;have Yq:vb<w.heap.size:=(Array.getElem?_eq_some_iff.1 hv).1;have jF:(bm (l.drop i)).length=(n - i):=by rw [ej,ao,hn]
 have l1:(bm (l.take i)).length=i:=by rw [ej,ag];omega
 have Rr:(n:Int)+1 - (i:Int)=((n+1 - i:Nat):Int):=by omega
 have Rv:i+(n+1 - i)=n+1:=by omega
 have hold:(Builtin.firstCells i0.size i (.slice (some ⟨g,0,none⟩) i c)).run prog w.drew = .ok (bm (l.take i)).toArray w.drew:=by
  rw [GR];refine run_firstCells_some w.drew 1 i ⟨g,0,none⟩ i c (bm (l.take i)) (by rw [Nat.mul_one];exact l1) (fun j v hj=>?_)
  rw [bB,Nat.zero_add];rw [BD,cy] at hj;split at hj
  ·have:=gZ hg ht 0 j v (by simpa using hj)
   simpa using this
  ·cases hj
 obtain ⟨G,hG⟩ : ∃ G,G=grownCap w (n+1) c 97:=⟨_,rfl⟩;obtain ⟨R,hR⟩ : ∃ R:Array Value,R=(bm (l.take i)).toArray++Builtin.zeroCells (Value.nilIface).cells (n+1 - i)++Builtin.zeroCells (Value.nilIface).cells (G - (n+1)):=⟨_,rfl⟩;have VN:∀ ty,(Builtin.append_ #[153,3] ty #[.slice (some ⟨g,0,none⟩) i c,.int .i64 ((n:Int)+1 - (i:Int))]).run prog w =
   .ok (.slice (some ⟨w.heap.size,0,none⟩) (n+1) G) (w.drew.alloc (.cells R 97)):=fun ty=>by
  have h:=Lib.run_append_grow_zeros w 153 3 ty 97 i0 _ .i64 .i64 underlying153 underlying3 yU n7 (some ⟨g,0,none⟩) i c (bm (l.take i)) hold (n+1 - i) (by omega) (by omega) (by omega) (by omega) (by rw [O7];omega) (by rw [O7,Rv];exact growslice_fits (by omega) (by omega))
  rw [Rv] at h;rw [Rr,hR,hG];exact h
 have hGn:n+1≤G:=by rw [hG];exact grownCap_ge w _ _ _
 have Wn:G≤maxLen:=by rw [hG];exact grownCap_le_maxLen w (n+1) c 97 (by unfold maxLen;omega)
 have Wj:R.size=G:=by
  rw [hR,ew,ew,wk,wk];simp [l1];omega
 obtain ⟨W1,iy⟩ : ∃ W1,W1=w.drew.alloc (.cells R 97):=⟨_,rfl⟩;have Jl:W1.heap[w.heap.size]?=some (.cells R 97 (0,0)):=by rw [iy];exact heap_alloc_new w.drew _
 have FK:Below w.heap.size w W1:=by rw [iy];exact (B.aN (Below.refl _ _)).alloc (aj _) _
 have fK:W1.heap[g]?=some (.cells cur 97 (0,0)):=(FK.block g PA).trans hg;have dX:W1.heap[vb]?=some (.cells #[p.val] 97 (0,0)):=(FK.block vb Yq).trans hv;rw [← iy] at VN;obtain ⟨C1,qP⟩ : ∃ C:Array Value,C=(R.toList.take (i)++bm [p]++R.toList.drop (i+(bm [p]).length)).toArray:=⟨_,rfl⟩;have mW:C1.size=G:=by rw [qP];simp [bm,Wj];omega
 obtain ⟨C2,sq⟩ : ∃ C:Array Value,C=(C1.toList.take ((i+1))++bm (l.drop i)++C1.toList.drop ((i+1)+(bm (l.drop i)).length)).toArray:=⟨_,rfl⟩;have pH:C2.size=G:=by rw [sq];simp [jF,mW];omega
 have ic:C2.toList.take ((n+1))=bm (dI l i p):=by
  have e0:R.toList.take (i)=bm (l.take i):=by
   rw [hR,b6,b6,List.toList_toArray,ay,aF (by omega),aq (by omega)]
  have e1:C1.toList.take ((i+1))=bm (l.take i)++bm [p]:=by
   rw [qP,List.toList_toArray,e0,aF (by simp only [ae,l1,ej,aS];omega),aq (by simp only [ae,l1,ej,aS];omega)]
  rw [sq,List.toList_toArray,e1,dI,dh,show p::l.drop i=[p]++l.drop i from rfl,dh,← ay,aF (by simp only [ae,jF,l1,ej,aS];omega),aq (by simp only [ae,jF,l1,ej,aS];omega)]
 have VU:vb≠w.heap.size:=by omega
 have BL:g≠w.heap.size:=by omega
 have PN:∀ ty dc,(Builtin.copy_ #[153,153] ty #[.slice (some ⟨w.heap.size,i,none⟩) (n+1 - i) dc,.slice (some ⟨vb,0,none⟩) 1 1]).run prog W1 = .ok (goInt (Nat.min 1 (n+1 - i))) (W1.setRow w.heap.size C1):=fun ty dc=>by
  rw [qP];exact ed W1 153 153 ty 97 w.heap.size (i) (n+1 - i) dc ⟨vb,0,none⟩ 1 1 R 97 (bm [p]) underlying153 jy Jl (by simp only [ej,aS,kN];split <;> omega) (fun j u hj=>by
   rw [bB];have l6:(#[p.val] : Array Value)[j]?=some u:=by simpa [bm] using hj
   simp [World.cell?,dX,l6]) (by simp [bm,Wj];omega) (fU _)
 have Jk:(W1.setRow w.heap.size C1).drew.heap[w.heap.size]?=some (.cells C1 97 (0,0)):=setRow_heap W1 w.heap.size R C1 97 (0,0) Jl;have zE:(W1.setRow w.heap.size C1).drew.heap[g]?=some (.cells cur 97 (0,0)):=(setRow_other W1 w.heap.size g C1 BL).trans fK;have PM:∀ ty dc sc,(Builtin.copy_ #[153,153] ty #[.slice (some ⟨w.heap.size,(i+1),none⟩) (n - i) dc,.slice (some ⟨g,i,none⟩) (n - i) sc]).run prog (W1.setRow w.heap.size C1).drew = .ok (goInt (Nat.min (n - i) (n - i))) ((W1.setRow w.heap.size C1).drew.setRow w.heap.size C2):=fun ty dc sc=>by
  rw [sq];exact ed (W1.setRow w.heap.size C1).drew 153 153 ty 97 w.heap.size ((i+1)) (n - i) dc ⟨g,i,none⟩ (n - i) sc C1 97 (bm (l.drop i)) underlying153 jy Jk (by rw [jF];simp only [kN];split <;> omega) (fun j u hj=>by rw [bB];exact gZ zE ht i j u hj) (by rw [jF,mW];omega) (fU _)
 have PY:((W1.setRow w.heap.size C1).drew.setRow w.heap.size C2).heap[w.heap.size]?=some (.cells C2 97 (0,0)):=setRow_heap (W1.setRow w.heap.size C1).drew w.heap.size C1 C2 97 (0,0) Jk;have Wo:Below w.heap.size w ((W1.setRow w.heap.size C1).drew.setRow w.heap.size C2):=below_setRow (B.aN (below_setRow FK (aj _) C1)) (aj _) C2;obtain ⟨s,hs⟩ : ∃ s,s=w.heap.size:=⟨_,rfl⟩;rw [← hs] at VN PN PM PY Wo ⊢;have HF:=ab ic;have HZ:=ab pH;have HN3:=ab PY;have dD:=ab Wo;have HG:=ab Wn;have mixed:prog.follows Departure.mixedOrders=true:=by kernel_rfl
 have adg:G≤9223372036854775807:=by unfold maxLen at Wn;omega
 have Jg:¬ ((i:Int)=(n:Int)):=by omega
 have vS:IntKind.i64.wrap ((i:Int)+1)=(i:Int)+1:=by rw [IntKind.wrap_i64];omega
 have Ri:IntKind.i64.wrap ((n:Int)+1)=(n:Int)+1:=by rw [IntKind.wrap_i64];omega
 have MK:IntKind.i64.wrap ((n:Int)+1 - (i:Int))=(n:Int)+1 - (i:Int):=by rw [IntKind.wrap_i64];omega
 have Xo:((i:Int)+1).toNat=i+1:=by omega
 have aP:(0:Int)≤(i:Int)+1:=by omega
 have bF:(i:Int)≤(n:Int)+1:=by omega
 have aO:¬ (G=i+1):=by omega
 have mB:¬ (G=i):=by omega
 have eO:¬ (c=i):=by omega
 have Ru:(i:Int)≤(n:Int):=by omega
 have V3:i≤n:=by omega
 have hic:(i:Int)≤(c:Int):=by omega
 have hcr:(c:Int)<(n:Int)+1:=by omega
 rw [← hn] at dZ ⊢;clear qP sq ic pH mW jF fK dX zE Jl Jk PY FK Wo ht hg hv hi l1 Rr Rv hold Wj hR hG PA Yq yU n7 GR O7 jy hn Wn VU BL iy hs;go_enter func204,ntmps204;go_wp2_with (first
  | (at_builtin;refine Lib.wpList_append_run _ rfl _ _ _ _ rfl _ _ rfl rfl _ _ (VN _) ?_)
  | (at_builtin;refine wpList_copy_runI _ rfl _ _ 153 153 rfl _ _ rfl rfl (PN _ _) ?_))
 go_region_law_o (refine step_copy_runI rfl _ _ 153 153 rfl _ _ (by simp [Act.eval,Act.put]) (by simp [Act.eval,Act.put]) (PM _ _ _) ?_)
 go_wp2;go_ret;exact ⟨G,rfl,hGn,HG.out,C2,HN3.out,dD.out,HZ.out,HF.out⟩
theorem b7.row{w:World}{base g c:Nat}{l:List Lk}{cur:Array Value}(hb:base≤g)(hg:w.heap[g]?=some (.cells cur 97 (0,0)))(Cp:l.length≤c)(hc:c≤maxLen)(hs:cur.size=c)(ht:cur.toList.take (l.length)=bm l):b7 w base (.slice (some ⟨g,0,none⟩) l.length c) l :=
 ⟨by rw [ej,Nat.mul_one],.inr ⟨g,c,cur,rfl,hb,hg,Cp,hc,by rw [hs,Nat.mul_one],by rw [Nat.mul_one];exact ht⟩⟩
theorem fe(l:List Lk)(i:Nat)(p:Lk)(h:i≤l.length):(dI l i p).length=l.length+1:=by
 unfold dI;rw [ae,List.length_cons,ag,ao];omega
theorem xQ(l:List Lk)(p:Lk):dI l l.length p=l++[p]:=by simp [dI]
theorem oG(base:Nat)(v:Value)(l:List Lk)(i vb:Nat)(p:Lk)(w:World)(hm:l.length≤5864062014800)(hi:i≤l.length)(ho:b7 w base v l)(dy:base≤w.heap.size)(hv:B.ax w vb #[p.val] 97)(dK:v.ownBlock≠some vb):Calls prog 204 #[v,.int .i64 (i:Int),.slice (some ⟨vb,0,none⟩) 1 1] w fun e w'=>∃ u,e = .returned u∧b7 w' base u (dI l i p)∧Below base w w':=by
 by_cases Ru:i=l.length
 ·subst Ru;rw [xQ];refine xK base v l vb p w hm ho dy ⟨_,_,rfl,aj _,fun h=>(by cases h),fun j u hj=>⟨_,_,rfl,?_⟩⟩
  have l6:j<1:=(List.getElem?_eq_some_iff.1 hj).1;have Lg:j=0:=by omega
  subst Lg;cases hj;exact hv.cell 0 (by simp)
 ·have bP:i<l.length:=by omega
  rcases ho.2 with ⟨_,h0⟩ | ⟨g,c,cur,rfl,hb,hg,Cn,sQ,fs,mX⟩
  ·omega
  ·by_cases hr:l.length+1≤c
   ·refine (tD g c l i vb p w cur bP (by unfold maxLen at sQ;omega) hr hg (by rw [fs,Nat.mul_one]) (by rw [Nat.mul_one] at mX;exact mX) hv (fun h=>dK (by rw [h];rfl))).mono ?_
    rintro e w' ⟨rfl,fN,rfl,h2,h3⟩;refine ⟨_,rfl,?_,below_setRow (B.aN (Below.refl _ _)) hb fN⟩;have:=b7.row (l:=dI l i p) hb (setRow_heap w.drew g cur fN 97 (0,0) hg) (by rw [fe l i p hi];exact hr) sQ h2 (by rw [fe l i p hi];exact h3)
    rwa [fe l i p hi] at this
   ·refine (tE g c l i vb p w cur bP hm Cn (by omega) hg (by rw [Nat.mul_one] at mX;exact mX) hv).mono ?_
    rintro e w' ⟨G,rfl,h1,h2,fN,h3,h4,h5,h6⟩;refine ⟨_,rfl,?_,h4.mono dy⟩;have:=b7.row (l:=dI l i p) dy h3 (by rw [fe l i p hi];exact h1) h2 h5 (by rw [fe l i p hi];exact h6)
    rwa [fe l i p hi] at this
end C
end Go.Proofs.YtihmgigfkmofnaaGreatDoor
