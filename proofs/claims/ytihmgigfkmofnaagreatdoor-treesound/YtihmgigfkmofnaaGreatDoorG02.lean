import Derived.Test.YtihmgigfkmofnaaGreatDoorG01
import Derived.WalkMore
set_option maxHeartbeats 1000000
open Go.Proofs.Tryz
namespace Go.Proofs.YtihmgigfkmofnaaGreatDoor
namespace B
open Go.RowKit
def qd(n:Nat):Int:=IntKind.i64.wrap (n:Int)
theorem BJ(a b:Nat):IntKind.i64.wrap (qd a+(b:Int))=qd (a+b):=by
 unfold qd;rw [IntKind.wrap_i64,IntKind.wrap_i64,IntKind.wrap_i64];omega
theorem kS{n:Nat}(h:n≤4611686018427387904):qd n=(n:Int):=by
 unfold qd;rw [IntKind.wrap_i64];omega
theorem Bt(f:Int)(v:Value)(l:List Lk)(w:World)(cM:Wj l)(hm:l.length≤140737488355328)(hr:dm w v l):Calls prog 156 #[.agg #[.int .i64 f,v]] w fun e w'=>e = .returned (.int .i64 (qd (jy l)))∧Below w.heap.size w w':=by
 obtain ⟨a,cap,hv⟩:=hr.form;subst hv;obtain ⟨n,hn⟩ : ∃ n,n=l.length:=⟨_,rfl⟩;rw [← hn] at hr hm ⊢;have q0:=ai w (.cells #[.int .i64 f,.slice a n cap] 150);have x0:=au.new w #[.int .i64 f,.slice a n cap] 150;generalize sW:w.alloc (.cells #[.int .i64 f,.slice a n cap] 150)=W0 at *;have p1:=x0.c1;have HR:=ab (hr.below q0);have HN:=ab hn;have od:=ab cM;have HQ:=ab q0;have H0:Hid (qd (jy (l.take 0))=6):=by show _=_;simp [Jf,kS]
 clear hn cM hr q0 x0;go_enter func156,ntmps156;go_wp2;clear p1;go_loopw [3,9] (fun r i wr=>∃ k:Nat,k≤n∧i = .int .i64 k∧r = .int .i64 (qd (jy (l.take k)))∧Below W0.heap.size W0 wr) (fun _ i _=>n - (intOf i).toNat)
 case atStart=>exact ⟨0,aB _,rfl,by rw [H0.out],Below.refl _ _⟩
 case round =>
  obtain ⟨k,hk,rfl,rfl,bQ⟩:=hrel;by_cases bO:k<n
  ·have cZ:k<l.length:=by have:=HN.out;omega
   obtain ⟨g,o,rfl,c1,c2⟩:=(HR.out.below bQ).spot k cZ;have A6:=od.out l[k] (aJ _);have tV:IntKind.i64.wrap (qd (jy (l.take k))+(zn l[k] : Int))=qd (jy (l.take (k+1))):=by rw [BJ,← zI l k cZ]
   obtain ⟨p,hp⟩ : ∃ p,p=l[k]:=⟨_,rfl⟩;rw [← hp] at c1 c2 tV A6;have HZ:=ab (fun W=>vE p W A6)
   obtain ⟨x,hx⟩ : ∃ x,x=qd (jy (l.take k)):=⟨_,rfl⟩;obtain ⟨y,hy⟩ : ∃ y,y=qd (jy (l.take (k+1))):=⟨_,rfl⟩;obtain ⟨z,hz⟩ : ∃ z,z=zn p:=⟨_,rfl⟩;rw [← hx,← hy,← hz] at tV;rw [← hx];rw [← hz] at HZ;have HY:=ab hy;have dE:(k:Int)<(n:Int):=by omega
   have HB:=ab (Below.next bQ (ai wr (.cells #[.string p.1,.int .i64 p.2] 179)));clear hp hx hy hz bQ A6;go_wp2_with fail;refine (HZ.out _).mono ?_
   rintro e w1 ⟨rfl,aO⟩;have bT:=ab (Below.next HB.out aO);clear aO HB HZ c1 c2;go_wp2;go_roundw
   case rel=>exact ⟨k+1,by omega,by go_num,by rw [← HY.out],bT.out⟩
   case measure=>simp [intOf];omega
  ·have dn:l.take k=l:=by rw [ao];have:=HN.out;omega
   rw [dn];have HB:=ab (Below.next HQ.out bQ);have dE:¬ (k:Int)<(n:Int):=by omega
   obtain ⟨x,hx⟩ : ∃ x,x=qd (jy l):=⟨_,rfl⟩;rw [← hx];have HX:=ab hx;clear bQ dn hx;go_wp2;go_ret;exact ⟨by rw [← HX.out];rfl,HB.out⟩
theorem Eg(n:Int)(w:World):Calls prog 195 #[.int .i64 n] w fun e w'=>e = .returned (.bool (fZ n))∧w=w':=by
 by_cases h1:2≤n
 ·by_cases h2:n<1048576
  ·have hm:fZ n=true:=decide_eq_true ⟨h1,h2⟩;rw [hm];clear hm;go_enter func195,ntmps195;go_wp2;go_ret;exact ⟨rfl,rfl⟩
  ·have hm:fZ n=false:=decide_eq_false (fun h=>h2 h.2)
   rw [hm];clear hm;go_enter func195,ntmps195;go_wp2;go_ret;exact ⟨rfl,rfl⟩
 ·have hm:fZ n=false:=decide_eq_false (fun h=>h1 h.1)
  rw [hm];clear hm;go_enter func195,ntmps195;go_wp2;go_ret;exact ⟨rfl,rfl⟩
theorem TL(p:Lk)(w:World):Calls prog 198 #[.agg #[.string p.1,.int .i64 p.2]] w fun e w'=>e = .returned (.bool (gE p))∧Below w.heap.size w w':=by
 have HB:=ab (ai w (.cells #[.string p.1,.int .i64 p.2] 179));by_cases h1:1≤p.1.size
 ·have i1:(1:Int)≤(p.1.size:Int):=by omega
  by_cases h2:p.1.size≤255
  ·have i2:(p.1.size:Int)≤255:=by omega
   have hm:gE p=fZ p.2:=by
    unfold gE fZ;congr 1
    apply propext
    exact ⟨fun h=>h.2.2,fun h=>⟨h1,h2,h⟩⟩
   rw [hm];have HC:=ab (fun W=>Eg p.2 W)
   generalize fZ p.2=cb at *;clear hm;go_enter func198,ntmps198;go_wp2_with fail;refine (HC.out _).mono ?_
   rintro e w1 ⟨rfl,rfl⟩;go_wp2;go_ret;exact ⟨rfl,HB.out⟩
  ·have i2:¬ (p.1.size:Int)≤255:=by omega
   have hm:gE p=false:=decide_eq_false (fun h=>h2 h.2.1)
   rw [hm];clear hm;go_enter func198,ntmps198;go_wp2;go_ret;exact ⟨rfl,HB.out⟩
 ·have i1:¬ (1:Int)≤(p.1.size:Int):=by omega
  have hm:gE p=false:=decide_eq_false (fun h=>h1 h.1)
  rw [hm];clear hm;go_enter func198,ntmps198;go_wp2;go_ret;exact ⟨rfl,HB.out⟩
theorem RX(p:Lk)(w:World):Calls prog 197 #[.agg #[.string p.1,.int .i64 p.2]] w fun e w'=>e = .returned (.bool (!gE p))∧Below w.heap.size w w':=by
 have HB:=ab (ai w (.cells #[.string p.1,.int .i64 p.2] 179));have HC:=ab (fun W=>TL p W)
 generalize gE p=cb at *;go_enter func197,ntmps197;go_wp2_with fail;refine (HC.out _).mono ?_
 rintro e w1 ⟨rfl,aO⟩;have bT:=ab (Below.next HB.out aO);clear aO;go_wp2;go_ret;exact ⟨rfl,bT.out⟩
theorem L0(v:Value)(l:List Lk)(w:World)(hm:l.length≤140737488355328)(hr:dm w v l):Calls prog 230 #[v,.func (.func 197) #[] #[]] w fun e w'=>((l.all gE=true∧e = .returned (.int .i64 (-1)))∨(l.all gE=false∧∃ k:Nat,e = .returned (.int .i64 (k:Int))))∧Below w.heap.size w w':=by
 obtain ⟨a,cap,hv⟩:=hr.form;subst hv;obtain ⟨n,hn⟩ : ∃ n,n=l.length:=⟨_,rfl⟩;rw [← hn] at hr hm ⊢;have HR:=ab hr;have HN:=ab hn;obtain ⟨Q,hQ⟩ : ∃ Q:Ending→World→Prop,Q=fun e w'=>((l.all gE=true∧e = .returned (.int .i64 (-1)))∨(l.all gE=false∧∃ k:Nat,e = .returned (.int .i64 (k:Int))))∧Below w.heap.size w w':=⟨_,rfl⟩
 rw [← hQ];have HQ:=ab hQ;clear hn hr hQ;go_enter func230,ntmps230;go_wp2;go_loopw [8] (fun i wr=>∃ k:Nat,k≤n∧i = .int .i64 k∧(∀ j (h:j<l.length),j<k→gE l[j]=true)∧Below w.heap.size w wr) (fun i _=>n - (intOf i).toNat)
 case atStart=>exact ⟨0,aB _,rfl,fun j _ h=>absurd h (iz _),Below.refl _ _⟩
 case round =>
  obtain ⟨k,hk,rfl,js,bQ⟩:=hrel;have HP:=ab js;clear js;by_cases bO:k<n
  ·have cZ:k<l.length:=by have:=HN.out;omega
   obtain ⟨g,o,rfl,c1,c2⟩:=(HR.out.below bQ).spot k cZ;have HF:=ab (fun W=>RX l[k] W)
   have nU:Hid (gE l[k]=true→∀ j (h:j<l.length),j<k+1→gE l[j]=true):=fun hl j h hj=>by
    by_cases he:j=k
    ·subst he;exact hl
    ·exact HP.out j h (by omega)
   have zB:Hid (gE l[k]=false→l.all gE=false):=fun hl=>by rw [List.all_eq_false];exact ⟨l[k],aJ _,by simp [hl]⟩
   obtain ⟨p,hp⟩ : ∃ p,p=l[k]:=⟨_,rfl⟩;rw [← hp] at c1 c2 HF nU zB;have dE:(k:Int)<(n:Int):=by omega
   have j0:(0:Int)≤(k:Int):=by omega
   have HB:=ab bQ;clear hp bQ;cases hb:gE p with
   | true =>
    rw [hb] at HF;have p8:=ab (nU.out hb);clear nU zB hb;go_wp2_with fail;refine (HF.out _).mono ?_
    rintro e w1 ⟨rfl,aO⟩;have bT:=ab (Below.next HB.out aO);clear aO HB HF c1 c2;go_wp2;go_roundw
    case rel=>exact ⟨k+1,by omega,by go_num,p8.out,bT.out⟩
    case measure=>simp [intOf];omega
   | false =>
    rw [hb] at HF;have I1:=ab (zB.out hb);clear nU zB hb;go_wp2_with fail;refine (HF.out _).mono ?_
    rintro e w1 ⟨rfl,aO⟩;have bT:=ab (Below.next HB.out aO);clear aO HB HF c1 c2;go_wp2;rw [HQ.out];exact ⟨.inr ⟨I1.out,k,rfl⟩,bT.out⟩
  ·have dE:¬ (k:Int)<(n:Int):=by omega
   have I2:Hid (l.all gE=true):=List.all_eq_true.2 (fun p hp=>by
    obtain ⟨i,hi,rfl⟩:=aK hp;exact HP.out i hi (by have:=HN.out;omega))
   have HB:=ab bQ;clear bQ HP;go_wp2;rw [HQ.out];exact ⟨.inl ⟨I2.out,rfl⟩,HB.out⟩
theorem Hs(v:Value)(l:List Lk)(w:World)(hm:l.length≤140737488355328)(hr:dm w v l):Calls prog 196 #[v,.func (.func 197) #[] #[]] w fun e w'=>e = .returned (.bool (!l.all gE))∧Below w.heap.size w w':=by
 have HI:=ab (L0 v l w hm hr);obtain ⟨a,cap,hv⟩:=hr.form;subst hv;clear hr;go_enter func196,ntmps196;go_wp2_with fail;refine HI.out.mono ?_
 rintro e w1 ⟨⟨dn,rfl⟩ | ⟨dn,k,rfl⟩,aO⟩
 ·have HB:=ab aO;have HA:=ab dn;clear aO dn HI;go_wp2;go_ret;exact ⟨by rw [HA.out];rfl,HB.out⟩
 ·have HB:=ab aO;have HA:=ab dn;have hk:(0:Int)≤(k:Int):=by omega
  clear aO dn HI;go_wp2;go_ret;exact ⟨by rw [HA.out];rfl,HB.out⟩
theorem IN(f:Int)(v:Value)(l:List Lk)(w:World)(hm:l.length≤140737488355328)(hr:dm w v l):Calls prog 157 #[.agg #[.int .i64 f,v]] w fun e w'=>e = .returned (.bool (fZ f && l.all gE))∧Below w.heap.size w w':=by
 obtain ⟨a,cap,hv⟩:=hr.form;subst hv;have q0:=ai w (.cells #[.int .i64 f,.slice a l.length cap] 150);have x0:=au.new w #[.int .i64 f,.slice a l.length cap] 150;generalize sW:w.alloc (.cells #[.int .i64 f,.slice a l.length cap] 150)=W0 at *;have p0:=x0.c0;have p1:=x0.c1;have HK:=ab (Hs _ l W0 hm (hr.below q0));have HC:=ab (Eg f W0);have HQ:=ab q0;generalize l.length=n at *;generalize l.all gE=lb at *;clear q0 x0 hr;cases hc:fZ f with
 | true =>
  rw [hc] at HC;clear hc;go_enter func157,ntmps157;go_wp2_with fail;refine HC.out.mono ?_
  rintro e w1 ⟨rfl,rfl⟩;go_wp2_with fail;refine HK.out.mono ?_
  rintro e w2 ⟨rfl,aV⟩;have HB:=ab (Below.next HQ.out aV);clear aV HK HC p0 p1;go_wp2;go_ret;exact ⟨by cases lb <;> rfl,HB.out⟩
 | false =>
  rw [hc] at HC;clear hc;go_enter func157,ntmps157;go_wp2_with fail;refine HC.out.mono ?_
  rintro e w1 ⟨rfl,rfl⟩;clear HC HK;go_wp2;go_ret;exact ⟨by cases lb <;> rfl,HQ.out⟩
end B
theorem Q6{l:List Pr}{key:ByteArray}(h:bm l key=true):(l[aS l key]'(gC h)).1=key:=by
 have:=pN (gC h);rw [h] at this;exact of_decide_eq_true this.symm
theorem MA{l:List Pr}{key:ByteArray}(h:bm l key=false)(hl:aS l key<l.length):¬ (l[aS l key]).1=key:=by
 have:=pN hl;rw [h] at this;exact of_decide_eq_false this.symm
theorem Ni(l:List Pr)(key:ByteArray):dk l key=aS l key+(if bm l key then 1 else 0):=by
 unfold dk;split <;> rfl
theorem CC{l:List Pr}{key:ByteArray}(hr:gK l)(j:Nat)(hj:j<l.length)(hb:dk l key≤j):cR key l[j].1=true:=by
 have hq:aS l key<l.length:=by have:=eP l key;omega
 cases hf:bm l key with
 | true =>
  have he:=Q6 hf;have bO:aS l key<j:=by rw [Ni,hf] at hb;simp at hb;omega
  have:=hr.lt (aS l key) j hj bO;rw [he] at this;exact this
 | false =>
  have cY:=MA hf hq;have zp:=sH l key hq;have bO:cR key (l[aS l key]).1=true:=by
   cases h:cR key (l[aS l key]).1 with
   | true=>rfl
   | false=>exact absurd (mu zp h) cY
  by_cases he:j=aS l key
  ·subst he;exact bO
  ·have:aS l key<j:=by have:=eP l key;omega
   exact dq bO (hr.lt (aS l key) j hj this)
theorem oz(l:List Pr)(key value:ByteArray):(fx l key value).length=aS l key+1+(l.length - dk l key):=by
 have:=cH l key;simp only [fx,ae,List.length_cons,ag,al];omega
theorem Tl(l:List Pr)(key value:ByteArray):∃ h:aS l key<(fx l key value).length,(fx l key value)[aS l key]=(key,value):=by
 have hq:=cH l key;refine ⟨by rw [oz];omega,?_⟩
 have:(fx l key value)[aS l key]?=some (key,value):=by
  unfold fx;rw [aM (by rw [ag];omega),ag,show aS l key - min (aS l key) l.length=0 by omega]
  rfl
 rw [af (by rw [oz];omega)] at this
 exact Option.some.inj this
theorem GJ(l:List Pr)(key value:ByteArray)(j:Nat)(hj:j<aS l key)(h:j<(fx l key value).length):cR ((fx l key value)[j]).1 key=true:=by
 have hq:=cH l key;have:(fx l key value)[j]?=some (l[j]'(by omega)):=by
  unfold fx;rw [bf (by rw [ag];omega),cO,if_pos hj,af]
 rw [af h] at this;rw [Option.some.inj this];exact lR l key j hj (by omega)
theorem OV{l:List Pr}{key value:ByteArray}(hr:gK l):gK (fx l key value):=by
 obtain ⟨sB,he⟩:=Tl l key value;have hq:=cH l key;have VS:=oz l key value;intro i hi;have get:∀ j (hj:j<(fx l key value).length),aS l key<j→∃ hb:dk l key+(j - (aS l key+1))<l.length,(fx l key value)[j]=l[dk l key+(j - (aS l key+1))]:=fun j hj bO=>by
  have hb:dk l key+(j - (aS l key+1))<l.length:=by omega
  refine ⟨hb,?_⟩;have:(fx l key value)[j]?=some l[dk l key+(j - (aS l key+1))]:=by
   unfold fx;rw [aM (by rw [ag];omega),ag,show min (aS l key) l.length=aS l key by omega,show j - aS l key=(j - (aS l key+1))+1 by omega,List.getElem?_cons_succ,bZ,af]
  rw [af hj] at this;exact Option.some.inj this
 rcases Nat.lt_trichotomy (i+1) (aS l key) with h | h | h
 ·have g:∀ j (hj:j<aS l key) (hj2:j<(fx l key value).length),(fx l key value)[j]=l[j]'(by omega):=fun j hj hj2=>by
   have:(fx l key value)[j]?=some (l[j]'(by omega)):=by
    unfold fx;rw [bf (by rw [ag];omega),cO,if_pos hj,af]
   rw [af hj2] at this;exact Option.some.inj this
  rw [g i (by omega) (by omega),g (i+1) h hi]
  exact hr i (by omega)
 ·have h2:=GJ l key value i (by omega) (by omega)
  have:((fx l key value)[i+1]).1=key:=by simp only [h,he]
  rw [this];exact h2
 ·by_cases vU:i=aS l key
  ·have:((fx l key value)[i]).1=key:=by simp only [vU,he]
   obtain ⟨hb,hg⟩:=get (i+1) hi h;rw [this,hg];exact CC hr _ hb (by omega)
  ·obtain ⟨aO,fM⟩:=get i (by omega) (by omega)
   obtain ⟨aV,zZ⟩:=get (i+1) hi h;rw [fM,zZ];exact hr.lt _ _ aV (by omega)
theorem VF{a b c:ByteArray}(h1:cR b a=false)(h2:cR b c=true):cR a c=true:=by
 cases h:cR a b
 ·rw [mu h h1];exact h2
 ·exact dq h h2
theorem Ei{a b c:ByteArray}(h1:cR a b=true)(h2:cR c b=false):cR a c=true:=by
 cases h:cR b c
 ·rw [← mu h h2];exact h1
 ·exact dq h1 h
def geB(lo:Option ByteArray)(k:ByteArray):Prop:=∀ l,lo=some l→cR k l=false
def ltB(k:ByteArray)(hi:Option ByteArray):Prop:=∀ u,hi=some u→cR k u=true
def In(lo hi:Option ByteArray)(k:ByteArray):Prop:=geB lo k∧ltB k hi
def cV(k:ByteArray):Prop:=1≤k.size∧k.size≤255
theorem J0(k:ByteArray):In none none k:=⟨(fun _ h=>nomatch h),(fun _ h=>nomatch h)⟩
def gtB(lo:Option ByteArray)(k:ByteArray):Prop:=∀ l,lo=some l→cR l k=true
def R5(lo hi:Option ByteArray)(k:ByteArray):Prop:=gtB lo k∧ltB k hi
def Nd:Nat→Type
 | 0=>Nat × List Pr
 | h+1=>Nat × List ByteArray × List (Nd h)
def flat:(h:Nat)→Nd h→List Pr
 | 0,t=>t.2
 | h+1,t=>t.2.2.flatMap (flat h)
def eI(ks:List ByteArray):Nat:=6+(ks.map fun k=>7+k.size).sum
def mQ:(h:Nat)→Nd h→Nat
 | 0,t=>fB t.2
 | _+1,t=>eI t.2.1
def xY:Nat→Nat
 | 0=>1556
 | _+1=>1777
def Full(h:Nat)(t:Nd h):Prop:=xY h≤mQ h t∧mQ h t≤4072
def gi{α:Type}(P:α→Option ByteArray→Option ByteArray→Prop):Option ByteArray→Option ByteArray→List ByteArray→List α→Prop
 | lo,hi,[],[c]=>P c lo hi
 | lo,hi,k::ks,c::cs=>R5 lo hi k∧cV k∧P c lo (some k)∧gi P (some k) hi ks cs
 | _,_,_,_=>False
def Ok:(h:Nat)→Nd h→Option ByteArray→Option ByteArray→Prop
 | 0,t,lo,hi=>gK t.2∧∀ p ∈ t.2,cQ p=true∧In lo hi p.1
 | h+1,t,lo,hi=>gi (fun c lo hi=>Ok h c lo hi∧Full h c) lo hi t.2.1 t.2.2
def kG(h:Nat)(c:Nd h)(lo hi:Option ByteArray):Prop:=Ok h c lo hi∧Full h c
theorem eS(h:Nat)(t:Nd (h+1))(lo hi:Option ByteArray):Ok (h+1) t lo hi↔gi (kG h) lo hi t.2.1 t.2.2:=Iff.rfl
section lists
variable {α:Type} {P:α→Option ByteArray→Option ByteArray→Prop}
def uH(P:α→Option ByteArray→Option ByteArray→Prop):Option ByteArray→Option ByteArray→List ByteArray→List α→Prop
 | _,_,[],[]=>True
 | lo,hi,k::ks,c::cs=>R5 lo hi k∧cV k∧P c lo (some k)∧uH P (some k) hi ks cs
 | _,_,_,_=>False
def iZ(lo:Option ByteArray):List ByteArray→Option ByteArray
 | []=>lo
 | k::ks=>iZ (some k) ks
theorem pF{A B:List ByteArray}{C1 C2:List α}{c:α}:∀ {lo hi:Option ByteArray},A.length=C1.length→(gi P lo hi (A++B) (C1++c::C2)↔uH P lo hi A C1∧gi P (iZ lo A) hi B (c::C2)):=by
 induction A generalizing C1 with
 | nil =>
  intro lo hi hl;have:C1=[]:=List.length_eq_zero_iff.1 hl.symm;subst this;simp [uH,iZ]
 | cons k A ih =>
  intro lo hi hl;cases C1 with
  | nil=>simp at hl
  | cons c1 C1 =>
   have Up:A.length=C1.length:=by simpa using hl
   have:=ih (C1:=C1) (lo:=some k) (hi:=hi) Up;simp only [List.cons_append,gi,uH,iZ,this,and_assoc]
theorem iD:∀ {lo hi:Option ByteArray} {ks:List ByteArray} {cs:List α},gi P lo hi ks cs→cs.length=ks.length+1
 | _,_,[],[_],_=>rfl
 | _,_,[],[],h=>by simp [gi] at h
 | _,_,[],_::_::_,h=>by simp [gi] at h
 | _,_,_::_,[],h=>by simp [gi] at h
 | _,_,k::ks,c::cs,h=>by
  have:=iD h.2.2.2;simp only [List.length_cons];omega
theorem Ee(lo:Option ByteArray)(A:List ByteArray)(k:ByteArray):iZ lo (A++[k])=some k:=by
 induction A generalizing lo with
 | nil=>rfl
 | cons a A ih=>exact ih (some a)
def pR(hi:Option ByteArray):List ByteArray→Option ByteArray
 | []=>hi
 | k::_=>some k
theorem rW{lo hi:Option ByteArray}{B:List ByteArray}{c:α}{C2:List α}(h:gi P lo hi B (c::C2)):P c lo (pR hi B):=by
 cases B with
 | nil=>cases C2 with
  | nil=>exact h
  | cons _ _=>simp [gi] at h
 | cons k B=>exact h.2.2.1
theorem Pw{lo hi:Option ByteArray}{B:List ByteArray}{c d:α}{C2:List α}(h:gi P lo hi B (c::C2))(hd:P d lo (pR hi B)):gi P lo hi B (d::C2):=by
 cases B with
 | nil=>cases C2 with
  | nil=>exact hd
  | cons _ _=>simp [gi] at h
 | cons k B=>exact ⟨h.1,h.2.1,hd,h.2.2.2⟩
theorem TH{lo hi:Option ByteArray}{B:List ByteArray}{c a b:α}{k:ByteArray}{C2:List α}(h:gi P lo hi B (c::C2))(hk:R5 lo (pR hi B) k)(hm:cV k)(ha:P a lo (some k))(hb:P b (some k) (pR hi B)):gi P lo hi (k::B) (a::b::C2):=by
 have hkh:R5 lo hi k:=by
  refine ⟨hk.1,?_⟩;cases B with
  | nil=>exact hk.2
  | cons kb B=>exact fun u hu=>dq (hk.2 kb rfl) (h.1.2 u hu)
 refine ⟨hkh,hm,ha,?_⟩;cases B with
 | nil=>cases C2 with
  | nil=>exact hb
  | cons _ _=>simp [gi] at h
 | cons kb B=>exact ⟨⟨fun l hl=>by cases hl;exact hk.2 kb rfl,h.1.2⟩,h.2.1,hb,h.2.2.2⟩
theorem JL{lo hi:Option ByteArray}{B:List ByteArray}{a b c:α}{k:ByteArray}{C2:List α}(h:gi P lo hi (k::B) (a::b::C2))(hc:P c lo (pR hi B)):gi P lo hi B (c::C2):=by
 have h2:=h.2.2.2;cases B with
 | nil=>cases C2 with
  | nil=>exact hc
  | cons _ _=>simp [gi] at h2
 | cons kb B=>exact ⟨⟨fun l hl=>dq (h.1.1 l hl) (h2.1.1 k rfl),h2.1.2⟩,h2.2.1,hc,h2.2.2.2⟩
theorem D8{lo hi:Option ByteArray}{A B:List ByteArray}{k:ByteArray}:∀ {C1 C2:List α},A.length+1=C1.length→(gi P lo hi (A++k::B) (C1++C2)↔R5 lo hi k∧cV k∧gi P lo (some k) A C1∧gi P (some k) hi B C2):=by
 induction A generalizing lo with
 | nil =>
  intro C1 C2 hl;match C1,hl with
  | [c],_=>simp [gi]
 | cons a A ih =>
  intro C1 C2 hl;cases C1 with
  | nil=>simp at hl
  | cons c C1 =>
   have Up:A.length+1=C1.length:=by simpa using hl
   have:=ih (lo:=some a) (C1:=C1) (C2:=C2) Up;simp only [List.cons_append,gi,this];constructor
   ·rintro ⟨h1,h2,h3,h4,h5,h6,h7⟩;exact ⟨⟨fun l hl=>dq (h1.1 l hl) (h4.1 a rfl),h4.2⟩,h5,⟨⟨h1.1,fun u hu=>by cases hu;exact h4.1 a rfl⟩,h2,h3,h6⟩,h7⟩
   ·rintro ⟨h1,h2,⟨h3,h4,h5,h6⟩,h7⟩;exact ⟨⟨h3.1,fun u hu=>dq (h3.2 k rfl) (h1.2 u hu)⟩,h4,h5,⟨fun l hl=>by cases hl;exact h3.2 k rfl,h1.2⟩,h2,h6,h7⟩
end lists
variable {h:Nat} {lo hi:Option ByteArray} {k:ByteArray}
theorem xU{α:Type}{P:α→Option ByteArray→Option ByteArray→Prop}{F:α→List Pr}(hP:∀ c lo hi,P c lo hi→∀ p ∈ F c,In lo hi p.1):∀ {lo hi:Option ByteArray} {ks:List ByteArray} {cs:List α},gi P lo hi ks cs→∀ p ∈ cs.flatMap F,In lo hi p.1
 | lo,hi,[],[c],h,p,hp=>by
  simp only [List.flatMap_cons,List.flatMap_nil,List.append_nil] at hp;exact hP c lo hi h p hp
 | _,_,[],[],h,_,_=>by simp [gi] at h
 | _,_,[],_::_::_,h,_,_=>by simp [gi] at h
 | _,_,_::_,[],h,_,_=>by simp [gi] at h
 | lo,hi,k::ks,c::cs,h,p,hp=>by
  simp only [List.flatMap_cons,cA] at hp;rcases hp with hp | hp
  ·have h1:=hP c lo (some k) h.2.2.1 p hp;exact ⟨h1.1,fun u hu=>dq (h1.2 k rfl) (h.1.2 u hu)⟩
  ·have h1:=xU hP h.2.2.2 p hp;exact ⟨fun l hl=>kT (Ei (h.1.1 l hl) (h1.1 k rfl)),h1.2⟩
theorem qh:∀ (h:Nat) {t:Nd h} {lo hi:Option ByteArray},Ok h t lo hi→∀ p ∈ flat h t,In lo hi p.1
 | 0,_,_,_,hk,p,hp=>(hk.2 p hp).2
 | h+1,_,_,_,hk,p,hp=>xU (P:=kG h) (F:=flat h) (fun _ _ _ hc=>qh h hc.1) hk p hp
theorem rS{α:Type}{P:α→Option ByteArray→Option ByteArray→Prop}{F:α→List Pr}(hP:∀ c lo hi,P c lo hi→∀ p ∈ F c,In lo hi p.1){hi:Option ByteArray}{key:ByteArray}:∀ {lo:Option ByteArray} {A:List ByteArray} {C1:List α},uH P lo hi A C1→(∀ k ∈ A,cR key k=false)→∀ p ∈ C1.flatMap F,cR p.1 key=true
 | _,[],[],_,_,p,hp=>by simp at hp
 | _,[],_::_,h,_,_,_=>by simp [uH] at h
 | _,_::_,[],h,_,_,_=>by simp [uH] at h
 | lo,k::A,c::C1,h,hA,p,hp=>by
  simp only [List.flatMap_cons,cA] at hp;rcases hp with hp | hp
  ·have h1:=hP c lo (some k) h.2.2.1 p hp;exact Ei (h1.2 k rfl) (hA k dr)
  ·exact rS hP h.2.2.2 (fun k hk=>hA k (dU _ hk)) p hp
theorem uC{α:Type}{P:α→Option ByteArray→Option ByteArray→Prop}{F:α→List Pr}(hP:∀ c lo hi,P c lo hi→∀ p ∈ F c,In lo hi p.1){lo hi:Option ByteArray}{key:ByteArray}{B:List ByteArray}{c:α}{C2:List α}(h:gi P lo hi B (c::C2))(hB:∀ k,B.head?=some k→cR key k=true):∀ p ∈ C2.flatMap F,cR key p.1=true:=by
 cases B with
 | nil=>cases C2 with
  | nil=>intro p hp;simp at hp
  | cons _ _=>simp [gi] at h
 | cons k B =>
  intro p hp;have h1:=xU hP h.2.2.2 p hp;exact Ei (hB k rfl) (h1.1 k rfl)
theorem uU{a b:List Pr}(ha:gK a)(hb:gK b)(Bg:∀ p ∈ a,∀ q ∈ b,cR p.1 q.1=true):gK (a++b):=fun i hi=>by
 rw [ae] at hi;by_cases h1:i+1<a.length
 ·rw [aL (by omega),aL h1];exact ha i h1
 ·by_cases h2:i<a.length
  ·rw [aL h2,bA (by omega)]
   exact Bg _ (aJ _) _ (aJ _)
  ·rw [bA (by omega),bA (by omega)]
   simp only [show i+1 - a.length=i - a.length+1 by omega]
   exact hb (i - a.length) (by omega)
theorem qD{a b:List Pr}(h:gK (a++b)):gK a∧gK b∧∀ p ∈ a,∀ q ∈ b,cR p.1 q.1=true:=by
 refine ⟨?_,?_,fun p hp q hq=>?_⟩
 ·have:=h.take a.length;rwa [ep] at this
 ·have:=h.drop a.length;rwa [fL] at this
 ·obtain ⟨i,hi,rfl⟩:=aK hp;obtain ⟨j,hj,rfl⟩:=aK hq;have:=h.lt i (a.length+j) (by rw [ae];omega) (by omega)
  rw [aL hi,bA (by omega)] at this
  simpa using this
def jq:(h:Nat)→Nd h→ByteArray→Nd h→Nd h
 | 0,a,_,b=>(0,a.2++b.2)
 | _+1,a,k,b=>(0,a.2.1++k::b.2.1,a.2.2++b.2.2)
theorem Bj(h:Nat)(a b:Nd h)(k:ByteArray):flat h (jq h a k b)=flat h a++flat h b:=by
 cases h with
 | zero=>rfl
 | succ h=>simp [flat,jq]
theorem JJ{a b:Nd h}(ha:Ok h a lo (some k))(hb:Ok h b (some k) hi)(hk:R5 lo hi k)(hm:cV k):Ok h (jq h a k b) lo hi:=by
 cases h with
 | zero =>
  refine ⟨uU ha.1 hb.1 (fun p hp q hq=>Ei ((ha.2 p hp).2.2 k rfl) ((hb.2 q hq).2.1 k rfl)),fun p hp=>?_⟩
  rcases List.mem_append.1 hp with h | h
  ·have h1:=ha.2 p h;exact ⟨h1.1,h1.2.1,fun u hu=>dq (h1.2.2 k rfl) (hk.2 u hu)⟩
  ·have h1:=hb.2 p h;exact ⟨h1.1,fun l hl=>kT (Ei (hk.1 l hl) (h1.2.1 k rfl)),h1.2.2⟩
 | succ h =>
  exact (D8 (iD ha).symm).2 ⟨hk,hm,ha,hb⟩
theorem fO(a b:List ByteArray):eI (a++b)+6=eI a+eI b:=by simp [eI];omega
theorem iQ(k:ByteArray)(b:List ByteArray):eI (k::b)=7+k.size+eI b:=by simp [eI];omega
theorem Ta(a b:Nd h)(k:ByteArray):mQ h a+mQ h b≤mQ h (jq h a k b)∧mQ h (jq h a k b)≤mQ h a+mQ h b+(if h=0 then 0 else 7+k.size):=by
 cases h with
 | zero=>simp [mQ,jq,iG]
 | succ h =>
  have h1:=fO a.2.1 (k::b.2.1);have h2:=iQ k b.2.1;simp only [mQ,jq];simp
  omega
def nO(l:List Pr):List Int:=l.map fun p=>(zG p:Int)
def iP(ks:List ByteArray):List Int:=ks.map fun k=>((7+k.size:Nat):Int)
def ade:(h:Nat)→Nd h→Nat→Prop
 | 0,t,i=>dt (ju (nO t.2)) ((nO t.2).length - 1) i
 | _+1,t,i=>dt (jt (iP t.2.1)) ((iP t.2.1).length - 2) i
def adb:(h:Nat)→Nd h→Nat→Nd h→ByteArray→Nd h→Prop
 | 0,t,i,a,k,b=>a=(0,t.2.take i)∧b=(0,t.2.drop i)∧∃ v,t.2[i]?=some (k,v)
 | _+1,t,i,a,k,b=>a=(0,t.2.1.take i,t.2.2.take (i+1))∧b=(0,t.2.1.drop (i+1),t.2.2.drop (i+1))∧t.2.1[i]?=some k
def Cut(h:Nat)(t a:Nd h)(k:ByteArray)(b:Nd h):Prop:=∃ i,ade h t i∧adb h t i a k b
def zO:Nat→Nat
 | 0=>5627
 | _+1=>7884
theorem DR(l:List Pr)(i:Nat):pre (nO l) i=(fB (l.take i):Int):=by
 unfold pre nO fB;rw [← kq];induction l.take i with
 | nil=>rfl
 | cons p r ih=>simp only [List.map_cons,rj,ih];omega
theorem tH(l:List ByteArray)(i:Nat):6+pre (iP l) i=(eI (l.take i):Int):=by
 unfold pre iP eI;rw [← kq];induction l.take i with
 | nil=>rfl
 | cons p r ih=>simp only [List.map_cons,rj];omega
theorem wg{l:List Pr}(h:∀ p ∈ l,cQ p=true):fB l≤960*l.length:=by
 induction l with
 | nil=>simp [fB]
 | cons p l ih =>
  have a:=ih fun q hq=>h q (dU _ hq)
  have b:=dY (h p dr);rw [mj,List.length_cons];unfold zG;omega
theorem Dl{l:List ByteArray}(h:∀ k ∈ l,cV k):eI l≤262*l.length+6:=by
 induction l with
 | nil=>simp [eI]
 | cons p l ih =>
  have a:=ih fun q hq=>h q (dU _ hq)
  have b:=(h p dr).2;rw [iQ,List.length_cons];omega
theorem xT{α:Type}{P:α→Option ByteArray→Option ByteArray→Prop}:∀ {lo hi:Option ByteArray} {ks:List ByteArray} {cs:List α},gi P lo hi ks cs→∀ k ∈ ks,cV k
 | _,_,[],_,_,_,hk=>by simp at hk
 | _,_,_::_,[],h,_,_=>by simp [gi] at h
 | _,_,k1::ks,c::cs,h,k,hk=>by
  rcases List.mem_cons.1 hk with rfl | hk
  ·exact h.2.1
  ·exact xT h.2.2.2 k hk
theorem Rq{t a b:Nd h}(ho:Ok h t lo hi)(hc:Cut h t a k b)(h1:4072<mQ h t)(h2:mQ h t≤zO h):kG h a lo (some k)∧kG h b (some k) hi∧R5 lo hi k∧cV k∧flat h a++flat h b=flat h t:=by
 obtain ⟨i,hb,hc⟩:=hc;cases h with
 | zero =>
  obtain ⟨rfl,rfl,v,hv⟩:=hc;have ub:∀ p ∈ t.2,cQ p=true:=fun p hp=>(ho.2 p hp).1
  have hlen:=wg ub;have h1:4072<fB t.2:=h1;have h2:fB t.2≤5627:=h2;have nP:(nO t.2).length=t.2.length:=by simp [nO]
  have QI:∀ j (hj:j<(nO t.2).length),1≤(nO t.2)[j]∧(nO t.2)[j]≤960:=fun j hj=>by
   have lY:j<t.2.length:=by rw [← nP];exact hj
   have:=dY (ub t.2[j] (aJ lY));simp only [nO,ch];unfold zG;omega
  have Cm:=Rr (m:=960) (fun j hj=>by have:=QI j hj;omega) (by rw [nP];omega) (fun j hj=>(QI j hj).2) hb
  have Mh:=hb.1;rw [nP] at Mh;unfold ju at Cm;rw [nP,DR,DR,List.take_length] at Cm;have L6:fB t.2=fB (t.2.take i)+fB (t.2.drop i):=by rw [← iG,aI]
  obtain ⟨mc,YZ⟩:=List.getElem?_eq_some_iff.1 hv;have tZ:=qD (a:=t.2.take i) (b:=t.2.drop i) (by rw [aI];exact ho.1)
  have gQ:(k,v) ∈ t.2.drop i:=by
   rw [bg mc,YZ];exact dr
  have hkt:(k,v) ∈ t.2:=bK gQ;have XP:0<(t.2.take i).length:=by rw [ag];omega
  have Y4:(t.2.take i)[0] ∈ t.2.take i:=aJ XP;have vT:=(ho.2 _ (bJ Y4)).2;refine ⟨⟨⟨tZ.1,fun p hp=>⟨ub p (bJ hp),(ho.2 p (bJ hp)).2.1,fun u hu=>?_⟩⟩,?_⟩,⟨⟨tZ.2.1,fun p hp=>⟨ub p (bK hp),fun l hl=>?_,(ho.2 p (bK hp)).2.2⟩⟩,?_⟩,⟨fun l hl=>?_,(ho.2 _ hkt).2.2⟩,?_,?_⟩
  ·cases hu;exact tZ.2.2 p hp _ gQ
  ·show 1556≤fB (t.2.take i)∧fB (t.2.take i)≤4072
   omega
  ·cases hl;rw [bg mc,YZ] at hp tZ;rcases List.mem_cons.1 hp with rfl | hp
   ·exact nh _
   ·have:=(qD (a:=[(k,v)]) (b:=t.2.drop (i+1)) tZ.2.1).2.2 _ dr p hp;exact kT this
  ·show 1556≤fB (t.2.drop i)∧fB (t.2.drop i)≤4072
   omega
  ·exact VF (vT.1 l hl) (tZ.2.2 _ Y4 _ gQ)
  ·have:=dY (ub _ hkt);exact ⟨this.1,this.2.1⟩
  ·exact aI i t.2
 | succ h =>
  obtain ⟨rfl,rfl,hki⟩:=hc;have QB:=xT ho;have hlen:=Dl QB;have ry:=iD ho;have h1:4072<eI t.2.1:=h1;have h2:eI t.2.1≤7884:=h2;have nP:(iP t.2.1).length=t.2.1.length:=by simp [iP]
  have QI:∀ j (hj:j<(iP t.2.1).length),8≤(iP t.2.1)[j]∧(iP t.2.1)[j]≤262:=fun j hj=>by
   have lY:j<t.2.1.length:=by rw [← nP];exact hj
   have:=QB t.2.1[j] (aJ lY);simp only [iP,ch];unfold cV at this;omega
  have Cm:=GX (m:=262) (fun j hj=>by have:=QI j hj;omega) (by rw [nP];omega) (fun j hj=>(QI j hj).2) hb
  have Mh:=hb.1;rw [nP] at Mh;obtain ⟨mc,YZ⟩:=List.getElem?_eq_some_iff.1 hki;have e1:=tH t.2.1 i;have e2:=tH t.2.1 (i+1);have e3:=tH t.2.1 t.2.1.length;rw [List.take_length] at e3;have Ql:t.2.1=t.2.1.take i++k::t.2.1.drop (i+1):=by rw [← YZ,← bg mc,aI]
  have e4:=fO (t.2.1.take i) (k::t.2.1.drop (i+1));have e5:=iQ k (t.2.1.drop (i+1));rw [← Ql] at e4;have e6:eI (t.2.1.take (i+1))=eI (t.2.1.take i)+(7+k.size):=by
   have:=fO (t.2.1.take i) [k];rw [ax mc,YZ];have e7:=iQ k [];have e8:eI []=6:=rfl;omega
  have Md:=QB k (by rw [← YZ];exact aJ mc)
  have aeY:=Md;unfold cV at aeY;unfold jt at Cm;rw [nP] at Cm;have dn:gi (kG h) lo hi (t.2.1.take i++k::t.2.1.drop (i+1)) (t.2.2.take (i+1)++t.2.2.drop (i+1)):=by
   rw [← Ql,aI];exact ho
  obtain ⟨g1,g2,g3,g4⟩:=(D8 (by rw [ag,ag];omega)).1 dn
  refine ⟨⟨g3,?_⟩,⟨g4,?_⟩,g1,g2,?_⟩
  ·show 1777≤eI (t.2.1.take i)∧eI (t.2.1.take i)≤4072
   omega
  ·show 1777≤eI (t.2.1.drop (i+1))∧eI (t.2.1.drop (i+1))≤4072
   omega
  ·show (t.2.2.take (i+1)).flatMap (flat h)++(t.2.2.drop (i+1)).flatMap (flat h)=t.2.2.flatMap (flat h)
   rw [← aN,aI]
variable {h:Nat} {C1 C2:List (Nd h)} {lo:Option ByteArray} {B:List ByteArray} {hi:Option ByteArray} {A:List ByteArray} {x:Nd h} {cs:List (Nd h)} {ks:List ByteArray} {α:Type} {P:α→Option ByteArray→Option ByteArray→Prop} {b:α} {k:ByteArray}
def Ng(h:Nat)(t:Nd h):Prop:=4072<mQ h t
def small(h:Nat)(t:Nd h):Prop:=mQ h t<xY h
def IP(h:Nat)(A B:List ByteArray)(C1:List (Nd h))(x:Nd h)(C2:List (Nd h))(ks:List ByteArray)(cs:List (Nd h)):Prop :=
 (¬ Ng h x∧ks=A++B∧cs=C1++x::C2)∨(Ng h x∧∃ a k b,Cut h x a k b∧ks=A++k::B∧cs=C1++a::b::C2)
def CG(h:Nat)(A B:List ByteArray)(C1:List (Nd h))(x:Nd h)(C2:List (Nd h))(ks:List ByteArray)(cs:List (Nd h)):Prop :=
 (¬ small h x∧IP h A B C1 x C2 ks cs) ∨
 (small h x∧A=[]∧C1=[]∧∃ k B' b C2',B=k::B'∧C2=b::C2'∧IP h [] B' [] (jq h x k b) C2' ks cs) ∨
 (small h x∧∃ A' k C1' a,A=A'++[k]∧C1=C1'++[a]∧IP h A' B C1' (jq h a k x) C2 ks cs)
def Zo(key:ByteArray)(f:List Pr→List Pr):(h:Nat)→Nd h→Nd h→Prop
 | 0,t,t'=>t'=(0,f t.2)
 | h+1,t,t'=>∃ A B C1 c C2,t.2.1=A++B∧t.2.2=C1++c::C2∧A.length=C1.length∧(∀ k ∈ A,cR key k=false)∧(∀ k,B.head?=some k→cR key k=true)∧∃ c' ks cs,Zo key f h c c'∧CG h A B C1 c' C2 ks cs∧t'=(0,ks,cs)
structure Fit(key:ByteArray)(f:List Pr→List Pr):Prop where
 loc:∀ X Y Z:List Pr,(∀ p ∈ X,cR p.1 key=true)→(∀ p ∈ Z,cR key p.1=true)→f (X++(Y++Z))=X++(f Y++Z)
 rise:∀ l,gK l→gK (f l)
 mem:∀ l p,p ∈ f l→p ∈ l∨(p.1=key∧cQ p=true)
 size:∀ l,fB (f l)≤fB l+960
def Ay:Nat→Nat
 | 0=>960
 | _+1=>262
theorem ui(hw:IP h A B C1 x C2 ks cs)(hp:uH (kG h) lo hi A C1)(hx:Ok h x (iZ lo A) (pR hi B))(hc:∀ d,kG h d (iZ lo A) (pR hi B)→gi (kG h) (iZ lo A) hi B (d::C2))(hl:A.length=C1.length)(hs:¬ small h x)(aeQ:mQ h x≤zO h)(h2:∀ a b k,R5 (iZ lo A) (pR hi B) k→cV k→kG h a (iZ lo A) (some k)→kG h b (some k) (pR hi B)→gi (kG h) (iZ lo A) hi (k::B) (a::b::C2)):gi (kG h) lo hi ks cs∧cs.flatMap (flat h)=C1.flatMap (flat h)++(flat h x++C2.flatMap (flat h))∧eI ks≤eI (A++B)+262:=by
 rcases hw with ⟨hb,rfl,rfl⟩ | ⟨hb,a,k,b,hcut,rfl,rfl⟩
 ·refine ⟨(pF hl).2 ⟨hp,hc x ⟨hx,?_⟩⟩,by simp,by omega⟩
  unfold small at hs;unfold Ng at hb;exact ⟨by omega,by omega⟩
 ·obtain ⟨g1,g2,g3,g4,g5⟩:=Rq hx hcut hb aeQ;refine ⟨(pF hl).2 ⟨hp,h2 a b k g3 g4 g1 g2⟩,by simp [← g5],?_⟩
  have e1:=fO A (k::B);have e2:=fO A B;have e3:=iQ k B;unfold cV at g4;omega
theorem AF{α:Type}{P:α→Option ByteArray→Option ByteArray→Prop}{hi:Option ByteArray}{k:ByteArray}{a:α}:∀ {lo:Option ByteArray} {A:List ByteArray} {C1:List α},A.length=C1.length→(uH P lo hi (A++[k]) (C1++[a])↔uH P lo hi A C1∧R5 (iZ lo A) hi k∧cV k∧P a (iZ lo A) (some k))
 | lo,[],[],_=>by simp [uH,iZ]
 | _,[],_::_,h=>by simp at h
 | _,_::_,[],h=>by simp at h
 | lo,k1::A,c1::C1,h=>by
  have:=AF (P:=P) (hi:=hi) (k:=k) (a:=a) (lo:=some k1) (A:=A) (C1:=C1) (by simpa using h)
  simp only [List.cons_append,uH,iZ,this,and_assoc]
theorem D7{a a' b':α}{k':ByteArray}{C2:List α}(h:gi P lo hi (k::B) (a::b::C2))(hk:R5 lo (pR hi B) k')(hm:cV k')(ha:P a' lo (some k'))(hb:P b' (some k') (pR hi B)):gi P lo hi (k'::B) (a'::b'::C2):=by
 have h2:=h.2.2.2;cases B with
 | nil=>cases C2 with
  | nil=>exact ⟨hk,hm,ha,hb⟩
  | cons _ _=>simp [gi] at h2
 | cons kb B=>exact ⟨⟨hk.1,fun u hu=>dq (hk.2 kb rfl) (h2.1.2 u hu)⟩,hm,ha,⟨⟨fun l hl=>by cases hl;exact hk.2 kb rfl,h2.1.2⟩,h2.2.1,hb,h2.2.2.2⟩⟩
theorem JK{a:α}{C2:List α}(h:gi P lo hi (k::B) (a::b::C2)):R5 lo (pR hi B) k:=by
 refine ⟨h.1.1,?_⟩;cases B with
 | nil=>exact h.1.2
 | cons kb B=>exact fun u hu=>by cases hu;exact h.2.2.2.1.1 k rfl
theorem yn{a b:Nd h}(hk:cV k)(Bg:small h a∧Full h b∨Full h a∧small h b):¬ small h (jq h a k b)∧mQ h (jq h a k b)≤zO h:=by
 have h1:=Ta a b k;unfold small Full at *;unfold cV at hk;cases h with
 | zero=>simp only [xY,zO,if_true] at *;omega
 | succ h=>simp only [xY,zO,Nat.succ_ne_zero,if_false] at *;omega
theorem K8{c:Nd h}(eZ:CG h A B C1 x C2 ks cs)(hp:uH (kG h) lo hi A C1)(hc:gi (kG h) (iZ lo A) hi B (c::C2))(hx:Ok h x (iZ lo A) (pR hi B))(hl:A.length=C1.length)(b8:mQ h x≤4072+Ay h):gi (kG h) lo hi ks cs∧cs.flatMap (flat h)=C1.flatMap (flat h)++(flat h x++C2.flatMap (flat h))∧eI ks≤eI (A++B)+262:=by
 have VQ:4072+Ay h≤zO h:=by cases h <;> simp [Ay,zO]
 rcases eZ with ⟨hs,hw⟩ | ⟨hs,rfl,rfl,k,B',b,C2',rfl,rfl,hw⟩ | ⟨hs,A',k,C1',a,rfl,rfl,hw⟩
 ·exact ui hw hp hx (fun d hd=>Pw hc hd) hl hs (by omega) (fun a b k h1 h2 h3 h4=>TH hc h1 h2 h3 h4)
 ·have vj:gi (kG h) lo hi (k::B') (c::b::C2'):=hc;have hb:=rW vj.2.2.2;have hxb:Ok h x lo (some k):=hx;have hj:Ok h (jq h x k b) lo (pR hi B'):=JJ hxb hb.1 (JK vj) vj.2.1;have yr:=yn (a:=x) (b:=b) vj.2.1 (.inl ⟨hs,hb.2⟩);have:=ui (lo:=lo) (hi:=hi) hw trivial hj (fun d hd=>JL vj hd) rfl yr.1 yr.2 (fun a' b' k' h1 h2 h3 h4=>D7 vj h1 h2 h3 h4)
  refine ⟨this.1,by rw [this.2.1,Bj];simp,?_⟩
  have e1:=iQ k B';have:=this.2.2;simp only [List.nil_append] at this ⊢;omega
 ·have Up:A'.length=C1'.length:=by simpa using hl
  rw [Ee] at hc hx;obtain ⟨Ia,hk,hm,ha⟩:=(AF Up).1 hp;have vj:gi (kG h) (iZ lo A') hi (k::B) (a::c::C2):=⟨hk,hm,ha,hc⟩;have hj:Ok h (jq h a k x) (iZ lo A') (pR hi B):=JJ ha.1 hx (JK vj) hm;have yr:=yn (a:=a) (b:=x) hm (.inr ⟨ha.2,hs⟩);have:=ui (lo:=lo) (hi:=hi) hw Ia hj (fun d hd=>JL vj hd) Up yr.1 yr.2 (fun a' b' k' h1 h2 h3 h4=>D7 vj h1 h2 h3 h4)
  refine ⟨this.1,by rw [this.2.1,Bj];simp,?_⟩
  have e1:=fO A' B;have e2:=fO (A'++[k]) B;have e3:=fO A' [k];have:=this.2.2;have e4:=iQ k [];have e5:eI []=6:=rfl;omega
theorem Xj{A:List ByteArray}{key:ByteArray}(h:In lo hi key)(hA:∀ k ∈ A,cR key k=false):geB (iZ lo A) key:=by
 induction A generalizing lo with
 | nil=>exact h.1
 | cons k A ih=>exact ih (lo:=some k) ⟨fun l hl=>by cases hl;exact hA k dr,h.2⟩ (fun k' NT=>hA k' (dU _ NT))
theorem Oo{key:ByteArray}{f:List Pr→List Pr}(hf:Fit key f):∀ (h:Nat) {t t':Nd h} {lo hi:Option ByteArray},Ok h t lo hi→In lo hi key→Zo key f h t t'→Ok h t' lo hi∧flat h t'=f (flat h t)∧mQ h t'≤mQ h t+Ay h
 | 0,t,t',lo,hi,ho,hk,hu=>by
  have hu:t'=(0,f t.2):=hu;subst hu;refine ⟨⟨hf.rise _ ho.1,fun p hp=>?_⟩,rfl,hf.size t.2⟩
  rcases hf.mem _ p hp with h1 | ⟨h1,h2⟩
  ·exact ho.2 p h1
  ·exact ⟨h2,by rw [h1];exact hk⟩
 | h+1,t,t',lo,hi,ho,hk,hu=>by
  obtain ⟨A,B,C1,c,C2,e1,e2,hl,hA,hB,c',ks,cs,hu',eZ,rfl⟩:=hu;have Ib:gi (kG h) lo hi (A++B) (C1++c::C2):=by rw [← e1,← e2];exact ho
  obtain ⟨hp,hc⟩:=(pF hl).1 Ib;have uf:=rW hc;have Gf:In (iZ lo A) (pR hi B) key:=by
   refine ⟨Xj hk hA,?_⟩;cases B with
   | nil=>exact hk.2
   | cons kb B=>exact fun u hu=>by cases hu;exact hB kb rfl
  obtain ⟨r1,r2,r3⟩:=Oo hf h uf.1 Gf hu';have hfc:=uf.2.2;obtain ⟨g1,g2,g3⟩:=K8 eZ hp hc r1 hl (by omega)
  refine ⟨g1,?_,?_⟩
  ·show cs.flatMap (flat h)=f (t.2.2.flatMap (flat h))
   rw [g2,e2,aN,List.flatMap_cons,r2,hf.loc _ _ _ (rS (P:=kG h) (fun _ _ _ hc=>qh h hc.1) hp hA) (uC (P:=kG h) (fun _ _ _ hc=>qh h hc.1) hc hB)]
  ·show eI ks≤eI t.2.1+262
   rw [e1];exact g3
end Go.Proofs.YtihmgigfkmofnaaGreatDoor
