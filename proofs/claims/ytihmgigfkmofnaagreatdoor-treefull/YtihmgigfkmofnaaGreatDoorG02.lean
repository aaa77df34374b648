import Derived.Test.YtihmgigfkmofnaaGreatDoorG01
import Derived.WalkMore
set_option maxHeartbeats 1000000
open Go.Proofs.Tryz
namespace Go.Proofs.YtihmgigfkmofnaaGreatDoor
namespace B
open Go.RowKit
def pV(n:Nat):Int:=IntKind.i64.wrap (n:Int)
theorem Be(a b:Nat):IntKind.i64.wrap (pV a+(b:Int))=pV (a+b):=by
 unfold pV;rw [IntKind.wrap_i64,IntKind.wrap_i64,IntKind.wrap_i64];omega
theorem kR{n:Nat}(h:n≤4611686018427387904):pV n=(n:Int):=by
 unfold pV;rw [IntKind.wrap_i64];omega
theorem A7(f:Int)(v:Value)(l:List Lk)(w:World)(cO:Vu l)(hm:l.length≤140737488355328)(hr:di w v l):Calls prog 156 #[.agg #[.int .i64 f,v]] w fun e w'=>e = .returned (.int .i64 (pV (jT l)))∧Below w.heap.size w w':=by
 obtain ⟨a,cap,hv⟩:=hr.form;subst hv;obtain ⟨n,hn⟩ : ∃ n,n=l.length:=⟨_,rfl⟩;rw [← hn] at hr hm ⊢;have q0:=ai w (.cells #[.int .i64 f,.slice a n cap] 150);have x0:=au.new w #[.int .i64 f,.slice a n cap] 150;generalize Cw:w.alloc (.cells #[.int .i64 f,.slice a n cap] 150)=W0 at *;have p1:=x0.c1;have HR:=ab (hr.below q0);have HN:=ab hn;have pF:=ab cO;have HQ:=ab q0;have H0:Hid (pV (jT (l.take 0))=6):=by show _=_;simp [IB,kR]
 clear hn cO hr q0 x0;go_enter func156,ntmps156;go_wp2;clear p1;go_loopw [3,9] (fun r i wr=>∃ k:Nat,k≤n∧i = .int .i64 k∧r = .int .i64 (pV (jT (l.take k)))∧Below W0.heap.size W0 wr) (fun _ i _=>n - (intOf i).toNat)
 case atStart=>exact ⟨0,aB _,rfl,by rw [H0.out],Below.refl _ _⟩
 case round =>
  obtain ⟨k,hk,rfl,rfl,bO⟩:=hrel;by_cases bK:k<n
  ·have de:k<l.length:=by have:=HN.out;omega
   obtain ⟨g,o,rfl,c1,c2⟩:=(HR.out.below bO).spot k de;have AQ:=pF.out l[k] (aI _);have zq:IntKind.i64.wrap (pV (jT (l.take k))+(yT l[k] : Int))=pV (jT (l.take (k+1))):=by rw [Be,← zi l k de]
   obtain ⟨p,hp⟩ : ∃ p,p=l[k]:=⟨_,rfl⟩;rw [← hp] at c1 c2 zq AQ;have HZ:=ab (fun W=>uQ p W AQ)
   obtain ⟨x,hx⟩ : ∃ x,x=pV (jT (l.take k)):=⟨_,rfl⟩;obtain ⟨y,hy⟩ : ∃ y,y=pV (jT (l.take (k+1))):=⟨_,rfl⟩;obtain ⟨z,hz⟩ : ∃ z,z=yT p:=⟨_,rfl⟩;rw [← hx,← hy,← hz] at zq;rw [← hx];rw [← hz] at HZ;have HY:=ab hy;have dK:(k:Int)<(n:Int):=by omega
   have HB:=ab (Below.next bO (ai wr (.cells #[.string p.1,.int .i64 p.2] 179)));clear hp hx hy hz bO AQ;go_wp2_with fail;refine (HZ.out _).mono ?_
   rintro e w1 ⟨rfl,aM⟩;have bN:=ab (Below.next HB.out aM);clear aM HB HZ c1 c2;go_wp2;go_roundw
   case rel=>exact ⟨k+1,by omega,by go_num,by rw [← HY.out],bN.out⟩
   case measure=>simp [intOf];omega
  ·have df:l.take k=l:=by rw [al];have:=HN.out;omega
   rw [df];have HB:=ab (Below.next HQ.out bO);have dK:¬ (k:Int)<(n:Int):=by omega
   obtain ⟨x,hx⟩ : ∃ x,x=pV (jT l):=⟨_,rfl⟩;rw [← hx];have HX:=ab hx;clear bO df hx;go_wp2;go_ret;exact ⟨by rw [← HX.out];rfl,HB.out⟩
theorem DO(n:Int)(w:World):Calls prog 195 #[.int .i64 n] w fun e w'=>e = .returned (.bool (gj n))∧w=w':=by
 by_cases h1:2≤n
 ·by_cases h2:n<1048576
  ·have hm:gj n=true:=decide_eq_true ⟨h1,h2⟩;rw [hm];clear hm;go_enter func195,ntmps195;go_wp2;go_ret;exact ⟨rfl,rfl⟩
  ·have hm:gj n=false:=decide_eq_false (fun h=>h2 h.2)
   rw [hm];clear hm;go_enter func195,ntmps195;go_wp2;go_ret;exact ⟨rfl,rfl⟩
 ·have hm:gj n=false:=decide_eq_false (fun h=>h1 h.1)
  rw [hm];clear hm;go_enter func195,ntmps195;go_wp2;go_ret;exact ⟨rfl,rfl⟩
theorem SU(p:Lk)(w:World):Calls prog 198 #[.agg #[.string p.1,.int .i64 p.2]] w fun e w'=>e = .returned (.bool (gB p))∧Below w.heap.size w w':=by
 have HB:=ab (ai w (.cells #[.string p.1,.int .i64 p.2] 179));by_cases h1:1≤p.1.size
 ·have i1:(1:Int)≤(p.1.size:Int):=by omega
  by_cases h2:p.1.size≤255
  ·have i2:(p.1.size:Int)≤255:=by omega
   have hm:gB p=gj p.2:=by
    unfold gB gj;congr 1
    apply propext
    exact ⟨fun h=>h.2.2,fun h=>⟨h1,h2,h⟩⟩
   rw [hm];have HC:=ab (fun W=>DO p.2 W)
   generalize gj p.2=cb at *;clear hm;go_enter func198,ntmps198;go_wp2_with fail;refine (HC.out _).mono ?_
   rintro e w1 ⟨rfl,rfl⟩;go_wp2;go_ret;exact ⟨rfl,HB.out⟩
  ·have i2:¬ (p.1.size:Int)≤255:=by omega
   have hm:gB p=false:=decide_eq_false (fun h=>h2 h.2.1)
   rw [hm];clear hm;go_enter func198,ntmps198;go_wp2;go_ret;exact ⟨rfl,HB.out⟩
 ·have i1:¬ (1:Int)≤(p.1.size:Int):=by omega
  have hm:gB p=false:=decide_eq_false (fun h=>h1 h.1)
  rw [hm];clear hm;go_enter func198,ntmps198;go_wp2;go_ret;exact ⟨rfl,HB.out⟩
theorem Q9(p:Lk)(w:World):Calls prog 197 #[.agg #[.string p.1,.int .i64 p.2]] w fun e w'=>e = .returned (.bool (!gB p))∧Below w.heap.size w w':=by
 have HB:=ab (ai w (.cells #[.string p.1,.int .i64 p.2] 179));have HC:=ab (fun W=>SU p W)
 generalize gB p=cb at *;go_enter func197,ntmps197;go_wp2_with fail;refine (HC.out _).mono ?_
 rintro e w1 ⟨rfl,aM⟩;have bN:=ab (Below.next HB.out aM);clear aM;go_wp2;go_ret;exact ⟨rfl,bN.out⟩
theorem Lc(v:Value)(l:List Lk)(w:World)(hm:l.length≤140737488355328)(hr:di w v l):Calls prog 230 #[v,.func (.func 197) #[] #[]] w fun e w'=>((l.all gB=true∧e = .returned (.int .i64 (-1)))∨(l.all gB=false∧∃ k:Nat,e = .returned (.int .i64 (k:Int))))∧Below w.heap.size w w':=by
 obtain ⟨a,cap,hv⟩:=hr.form;subst hv;obtain ⟨n,hn⟩ : ∃ n,n=l.length:=⟨_,rfl⟩;rw [← hn] at hr hm ⊢;have HR:=ab hr;have HN:=ab hn;obtain ⟨Q,hQ⟩ : ∃ Q:Ending→World→Prop,Q=fun e w'=>((l.all gB=true∧e = .returned (.int .i64 (-1)))∨(l.all gB=false∧∃ k:Nat,e = .returned (.int .i64 (k:Int))))∧Below w.heap.size w w':=⟨_,rfl⟩
 rw [← hQ];have HQ:=ab hQ;clear hn hr hQ;go_enter func230,ntmps230;go_wp2;go_loopw [8] (fun i wr=>∃ k:Nat,k≤n∧i = .int .i64 k∧(∀ j (h:j<l.length),j<k→gB l[j]=true)∧Below w.heap.size w wr) (fun i _=>n - (intOf i).toNat)
 case atStart=>exact ⟨0,aB _,rfl,fun j _ h=>absurd h (iA _),Below.refl _ _⟩
 case round =>
  obtain ⟨k,hk,rfl,jm,bO⟩:=hrel;have HP:=ab jm;clear jm;by_cases bK:k<n
  ·have de:k<l.length:=by have:=HN.out;omega
   obtain ⟨g,o,rfl,c1,c2⟩:=(HR.out.below bO).spot k de;have HF:=ab (fun W=>Q9 l[k] W)
   have pT:Hid (gB l[k]=true→∀ j (h:j<l.length),j<k+1→gB l[j]=true):=fun hl j h hj=>by
    by_cases he:j=k
    ·subst he;exact hl
    ·exact HP.out j h (by omega)
   have vA:Hid (gB l[k]=false→l.all gB=false):=fun hl=>by rw [List.all_eq_false];exact ⟨l[k],aI _,by simp [hl]⟩
   obtain ⟨p,hp⟩ : ∃ p,p=l[k]:=⟨_,rfl⟩;rw [← hp] at c1 c2 HF pT vA;have dK:(k:Int)<(n:Int):=by omega
   have j0:(0:Int)≤(k:Int):=by omega
   have HB:=ab bO;clear hp bO;cases hb:gB p with
   | true =>
    rw [hb] at HF;have tV:=ab (pT.out hb);clear pT vA hb;go_wp2_with fail;refine (HF.out _).mono ?_
    rintro e w1 ⟨rfl,aM⟩;have bN:=ab (Below.next HB.out aM);clear aM HB HF c1 c2;go_wp2;go_roundw
    case rel=>exact ⟨k+1,by omega,by go_num,tV.out,bN.out⟩
    case measure=>simp [intOf];omega
   | false =>
    rw [hb] at HF;have Io:=ab (vA.out hb);clear pT vA hb;go_wp2_with fail;refine (HF.out _).mono ?_
    rintro e w1 ⟨rfl,aM⟩;have bN:=ab (Below.next HB.out aM);clear aM HB HF c1 c2;go_wp2;rw [HQ.out];exact ⟨.inr ⟨Io.out,k,rfl⟩,bN.out⟩
  ·have dK:¬ (k:Int)<(n:Int):=by omega
   have Ip:Hid (l.all gB=true):=List.all_eq_true.2 (fun p hp=>by
    obtain ⟨i,hi,rfl⟩:=aO hp;exact HP.out i hi (by have:=HN.out;omega))
   have HB:=ab bO;clear bO HP;go_wp2;rw [HQ.out];exact ⟨.inl ⟨Ip.out,rfl⟩,HB.out⟩
theorem GU(v:Value)(l:List Lk)(w:World)(hm:l.length≤140737488355328)(hr:di w v l):Calls prog 196 #[v,.func (.func 197) #[] #[]] w fun e w'=>e = .returned (.bool (!l.all gB))∧Below w.heap.size w w':=by
 have HI:=ab (Lc v l w hm hr);obtain ⟨a,cap,hv⟩:=hr.form;subst hv;clear hr;go_enter func196,ntmps196;go_wp2_with fail;refine HI.out.mono ?_
 rintro e w1 ⟨⟨df,rfl⟩ | ⟨df,k,rfl⟩,aM⟩
 ·have HB:=ab aM;have HA:=ab df;clear aM df HI;go_wp2;go_ret;exact ⟨by rw [HA.out];rfl,HB.out⟩
 ·have HB:=ab aM;have HA:=ab df;have hk:(0:Int)≤(k:Int):=by omega
  clear aM df HI;go_wp2;go_ret;exact ⟨by rw [HA.out];rfl,HB.out⟩
theorem H8(f:Int)(v:Value)(l:List Lk)(w:World)(hm:l.length≤140737488355328)(hr:di w v l):Calls prog 157 #[.agg #[.int .i64 f,v]] w fun e w'=>e = .returned (.bool (gj f && l.all gB))∧Below w.heap.size w w':=by
 obtain ⟨a,cap,hv⟩:=hr.form;subst hv;have q0:=ai w (.cells #[.int .i64 f,.slice a l.length cap] 150);have x0:=au.new w #[.int .i64 f,.slice a l.length cap] 150;generalize Cw:w.alloc (.cells #[.int .i64 f,.slice a l.length cap] 150)=W0 at *;have p0:=x0.c0;have p1:=x0.c1;have HK:=ab (GU _ l W0 hm (hr.below q0));have HC:=ab (DO f W0);have HQ:=ab q0;generalize l.length=n at *;generalize l.all gB=lb at *;clear q0 x0 hr;cases hc:gj f with
 | true =>
  rw [hc] at HC;clear hc;go_enter func157,ntmps157;go_wp2_with fail;refine HC.out.mono ?_
  rintro e w1 ⟨rfl,rfl⟩;go_wp2_with fail;refine HK.out.mono ?_
  rintro e w2 ⟨rfl,aS⟩;have HB:=ab (Below.next HQ.out aS);clear aS HK HC p0 p1;go_wp2;go_ret;exact ⟨by cases lb <;> rfl,HB.out⟩
 | false =>
  rw [hc] at HC;clear hc;go_enter func157,ntmps157;go_wp2_with fail;refine HC.out.mono ?_
  rintro e w1 ⟨rfl,rfl⟩;clear HC HK;go_wp2;go_ret;exact ⟨by cases lb <;> rfl,HQ.out⟩
end B
theorem Qq{l:List Pr}{key:ByteArray}(h:bg l key=true):(l[aP l key]'(gz h)).1=key:=by
 have:=pB (gz h);rw [h] at this;exact of_decide_eq_true this.symm
theorem LH{l:List Pr}{key:ByteArray}(h:bg l key=false)(hl:aP l key<l.length):¬ (l[aP l key]).1=key:=by
 have:=pB hl;rw [h] at this;exact of_decide_eq_false this.symm
theorem Mu(l:List Pr)(key:ByteArray):dd l key=aP l key+(if bg l key then 1 else 0):=by
 unfold dd;split <;> rfl
theorem Cb{l:List Pr}{key:ByteArray}(hr:gX l)(j:Nat)(hj:j<l.length)(hb:dd l key≤j):cQ key l[j].1=true:=by
 have hq:aP l key<l.length:=by have:=eW l key;omega
 cases hf:bg l key with
 | true =>
  have he:=Qq hf;have bK:aP l key<j:=by rw [Mu,hf] at hb;simp at hb;omega
  have:=hr.lt (aP l key) j hj bK;rw [he] at this;exact this
 | false =>
  have dH:=LH hf hq;have BS:=rY l key hq;have bK:cQ key (l[aP l key]).1=true:=by
   cases h:cQ key (l[aP l key]).1 with
   | true=>rfl
   | false=>exact absurd (mu BS h) dH
  by_cases he:j=aP l key
  ·subst he;exact bK
  ·have:aP l key<j:=by have:=eW l key;omega
   exact dh bK (hr.lt (aP l key) j hj this)
theorem om(l:List Pr)(key value:ByteArray):(fu l key value).length=aP l key+1+(l.length - dd l key):=by
 have:=cD l key;simp only [fu,ae,List.length_cons,ag,ao];omega
theorem Su(l:List Pr)(key value:ByteArray):∃ h:aP l key<(fu l key value).length,(fu l key value)[aP l key]=(key,value):=by
 have hq:=cD l key;refine ⟨by rw [om];omega,?_⟩
 have:(fu l key value)[aP l key]?=some (key,value):=by
  unfold fu;rw [bf (by rw [ag];omega),ag,show aP l key - min (aP l key) l.length=0 by omega]
  rfl
 rw [af (by rw [om];omega)] at this
 exact Option.some.inj this
theorem Gh(l:List Pr)(key value:ByteArray)(j:Nat)(hj:j<aP l key)(h:j<(fu l key value).length):cQ ((fu l key value)[j]).1 key=true:=by
 have hq:=cD l key;have:(fu l key value)[j]?=some (l[j]'(by omega)):=by
  unfold fu;rw [bD (by rw [ag];omega),cJ,if_pos hj,af]
 rw [af h] at this;rw [Option.some.inj this];exact lS l key j hj (by omega)
theorem N4{l:List Pr}{key value:ByteArray}(hr:gX l):gX (fu l key value):=by
 obtain ⟨rR,he⟩:=Su l key value;have hq:=cD l key;have WD:=om l key value;intro i hi;have get:∀ j (hj:j<(fu l key value).length),aP l key<j→∃ hb:dd l key+(j - (aP l key+1))<l.length,(fu l key value)[j]=l[dd l key+(j - (aP l key+1))]:=fun j hj bK=>by
  have hb:dd l key+(j - (aP l key+1))<l.length:=by omega
  refine ⟨hb,?_⟩;have:(fu l key value)[j]?=some l[dd l key+(j - (aP l key+1))]:=by
   unfold fu;rw [bf (by rw [ag];omega),ag,show min (aP l key) l.length=aP l key by omega,show j - aP l key=(j - (aP l key+1))+1 by omega,List.getElem?_cons_succ,dn,af]
  rw [af hj] at this;exact Option.some.inj this
 rcases Nat.lt_trichotomy (i+1) (aP l key) with h | h | h
 ·have g:∀ j (hj:j<aP l key) (hj2:j<(fu l key value).length),(fu l key value)[j]=l[j]'(by omega):=fun j hj hj2=>by
   have:(fu l key value)[j]?=some (l[j]'(by omega)):=by
    unfold fu;rw [bD (by rw [ag];omega),cJ,if_pos hj,af]
   rw [af hj2] at this;exact Option.some.inj this
  rw [g i (by omega) (by omega),g (i+1) h hi]
  exact hr i (by omega)
 ·have h2:=Gh l key value i (by omega) (by omega)
  have:((fu l key value)[i+1]).1=key:=by simp only [h,he]
  rw [this];exact h2
 ·by_cases vm:i=aP l key
  ·have:((fu l key value)[i]).1=key:=by simp only [vm,he]
   obtain ⟨hb,hg⟩:=get (i+1) hi h;rw [this,hg];exact Cb hr _ hb (by omega)
  ·obtain ⟨aM,fO⟩:=get i (by omega) (by omega)
   obtain ⟨aS,vo⟩:=get (i+1) hi h;rw [fO,vo];exact hr.lt _ _ aS (by omega)
theorem UR{a b c:ByteArray}(h1:cQ b a=false)(h2:cQ b c=true):cQ a c=true:=by
 cases h:cQ a b
 ·rw [mu h h1];exact h2
 ·exact dh h h2
theorem DQ{a b c:ByteArray}(h1:cQ a b=true)(h2:cQ c b=false):cQ a c=true:=by
 cases h:cQ b c
 ·rw [← mu h h2];exact h1
 ·exact dh h1 h
def geB(lo:Option ByteArray)(k:ByteArray):Prop:=∀ l,lo=some l→cQ k l=false
def ltB(k:ByteArray)(hi:Option ByteArray):Prop:=∀ u,hi=some u→cQ k u=true
def In(lo hi:Option ByteArray)(k:ByteArray):Prop:=geB lo k∧ltB k hi
def cP(k:ByteArray):Prop:=1≤k.size∧k.size≤255
theorem Ji(k:ByteArray):In none none k:=⟨(fun _ h=>nomatch h),(fun _ h=>nomatch h)⟩
def gtB(lo:Option ByteArray)(k:ByteArray):Prop:=∀ l,lo=some l→cQ l k=true
def Rf(lo hi:Option ByteArray)(k:ByteArray):Prop:=gtB lo k∧ltB k hi
def Nd:Nat→Type
 | 0=>Nat × List Pr
 | h+1=>Nat × List ByteArray × List (Nd h)
def flat:(h:Nat)→Nd h→List Pr
 | 0,t=>t.2
 | h+1,t=>t.2.2.flatMap (flat h)
def fE(ks:List ByteArray):Nat:=6+(ks.map fun k=>7+k.size).sum
def nI:(h:Nat)→Nd h→Nat
 | 0,t=>fY t.2
 | _+1,t=>fE t.2.1
def xK:Nat→Nat
 | 0=>1556
 | _+1=>1777
def Full(h:Nat)(t:Nd h):Prop:=xK h≤nI h t∧nI h t≤4072
def gY{α:Type}(P:α→Option ByteArray→Option ByteArray→Prop):Option ByteArray→Option ByteArray→List ByteArray→List α→Prop
 | lo,hi,[],[c]=>P c lo hi
 | lo,hi,k::ks,c::cs=>Rf lo hi k∧cP k∧P c lo (some k)∧gY P (some k) hi ks cs
 | _,_,_,_=>False
def Ok:(h:Nat)→Nd h→Option ByteArray→Option ByteArray→Prop
 | 0,t,lo,hi=>gX t.2∧∀ p ∈ t.2,cN p=true∧In lo hi p.1
 | h+1,t,lo,hi=>gY (fun c lo hi=>Ok h c lo hi∧Full h c) lo hi t.2.1 t.2.2
def kW(h:Nat)(c:Nd h)(lo hi:Option ByteArray):Prop:=Ok h c lo hi∧Full h c
theorem fA(h:Nat)(t:Nd (h+1))(lo hi:Option ByteArray):Ok (h+1) t lo hi↔gY (kW h) lo hi t.2.1 t.2.2:=Iff.rfl
section lists
variable {α:Type} {P:α→Option ByteArray→Option ByteArray→Prop}
def tS(P:α→Option ByteArray→Option ByteArray→Prop):Option ByteArray→Option ByteArray→List ByteArray→List α→Prop
 | _,_,[],[]=>True
 | lo,hi,k::ks,c::cs=>Rf lo hi k∧cP k∧P c lo (some k)∧tS P (some k) hi ks cs
 | _,_,_,_=>False
def iZ(lo:Option ByteArray):List ByteArray→Option ByteArray
 | []=>lo
 | k::ks=>iZ (some k) ks
theorem pd{A B:List ByteArray}{C1 C2:List α}{c:α}:∀ {lo hi:Option ByteArray},A.length=C1.length→(gY P lo hi (A++B) (C1++c::C2)↔tS P lo hi A C1∧gY P (iZ lo A) hi B (c::C2)):=by
 induction A generalizing C1 with
 | nil =>
  intro lo hi hl;have:C1=[]:=List.length_eq_zero_iff.1 hl.symm;subst this;simp [tS,iZ]
 | cons k A ih =>
  intro lo hi hl;cases C1 with
  | nil=>simp at hl
  | cons c1 C1 =>
   have TF:A.length=C1.length:=by simpa using hl
   have:=ih (C1:=C1) (lo:=some k) (hi:=hi) TF;simp only [List.cons_append,gY,tS,iZ,this,and_assoc]
theorem jV:∀ {lo hi:Option ByteArray} {ks:List ByteArray} {cs:List α},gY P lo hi ks cs→cs.length=ks.length+1
 | _,_,[],[_],_=>rfl
 | _,_,[],[],h=>by simp [gY] at h
 | _,_,[],_::_::_,h=>by simp [gY] at h
 | _,_,_::_,[],h=>by simp [gY] at h
 | _,_,k::ks,c::cs,h=>by
  have:=jV h.2.2.2;simp only [List.length_cons];omega
theorem DM(lo:Option ByteArray)(A:List ByteArray)(k:ByteArray):iZ lo (A++[k])=some k:=by
 induction A generalizing lo with
 | nil=>rfl
 | cons a A ih=>exact ih (some a)
def pH(hi:Option ByteArray):List ByteArray→Option ByteArray
 | []=>hi
 | k::_=>some k
theorem rA{lo hi:Option ByteArray}{B:List ByteArray}{c:α}{C2:List α}(h:gY P lo hi B (c::C2)):P c lo (pH hi B):=by
 cases B with
 | nil=>cases C2 with
  | nil=>exact h
  | cons _ _=>simp [gY] at h
 | cons k B=>exact h.2.2.1
theorem OG{lo hi:Option ByteArray}{B:List ByteArray}{c d:α}{C2:List α}(h:gY P lo hi B (c::C2))(hd:P d lo (pH hi B)):gY P lo hi B (d::C2):=by
 cases B with
 | nil=>cases C2 with
  | nil=>exact hd
  | cons _ _=>simp [gY] at h
 | cons k B=>exact ⟨h.1,h.2.1,hd,h.2.2.2⟩
theorem SM{lo hi:Option ByteArray}{B:List ByteArray}{c a b:α}{k:ByteArray}{C2:List α}(h:gY P lo hi B (c::C2))(hk:Rf lo (pH hi B) k)(hm:cP k)(ha:P a lo (some k))(hb:P b (some k) (pH hi B)):gY P lo hi (k::B) (a::b::C2):=by
 have hkh:Rf lo hi k:=by
  refine ⟨hk.1,?_⟩;cases B with
  | nil=>exact hk.2
  | cons kb B=>exact fun u hu=>dh (hk.2 kb rfl) (h.1.2 u hu)
 refine ⟨hkh,hm,ha,?_⟩;cases B with
 | nil=>cases C2 with
  | nil=>exact hb
  | cons _ _=>simp [gY] at h
 | cons kb B=>exact ⟨⟨fun l hl=>by cases hl;exact hk.2 kb rfl,h.1.2⟩,h.2.1,hb,h.2.2.2⟩
theorem I8{lo hi:Option ByteArray}{B:List ByteArray}{a b c:α}{k:ByteArray}{C2:List α}(h:gY P lo hi (k::B) (a::b::C2))(hc:P c lo (pH hi B)):gY P lo hi B (c::C2):=by
 have h2:=h.2.2.2;cases B with
 | nil=>cases C2 with
  | nil=>exact hc
  | cons _ _=>simp [gY] at h2
 | cons kb B=>exact ⟨⟨fun l hl=>dh (h.1.1 l hl) (h2.1.1 k rfl),h2.1.2⟩,h2.2.1,hc,h2.2.2.2⟩
theorem DI{lo hi:Option ByteArray}{A B:List ByteArray}{k:ByteArray}:∀ {C1 C2:List α},A.length+1=C1.length→(gY P lo hi (A++k::B) (C1++C2)↔Rf lo hi k∧cP k∧gY P lo (some k) A C1∧gY P (some k) hi B C2):=by
 induction A generalizing lo with
 | nil =>
  intro C1 C2 hl;match C1,hl with
  | [c],_=>simp [gY]
 | cons a A ih =>
  intro C1 C2 hl;cases C1 with
  | nil=>simp at hl
  | cons c C1 =>
   have TF:A.length+1=C1.length:=by simpa using hl
   have:=ih (lo:=some a) (C1:=C1) (C2:=C2) TF;simp only [List.cons_append,gY,this];constructor
   ·rintro ⟨h1,h2,h3,h4,h5,h6,h7⟩;exact ⟨⟨fun l hl=>dh (h1.1 l hl) (h4.1 a rfl),h4.2⟩,h5,⟨⟨h1.1,fun u hu=>by cases hu;exact h4.1 a rfl⟩,h2,h3,h6⟩,h7⟩
   ·rintro ⟨h1,h2,⟨h3,h4,h5,h6⟩,h7⟩;exact ⟨⟨h3.1,fun u hu=>dh (h3.2 k rfl) (h1.2 u hu)⟩,h4,h5,⟨fun l hl=>by cases hl;exact h3.2 k rfl,h1.2⟩,h2,h6,h7⟩
end lists
theorem xE{α:Type}{P:α→Option ByteArray→Option ByteArray→Prop}{F:α→List Pr}(hP:∀ c lo hi,P c lo hi→∀ p ∈ F c,In lo hi p.1):∀ {lo hi:Option ByteArray} {ks:List ByteArray} {cs:List α},gY P lo hi ks cs→∀ p ∈ cs.flatMap F,In lo hi p.1
 | lo,hi,[],[c],h,p,hp=>by
  simp only [List.flatMap_cons,List.flatMap_nil,List.append_nil] at hp;exact hP c lo hi h p hp
 | _,_,[],[],h,_,_=>by simp [gY] at h
 | _,_,[],_::_::_,h,_,_=>by simp [gY] at h
 | _,_,_::_,[],h,_,_=>by simp [gY] at h
 | lo,hi,k::ks,c::cs,h,p,hp=>by
  simp only [List.flatMap_cons,cu] at hp;rcases hp with hp | hp
  ·have h1:=hP c lo (some k) h.2.2.1 p hp;exact ⟨h1.1,fun u hu=>dh (h1.2 k rfl) (h.1.2 u hu)⟩
  ·have h1:=xE hP h.2.2.2 p hp;exact ⟨fun l hl=>mw (DQ (h.1.1 l hl) (h1.1 k rfl)),h1.2⟩
theorem pY:∀ (h:Nat) {t:Nd h} {lo hi:Option ByteArray},Ok h t lo hi→∀ p ∈ flat h t,In lo hi p.1
 | 0,_,_,_,hk,p,hp=>(hk.2 p hp).2
 | h+1,_,_,_,hk,p,hp=>xE (P:=kW h) (F:=flat h) (fun _ _ _ hc=>pY h hc.1) hk p hp
theorem ry{α:Type}{P:α→Option ByteArray→Option ByteArray→Prop}{F:α→List Pr}(hP:∀ c lo hi,P c lo hi→∀ p ∈ F c,In lo hi p.1){hi:Option ByteArray}{key:ByteArray}:∀ {lo:Option ByteArray} {A:List ByteArray} {C1:List α},tS P lo hi A C1→(∀ k ∈ A,cQ key k=false)→∀ p ∈ C1.flatMap F,cQ p.1 key=true
 | _,[],[],_,_,p,hp=>by simp at hp
 | _,[],_::_,h,_,_,_=>by simp [tS] at h
 | _,_::_,[],h,_,_,_=>by simp [tS] at h
 | lo,k::A,c::C1,h,hA,p,hp=>by
  simp only [List.flatMap_cons,cu] at hp;rcases hp with hp | hp
  ·have h1:=hP c lo (some k) h.2.2.1 p hp;exact DQ (h1.2 k rfl) (hA k dk)
  ·exact ry hP h.2.2.2 (fun k hk=>hA k (dY _ hk)) p hp
theorem tN{α:Type}{P:α→Option ByteArray→Option ByteArray→Prop}{F:α→List Pr}(hP:∀ c lo hi,P c lo hi→∀ p ∈ F c,In lo hi p.1){lo hi:Option ByteArray}{key:ByteArray}{B:List ByteArray}{c:α}{C2:List α}(h:gY P lo hi B (c::C2))(hB:∀ k,B.head?=some k→cQ key k=true):∀ p ∈ C2.flatMap F,cQ key p.1=true:=by
 cases B with
 | nil=>cases C2 with
  | nil=>intro p hp;simp at hp
  | cons _ _=>simp [gY] at h
 | cons k B =>
  intro p hp;have h1:=xE hP h.2.2.2 p hp;exact DQ (hB k rfl) (h1.1 k rfl)
theorem uh{a b:List Pr}(ha:gX a)(hb:gX b)(Cv:∀ p ∈ a,∀ q ∈ b,cQ p.1 q.1=true):gX (a++b):=fun i hi=>by
 rw [ae] at hi;by_cases h1:i+1<a.length
 ·rw [aJ (by omega),aJ h1];exact ha i h1
 ·by_cases h2:i<a.length
  ·rw [aJ h2,bu (by omega)]
   exact Cv _ (aI _) _ (aI _)
  ·rw [bu (by omega),bu (by omega)]
   simp only [show i+1 - a.length=i - a.length+1 by omega]
   exact hb (i - a.length) (by omega)
theorem qm{a b:List Pr}(h:gX (a++b)):gX a∧gX b∧∀ p ∈ a,∀ q ∈ b,cQ p.1 q.1=true:=by
 refine ⟨?_,?_,fun p hp q hq=>?_⟩
 ·have:=h.take a.length;rwa [eu] at this
 ·have:=h.drop a.length;rwa [fN] at this
 ·obtain ⟨i,hi,rfl⟩:=aO hp;obtain ⟨j,hj,rfl⟩:=aO hq;have:=h.lt i (a.length+j) (by rw [ae];omega) (by omega)
  rw [aJ hi,bu (by omega)] at this
  simpa using this
def jj:(h:Nat)→Nd h→ByteArray→Nd h→Nd h
 | 0,a,_,b=>(0,a.2++b.2)
 | _+1,a,k,b=>(0,a.2.1++k::b.2.1,a.2.2++b.2.2)
theorem AY(h:Nat)(a b:Nd h)(k:ByteArray):flat h (jj h a k b)=flat h a++flat h b:=by
 cases h with
 | zero=>rfl
 | succ h=>simp [flat,jj]
theorem I6{h:Nat}{a b:Nd h}{k:ByteArray}{lo hi:Option ByteArray}(ha:Ok h a lo (some k))(hb:Ok h b (some k) hi)(hk:Rf lo hi k)(hm:cP k):Ok h (jj h a k b) lo hi:=by
 cases h with
 | zero =>
  refine ⟨uh ha.1 hb.1 (fun p hp q hq=>DQ ((ha.2 p hp).2.2 k rfl) ((hb.2 q hq).2.1 k rfl)),fun p hp=>?_⟩
  rcases List.mem_append.1 hp with h | h
  ·have h1:=ha.2 p h;exact ⟨h1.1,h1.2.1,fun u hu=>dh (h1.2.2 k rfl) (hk.2 u hu)⟩
  ·have h1:=hb.2 p h;exact ⟨h1.1,fun l hl=>mw (DQ (hk.1 l hl) (h1.2.1 k rfl)),h1.2.2⟩
 | succ h =>
  exact (DI (jV ha).symm).2 ⟨hk,hm,ha,hb⟩
theorem fR(a b:List ByteArray):fE (a++b)+6=fE a+fE b:=by simp [fE];omega
theorem iP(k:ByteArray)(b:List ByteArray):fE (k::b)=7+k.size+fE b:=by simp [fE];omega
theorem Si{h:Nat}(a b:Nd h)(k:ByteArray):nI h a+nI h b≤nI h (jj h a k b)∧nI h (jj h a k b)≤nI h a+nI h b+(if h=0 then 0 else 7+k.size):=by
 cases h with
 | zero=>simp [nI,jj,iH]
 | succ h =>
  have h1:=fR a.2.1 (k::b.2.1);have h2:=iP k b.2.1;simp only [nI,jj];simp
  omega
def nQ(l:List Pr):List Int:=l.map fun p=>(z6 p:Int)
def iO(ks:List ByteArray):List Int:=ks.map fun k=>((7+k.size:Nat):Int)
def abL:(h:Nat)→Nd h→Nat→Prop
 | 0,t,i=>dq (jr (nQ t.2)) ((nQ t.2).length - 1) i
 | _+1,t,i=>dq (jq (iO t.2.1)) ((iO t.2.1).length - 2) i
def abK:(h:Nat)→Nd h→Nat→Nd h→ByteArray→Nd h→Prop
 | 0,t,i,a,k,b=>a=(0,t.2.take i)∧b=(0,t.2.drop i)∧∃ v,t.2[i]?=some (k,v)
 | _+1,t,i,a,k,b=>a=(0,t.2.1.take i,t.2.2.take (i+1))∧b=(0,t.2.1.drop (i+1),t.2.2.drop (i+1))∧t.2.1[i]?=some k
def Cut(h:Nat)(t a:Nd h)(k:ByteArray)(b:Nd h):Prop:=∃ i,abL h t i∧abK h t i a k b
def zn:Nat→Nat
 | 0=>5627
 | _+1=>7884
theorem Ds(l:List Pr)(i:Nat):pre (nQ l) i=(fY (l.take i):Int):=by
 unfold pre nQ fY;rw [← ko];induction l.take i with
 | nil=>rfl
 | cons p r ih=>simp only [List.map_cons,qQ,ih];omega
theorem sV(l:List ByteArray)(i:Nat):6+pre (iO l) i=(fE (l.take i):Int):=by
 unfold pre iO fE;rw [← ko];induction l.take i with
 | nil=>rfl
 | cons p r ih=>simp only [List.map_cons,qQ];omega
theorem vD{l:List Pr}(h:∀ p ∈ l,cN p=true):fY l≤960*l.length:=by
 induction l with
 | nil=>simp [fY]
 | cons p l ih =>
  have a:=ih fun q hq=>h q (dY _ hq)
  have b:=eS (h p dk);rw [oa,List.length_cons];unfold z6;omega
theorem C0{l:List ByteArray}(h:∀ k ∈ l,cP k):fE l≤262*l.length+6:=by
 induction l with
 | nil=>simp [fE]
 | cons p l ih =>
  have a:=ih fun q hq=>h q (dY _ hq)
  have b:=(h p dk).2;rw [iP,List.length_cons];omega
theorem xD{α:Type}{P:α→Option ByteArray→Option ByteArray→Prop}:∀ {lo hi:Option ByteArray} {ks:List ByteArray} {cs:List α},gY P lo hi ks cs→∀ k ∈ ks,cP k
 | _,_,[],_,_,_,hk=>by simp at hk
 | _,_,_::_,[],h,_,_=>by simp [gY] at h
 | _,_,k1::ks,c::cs,h,k,hk=>by
  rcases List.mem_cons.1 hk with rfl | hk
  ·exact h.2.1
  ·exact xD h.2.2.2 k hk
theorem QE{h:Nat}{t a b:Nd h}{k:ByteArray}{lo hi:Option ByteArray}(ho:Ok h t lo hi)(hc:Cut h t a k b)(h1:4072<nI h t)(h2:nI h t≤zn h):kW h a lo (some k)∧kW h b (some k) hi∧Rf lo hi k∧cP k∧flat h a++flat h b=flat h t:=by
 obtain ⟨i,hb,hc⟩:=hc;cases h with
 | zero =>
  obtain ⟨rfl,rfl,v,hv⟩:=hc;have tm:∀ p ∈ t.2,cN p=true:=fun p hp=>(ho.2 p hp).1
  have hlen:=vD tm;have h1:4072<fY t.2:=h1;have h2:fY t.2≤5627:=h2;have pZ:(nQ t.2).length=t.2.length:=by simp [nQ]
  have P0:∀ j (hj:j<(nQ t.2).length),1≤(nQ t.2)[j]∧(nQ t.2)[j]≤960:=fun j hj=>by
   have lY:j<t.2.length:=by rw [← pZ];exact hj
   have:=eS (tm t.2[j] (aI lY));simp only [nQ,bT];unfold z6;omega
  have BU:=QF (m:=960) (fun j hj=>by have:=P0 j hj;omega) (by rw [pZ];omega) (fun j hj=>(P0 j hj).2) hb
  have Lq:=hb.1;rw [pZ] at Lq;unfold jr at BU;rw [pZ,Ds,Ds,l8] at BU;have Lg:fY t.2=fY (t.2.take i)+fY (t.2.drop i):=by rw [← iH,aH]
  obtain ⟨mz,XV⟩:=List.getElem?_eq_some_iff.1 hv;have tl:=qm (a:=t.2.take i) (b:=t.2.drop i) (by rw [aH];exact ho.1)
  have gT:(k,v) ∈ t.2.drop i:=by
   rw [a7 mz,XV];exact dk
  have hkt:(k,v) ∈ t.2:=bH gT;have WM:0<(t.2.take i).length:=by rw [ag];omega
  have X1:(t.2.take i)[0] ∈ t.2.take i:=aI WM;have vl:=(ho.2 _ (bn X1)).2;refine ⟨⟨⟨tl.1,fun p hp=>⟨tm p (bn hp),(ho.2 p (bn hp)).2.1,fun u hu=>?_⟩⟩,?_⟩,⟨⟨tl.2.1,fun p hp=>⟨tm p (bH hp),fun l hl=>?_,(ho.2 p (bH hp)).2.2⟩⟩,?_⟩,⟨fun l hl=>?_,(ho.2 _ hkt).2.2⟩,?_,?_⟩
  ·cases hu;exact tl.2.2 p hp _ gT
  ·show 1556≤fY (t.2.take i)∧fY (t.2.take i)≤4072
   omega
  ·cases hl;rw [a7 mz,XV] at hp tl;rcases List.mem_cons.1 hp with rfl | hp
   ·exact nk _
   ·have:=(qm (a:=[(k,v)]) (b:=t.2.drop (i+1)) tl.2.1).2.2 _ dk p hp;exact mw this
  ·show 1556≤fY (t.2.drop i)∧fY (t.2.drop i)≤4072
   omega
  ·exact UR (vl.1 l hl) (tl.2.2 _ X1 _ gT)
  ·have:=eS (tm _ hkt);exact ⟨this.1,this.2.1⟩
  ·exact aH i t.2
 | succ h =>
  obtain ⟨rfl,rfl,hki⟩:=hc;have PS:=xD ho;have hlen:=C0 PS;have pP:=jV ho;have h1:4072<fE t.2.1:=h1;have h2:fE t.2.1≤7884:=h2;have pZ:(iO t.2.1).length=t.2.1.length:=by simp [iO]
  have P0:∀ j (hj:j<(iO t.2.1).length),8≤(iO t.2.1)[j]∧(iO t.2.1)[j]≤262:=fun j hj=>by
   have lY:j<t.2.1.length:=by rw [← pZ];exact hj
   have:=PS t.2.1[j] (aI lY);simp only [iO,bT];unfold cP at this;omega
  have BU:=Gt (m:=262) (fun j hj=>by have:=P0 j hj;omega) (by rw [pZ];omega) (fun j hj=>(P0 j hj).2) hb
  have Lq:=hb.1;rw [pZ] at Lq;obtain ⟨mz,XV⟩:=List.getElem?_eq_some_iff.1 hki;have e1:=sV t.2.1 i;have e2:=sV t.2.1 (i+1);have e3:=sV t.2.1 t.2.1.length;rw [l8] at e3;have Py:t.2.1=t.2.1.take i++k::t.2.1.drop (i+1):=by rw [← XV,← a7 mz,aH]
  have e4:=fR (t.2.1.take i) (k::t.2.1.drop (i+1));have e5:=iP k (t.2.1.drop (i+1));rw [← Py] at e4;have e6:fE (t.2.1.take (i+1))=fE (t.2.1.take i)+(7+k.size):=by
   have:=fR (t.2.1.take i) [k];rw [ax mz,XV];have e7:=iP k [];have e8:fE []=6:=rfl;omega
  have Ln:=PS k (by rw [← XV];exact aI mz)
  have ady:=Ln;unfold cP at ady;unfold jq at BU;rw [pZ] at BU;have df:gY (kW h) lo hi (t.2.1.take i++k::t.2.1.drop (i+1)) (t.2.2.take (i+1)++t.2.2.drop (i+1)):=by
   rw [← Py,aH];exact ho
  obtain ⟨g1,g2,g3,g4⟩:=(DI (by rw [ag,ag];omega)).1 df
  refine ⟨⟨g3,?_⟩,⟨g4,?_⟩,g1,g2,?_⟩
  ·show 1777≤fE (t.2.1.take i)∧fE (t.2.1.take i)≤4072
   omega
  ·show 1777≤fE (t.2.1.drop (i+1))∧fE (t.2.1.drop (i+1))≤4072
   omega
  ·show (t.2.2.take (i+1)).flatMap (flat h)++(t.2.2.drop (i+1)).flatMap (flat h)=t.2.2.flatMap (flat h)
   rw [← aR,aH]
def Mr(h:Nat)(t:Nd h):Prop:=4072<nI h t
def small(h:Nat)(t:Nd h):Prop:=nI h t<xK h
def H9(h:Nat)(A B:List ByteArray)(C1:List (Nd h))(x:Nd h)(C2:List (Nd h))(ks:List ByteArray)(cs:List (Nd h)):Prop :=
 (¬ Mr h x∧ks=A++B∧cs=C1++x::C2)∨(Mr h x∧∃ a k b,Cut h x a k b∧ks=A++k::B∧cs=C1++a::b::C2)
def Cf(h:Nat)(A B:List ByteArray)(C1:List (Nd h))(x:Nd h)(C2:List (Nd h))(ks:List ByteArray)(cs:List (Nd h)):Prop :=
 (¬ small h x∧H9 h A B C1 x C2 ks cs) ∨
 (small h x∧A=[]∧C1=[]∧∃ k B' b C2',B=k::B'∧C2=b::C2'∧H9 h [] B' [] (jj h x k b) C2' ks cs) ∨
 (small h x∧∃ A' k C1' a,A=A'++[k]∧C1=C1'++[a]∧H9 h A' B C1' (jj h a k x) C2 ks cs)
def Yg(key:ByteArray)(f:List Pr→List Pr):(h:Nat)→Nd h→Nd h→Prop
 | 0,t,t'=>t'=(0,f t.2)
 | h+1,t,t'=>∃ A B C1 c C2,t.2.1=A++B∧t.2.2=C1++c::C2∧A.length=C1.length∧(∀ k ∈ A,cQ key k=false)∧(∀ k,B.head?=some k→cQ key k=true)∧∃ c' ks cs,Yg key f h c c'∧Cf h A B C1 c' C2 ks cs∧t'=(0,ks,cs)
structure Fit(key:ByteArray)(f:List Pr→List Pr):Prop where
 loc:∀ X Y Z:List Pr,(∀ p ∈ X,cQ p.1 key=true)→(∀ p ∈ Z,cQ key p.1=true)→f (X++(Y++Z))=X++(f Y++Z)
 rise:∀ l,gX l→gX (f l)
 mem:∀ l p,p ∈ f l→p ∈ l∨(p.1=key∧cN p=true)
 size:∀ l,fY (f l)≤fY l+960
def Af:Nat→Nat
 | 0=>960
 | _+1=>262
theorem tw{h:Nat}{A B ks:List ByteArray}{C1 C2 cs:List (Nd h)}{x:Nd h}{lo hi:Option ByteArray}(hw:H9 h A B C1 x C2 ks cs)(hp:tS (kW h) lo hi A C1)(hx:Ok h x (iZ lo A) (pH hi B))(hc:∀ d,kW h d (iZ lo A) (pH hi B)→gY (kW h) (iZ lo A) hi B (d::C2))(hl:A.length=C1.length)(hs:¬ small h x)(adp:nI h x≤zn h)(h2:∀ a b k,Rf (iZ lo A) (pH hi B) k→cP k→kW h a (iZ lo A) (some k)→kW h b (some k) (pH hi B)→gY (kW h) (iZ lo A) hi (k::B) (a::b::C2)):gY (kW h) lo hi ks cs∧cs.flatMap (flat h)=C1.flatMap (flat h)++(flat h x++C2.flatMap (flat h))∧fE ks≤fE (A++B)+262:=by
 rcases hw with ⟨hb,rfl,rfl⟩ | ⟨hb,a,k,b,hcut,rfl,rfl⟩
 ·refine ⟨(pd hl).2 ⟨hp,hc x ⟨hx,?_⟩⟩,by simp,by omega⟩
  unfold small at hs;unfold Mr at hb;exact ⟨by omega,by omega⟩
 ·obtain ⟨g1,g2,g3,g4,g5⟩:=QE hx hcut hb adp;refine ⟨(pd hl).2 ⟨hp,h2 a b k g3 g4 g1 g2⟩,by simp [← g5],?_⟩
  have e1:=fR A (k::B);have e2:=fR A B;have e3:=iP k B;unfold cP at g4;omega
theorem Am{α:Type}{P:α→Option ByteArray→Option ByteArray→Prop}{hi:Option ByteArray}{k:ByteArray}{a:α}:∀ {lo:Option ByteArray} {A:List ByteArray} {C1:List α},A.length=C1.length→(tS P lo hi (A++[k]) (C1++[a])↔tS P lo hi A C1∧Rf (iZ lo A) hi k∧cP k∧P a (iZ lo A) (some k))
 | lo,[],[],_=>by simp [tS,iZ]
 | _,[],_::_,h=>by simp at h
 | _,_::_,[],h=>by simp at h
 | lo,k1::A,c1::C1,h=>by
  have:=Am (P:=P) (hi:=hi) (k:=k) (a:=a) (lo:=some k1) (A:=A) (C1:=C1) (by simpa using h)
  simp only [List.cons_append,tS,iZ,this,and_assoc]
theorem DH{α:Type}{P:α→Option ByteArray→Option ByteArray→Prop}{lo hi:Option ByteArray}{B:List ByteArray}{a b a' b':α}{k k':ByteArray}{C2:List α}(h:gY P lo hi (k::B) (a::b::C2))(hk:Rf lo (pH hi B) k')(hm:cP k')(ha:P a' lo (some k'))(hb:P b' (some k') (pH hi B)):gY P lo hi (k'::B) (a'::b'::C2):=by
 have h2:=h.2.2.2;cases B with
 | nil=>cases C2 with
  | nil=>exact ⟨hk,hm,ha,hb⟩
  | cons _ _=>simp [gY] at h2
 | cons kb B=>exact ⟨⟨hk.1,fun u hu=>dh (hk.2 kb rfl) (h2.1.2 u hu)⟩,hm,ha,⟨⟨fun l hl=>by cases hl;exact hk.2 kb rfl,h2.1.2⟩,h2.2.1,hb,h2.2.2.2⟩⟩
theorem I7{α:Type}{P:α→Option ByteArray→Option ByteArray→Prop}{lo hi:Option ByteArray}{B:List ByteArray}{a b:α}{k:ByteArray}{C2:List α}(h:gY P lo hi (k::B) (a::b::C2)):Rf lo (pH hi B) k:=by
 refine ⟨h.1.1,?_⟩;cases B with
 | nil=>exact h.1.2
 | cons kb B=>exact fun u hu=>by cases hu;exact h.2.2.2.1.1 k rfl
theorem xW{h:Nat}{a b:Nd h}{k:ByteArray}(hk:cP k)(Cv:small h a∧Full h b∨Full h a∧small h b):¬ small h (jj h a k b)∧nI h (jj h a k b)≤zn h:=by
 have h1:=Si a b k;unfold small Full at *;unfold cP at hk;cases h with
 | zero=>simp only [xK,zn,if_true] at *;omega
 | succ h=>simp only [xK,zn,Nat.succ_ne_zero,if_false] at *;omega
theorem Ks{h:Nat}{A B ks:List ByteArray}{C1 C2 cs:List (Nd h)}{c x:Nd h}{lo hi:Option ByteArray}(eK:Cf h A B C1 x C2 ks cs)(hp:tS (kW h) lo hi A C1)(hc:gY (kW h) (iZ lo A) hi B (c::C2))(hx:Ok h x (iZ lo A) (pH hi B))(hl:A.length=C1.length)(b8:nI h x≤4072+Af h):gY (kW h) lo hi ks cs∧cs.flatMap (flat h)=C1.flatMap (flat h)++(flat h x++C2.flatMap (flat h))∧fE ks≤fE (A++B)+262:=by
 have U5:4072+Af h≤zn h:=by cases h <;> simp [Af,zn]
 rcases eK with ⟨hs,hw⟩ | ⟨hs,rfl,rfl,k,B',b,C2',rfl,rfl,hw⟩ | ⟨hs,A',k,C1',a,rfl,rfl,hw⟩
 ·exact tw hw hp hx (fun d hd=>OG hc hd) hl hs (by omega) (fun a b k h1 h2 h3 h4=>SM hc h1 h2 h3 h4)
 ·have uC:gY (kW h) lo hi (k::B') (c::b::C2'):=hc;have hb:=rA uC.2.2.2;have hxb:Ok h x lo (some k):=hx;have hj:Ok h (jj h x k b) lo (pH hi B'):=I6 hxb hb.1 (I7 uC) uC.2.1;have yd:=xW (a:=x) (b:=b) uC.2.1 (.inl ⟨hs,hb.2⟩);have:=tw (lo:=lo) (hi:=hi) hw trivial hj (fun d hd=>I8 uC hd) rfl yd.1 yd.2 (fun a' b' k' h1 h2 h3 h4=>DH uC h1 h2 h3 h4)
  refine ⟨this.1,by rw [this.2.1,AY];simp,?_⟩
  have e1:=iP k B';have:=this.2.2;simp only [List.nil_append] at this ⊢;omega
 ·have TF:A'.length=C1'.length:=by simpa using hl
  rw [DM] at hc hx;obtain ⟨G5,hk,hm,ha⟩:=(Am TF).1 hp;have uC:gY (kW h) (iZ lo A') hi (k::B) (a::c::C2):=⟨hk,hm,ha,hc⟩;have hj:Ok h (jj h a k x) (iZ lo A') (pH hi B):=I6 ha.1 hx (I7 uC) hm;have yd:=xW (a:=a) (b:=x) hm (.inr ⟨ha.2,hs⟩);have:=tw (lo:=lo) (hi:=hi) hw G5 hj (fun d hd=>I8 uC hd) TF yd.1 yd.2 (fun a' b' k' h1 h2 h3 h4=>DH uC h1 h2 h3 h4)
  refine ⟨this.1,by rw [this.2.1,AY];simp,?_⟩
  have e1:=fR A' B;have e2:=fR (A'++[k]) B;have e3:=fR A' [k];have:=this.2.2;have e4:=iP k [];have e5:fE []=6:=rfl;omega
theorem Wd{lo hi:Option ByteArray}{A:List ByteArray}{key:ByteArray}(h:In lo hi key)(hA:∀ k ∈ A,cQ key k=false):geB (iZ lo A) key:=by
 induction A generalizing lo with
 | nil=>exact h.1
 | cons k A ih=>exact ih (lo:=some k) ⟨fun l hl=>by cases hl;exact hA k dk,h.2⟩ (fun k' RP=>hA k' (dY _ RP))
theorem Nw{key:ByteArray}{f:List Pr→List Pr}(hf:Fit key f):∀ (h:Nat) {t t':Nd h} {lo hi:Option ByteArray},Ok h t lo hi→In lo hi key→Yg key f h t t'→Ok h t' lo hi∧flat h t'=f (flat h t)∧nI h t'≤nI h t+Af h
 | 0,t,t',lo,hi,ho,hk,hu=>by
  have hu:t'=(0,f t.2):=hu;subst hu;refine ⟨⟨hf.rise _ ho.1,fun p hp=>?_⟩,rfl,hf.size t.2⟩
  rcases hf.mem _ p hp with h1 | ⟨h1,h2⟩
  ·exact ho.2 p h1
  ·exact ⟨h2,by rw [h1];exact hk⟩
 | h+1,t,t',lo,hi,ho,hk,hu=>by
  obtain ⟨A,B,C1,c,C2,e1,e2,hl,hA,hB,c',ks,cs,hu',eK,rfl⟩:=hu;have G6:gY (kW h) lo hi (A++B) (C1++c::C2):=by rw [← e1,← e2];exact ho
  obtain ⟨hp,hc⟩:=(pd hl).1 G6;have tq:=rA hc;have FJ:In (iZ lo A) (pH hi B) key:=by
   refine ⟨Wd hk hA,?_⟩;cases B with
   | nil=>exact hk.2
   | cons kb B=>exact fun u hu=>by cases hu;exact hB kb rfl
  obtain ⟨r1,r2,r3⟩:=Nw hf h tq.1 FJ hu';have hfc:=tq.2.2;obtain ⟨g1,g2,g3⟩:=Ks eK hp hc r1 hl (by omega)
  refine ⟨g1,?_,?_⟩
  ·show cs.flatMap (flat h)=f (t.2.2.flatMap (flat h))
   rw [g2,e2,aR,List.flatMap_cons,r2,hf.loc _ _ _ (ry (P:=kW h) (fun _ _ _ hc=>pY h hc.1) hp hA) (tN (P:=kW h) (fun _ _ _ hc=>pY h hc.1) hc hB)]
  ·show fE ks≤fE t.2.1+262
   rw [e1];exact g3
end Go.Proofs.YtihmgigfkmofnaaGreatDoor
