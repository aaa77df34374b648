import Derived.Test.YtihmgigfkmofnaaGreatDoorG01
import Derived.WalkMore
set_option maxHeartbeats 1000000
open Go.Proofs.Tryz
namespace Go.Proofs.YtihmgigfkmofnaaGreatDoor
namespace B
open Go.RowKit
def pK(n:Nat):Int:=IntKind.i64.wrap (n:Int)
theorem AR(a b:Nat):IntKind.i64.wrap (pK a+(b:Int))=pK (a+b):=by
 unfold pK;rw [IntKind.wrap_i64,IntKind.wrap_i64,IntKind.wrap_i64];omega
theorem kI{n:Nat}(h:n≤4611686018427387904):pK n=(n:Int):=by
 unfold pK;rw [IntKind.wrap_i64];omega
theorem AG(f:Int)(v:Value)(l:List Lk)(w:World)(cN:UX l)(hm:l.length≤140737488355328)(hr:di w v l):Calls prog 156 #[.agg #[.int .i64 f,v]] w fun e w'=>e = .returned (.int .i64 (pK (jM l)))∧Below w.heap.size w w':=by
 obtain ⟨a,cap,hv⟩:=hr.form;subst hv;obtain ⟨n,hn⟩ : ∃ n,n=l.length:=⟨_,rfl⟩;rw [← hn] at hr hm ⊢;have q0:=ai w (.cells #[.int .i64 f,.slice a n cap] 150);have x0:=au.new w #[.int .i64 f,.slice a n cap] 150;generalize Cc:w.alloc (.cells #[.int .i64 f,.slice a n cap] 150)=W0 at *;have p1:=x0.c1;have HR:=ab (hr.below q0);have HN:=ab hn;have pw:=ab cN;have HQ:=ab q0;have H0:Hid (pK (jM (l.take 0))=6):=by show _=_;simp [Im,kI]
 clear hn cN hr q0 x0;go_enter func156,ntmps156;go_wp2;clear p1;go_loopw [3,9] (fun r i wr=>∃ k:Nat,k≤n∧i = .int .i64 k∧r = .int .i64 (pK (jM (l.take k)))∧Below W0.heap.size W0 wr) (fun _ i _=>n - (intOf i).toNat)
 case atStart=>exact ⟨0,aD _,rfl,by rw [H0.out],Below.refl _ _⟩
 case round =>
  obtain ⟨k,hk,rfl,rfl,bO⟩:=hrel;by_cases bN:k<n
  ·have cL:k<l.length:=by have:=HN.out;omega
   obtain ⟨g,o,rfl,c1,c2⟩:=(HR.out.below bO).spot k cL;have Ao:=pw.out l[k] (aG _);have yR:IntKind.i64.wrap (pK (jM (l.take k))+(yu l[k] : Int))=pK (jM (l.take (k+1))):=by rw [AR,← yJ l k cL]
   obtain ⟨p,hp⟩ : ∃ p,p=l[k]:=⟨_,rfl⟩;rw [← hp] at c1 c2 yR Ao;have HZ:=ab (fun W=>uA p W Ao)
   obtain ⟨x,hx⟩ : ∃ x,x=pK (jM (l.take k)):=⟨_,rfl⟩;obtain ⟨y,hy⟩ : ∃ y,y=pK (jM (l.take (k+1))):=⟨_,rfl⟩;obtain ⟨z,hz⟩ : ∃ z,z=yu p:=⟨_,rfl⟩;rw [← hx,← hy,← hz] at yR;rw [← hx];rw [← hz] at HZ;have HY:=ab hy;have dP:(k:Int)<(n:Int):=by omega
   have HB:=ab (Below.next bO (ai wr (.cells #[.string p.1,.int .i64 p.2] 179)));clear hp hx hy hz bO Ao;go_wp2_with fail;refine (HZ.out _).mono ?_
   rintro e w1 ⟨rfl,aL⟩;have bP:=ab (Below.next HB.out aL);clear aL HB HZ c1 c2;go_wp2;go_roundw
   case rel=>exact ⟨k+1,by omega,by go_num,by rw [← HY.out],bP.out⟩
   case measure=>simp [intOf];omega
  ·have df:l.take k=l:=by rw [al];have:=HN.out;omega
   rw [df];have HB:=ab (Below.next HQ.out bO);have dP:¬ (k:Int)<(n:Int):=by omega
   obtain ⟨x,hx⟩ : ∃ x,x=pK (jM l):=⟨_,rfl⟩;rw [← hx];have HX:=ab hx;clear bO df hx;go_wp2;go_ret;exact ⟨by rw [← HX.out];rfl,HB.out⟩
theorem Dr(n:Int)(w:World):Calls prog 195 #[.int .i64 n] w fun e w'=>e = .returned (.bool (fX n))∧w=w':=by
 by_cases h1:2≤n
 ·by_cases h2:n<1048576
  ·have hm:fX n=true:=decide_eq_true ⟨h1,h2⟩;rw [hm];clear hm;go_enter func195,ntmps195;go_wp2;go_ret;exact ⟨rfl,rfl⟩
  ·have hm:fX n=false:=decide_eq_false (fun h=>h2 h.2)
   rw [hm];clear hm;go_enter func195,ntmps195;go_wp2;go_ret;exact ⟨rfl,rfl⟩
 ·have hm:fX n=false:=decide_eq_false (fun h=>h1 h.1)
  rw [hm];clear hm;go_enter func195,ntmps195;go_wp2;go_ret;exact ⟨rfl,rfl⟩
theorem Sn(p:Lk)(w:World):Calls prog 198 #[.agg #[.string p.1,.int .i64 p.2]] w fun e w'=>e = .returned (.bool (gy p))∧Below w.heap.size w w':=by
 have HB:=ab (ai w (.cells #[.string p.1,.int .i64 p.2] 179));by_cases h1:1≤p.1.size
 ·have i1:(1:Int)≤(p.1.size:Int):=by omega
  by_cases h2:p.1.size≤255
  ·have i2:(p.1.size:Int)≤255:=by omega
   have hm:gy p=fX p.2:=by
    unfold gy fX;congr 1
    apply propext
    exact ⟨fun h=>h.2.2,fun h=>⟨h1,h2,h⟩⟩
   rw [hm];have HC:=ab (fun W=>Dr p.2 W)
   generalize fX p.2=cb at *;clear hm;go_enter func198,ntmps198;go_wp2_with fail;refine (HC.out _).mono ?_
   rintro e w1 ⟨rfl,rfl⟩;go_wp2;go_ret;exact ⟨rfl,HB.out⟩
  ·have i2:¬ (p.1.size:Int)≤255:=by omega
   have hm:gy p=false:=decide_eq_false (fun h=>h2 h.2.1)
   rw [hm];clear hm;go_enter func198,ntmps198;go_wp2;go_ret;exact ⟨rfl,HB.out⟩
 ·have i1:¬ (1:Int)≤(p.1.size:Int):=by omega
  have hm:gy p=false:=decide_eq_false (fun h=>h1 h.1)
  rw [hm];clear hm;go_enter func198,ntmps198;go_wp2;go_ret;exact ⟨rfl,HB.out⟩
theorem QC(p:Lk)(w:World):Calls prog 197 #[.agg #[.string p.1,.int .i64 p.2]] w fun e w'=>e = .returned (.bool (!gy p))∧Below w.heap.size w w':=by
 have HB:=ab (ai w (.cells #[.string p.1,.int .i64 p.2] 179));have HC:=ab (fun W=>Sn p W)
 generalize gy p=cb at *;go_enter func197,ntmps197;go_wp2_with fail;refine (HC.out _).mono ?_
 rintro e w1 ⟨rfl,aL⟩;have bP:=ab (Below.next HB.out aL);clear aL;go_wp2;go_ret;exact ⟨rfl,bP.out⟩
theorem KR(v:Value)(l:List Lk)(w:World)(hm:l.length≤140737488355328)(hr:di w v l):Calls prog 230 #[v,.func (.func 197) #[] #[]] w fun e w'=>((l.all gy=true∧e = .returned (.int .i64 (-1)))∨(l.all gy=false∧∃ k:Nat,e = .returned (.int .i64 (k:Int))))∧Below w.heap.size w w':=by
 obtain ⟨a,cap,hv⟩:=hr.form;subst hv;obtain ⟨n,hn⟩ : ∃ n,n=l.length:=⟨_,rfl⟩;rw [← hn] at hr hm ⊢;have HR:=ab hr;have HN:=ab hn;obtain ⟨Q,hQ⟩ : ∃ Q:Ending→World→Prop,Q=fun e w'=>((l.all gy=true∧e = .returned (.int .i64 (-1)))∨(l.all gy=false∧∃ k:Nat,e = .returned (.int .i64 (k:Int))))∧Below w.heap.size w w':=⟨_,rfl⟩
 rw [← hQ];have HQ:=ab hQ;clear hn hr hQ;go_enter func230,ntmps230;go_wp2;go_loopw [8] (fun i wr=>∃ k:Nat,k≤n∧i = .int .i64 k∧(∀ j (h:j<l.length),j<k→gy l[j]=true)∧Below w.heap.size w wr) (fun i _=>n - (intOf i).toNat)
 case atStart=>exact ⟨0,aD _,rfl,fun j _ h=>absurd h (im _),Below.refl _ _⟩
 case round =>
  obtain ⟨k,hk,rfl,jg,bO⟩:=hrel;have HP:=ab jg;clear jg;by_cases bN:k<n
  ·have cL:k<l.length:=by have:=HN.out;omega
   obtain ⟨g,o,rfl,c1,c2⟩:=(HR.out.below bO).spot k cL;have HF:=ab (fun W=>QC l[k] W)
   have pI:Hid (gy l[k]=true→∀ j (h:j<l.length),j<k+1→gy l[j]=true):=fun hl j h hj=>by
    by_cases he:j=k
    ·subst he;exact hl
    ·exact HP.out j h (by omega)
   have yD:Hid (gy l[k]=false→l.all gy=false):=fun hl=>by rw [List.all_eq_false];exact ⟨l[k],aG _,by simp [hl]⟩
   obtain ⟨p,hp⟩ : ∃ p,p=l[k]:=⟨_,rfl⟩;rw [← hp] at c1 c2 HF pI yD;have dP:(k:Int)<(n:Int):=by omega
   have j0:(0:Int)≤(k:Int):=by omega
   have HB:=ab bO;clear hp bO;cases hb:gy p with
   | true =>
    rw [hb] at HF;have tF:=ab (pI.out hb);clear pI yD hb;go_wp2_with fail;refine (HF.out _).mono ?_
    rintro e w1 ⟨rfl,aL⟩;have bP:=ab (Below.next HB.out aL);clear aL HB HF c1 c2;go_wp2;go_roundw
    case rel=>exact ⟨k+1,by omega,by go_num,tF.out,bP.out⟩
    case measure=>simp [intOf];omega
   | false =>
    rw [hb] at HF;have H6:=ab (yD.out hb);clear pI yD hb;go_wp2_with fail;refine (HF.out _).mono ?_
    rintro e w1 ⟨rfl,aL⟩;have bP:=ab (Below.next HB.out aL);clear aL HB HF c1 c2;go_wp2;rw [HQ.out];exact ⟨.inr ⟨H6.out,k,rfl⟩,bP.out⟩
  ·have dP:¬ (k:Int)<(n:Int):=by omega
   have H7:Hid (l.all gy=true):=List.all_eq_true.2 (fun p hp=>by
    obtain ⟨i,hi,rfl⟩:=aQ hp;exact HP.out i hi (by have:=HN.out;omega))
   have HB:=ab bO;clear bO HP;go_wp2;rw [HQ.out];exact ⟨.inl ⟨H7.out,rfl⟩,HB.out⟩
theorem Gz(v:Value)(l:List Lk)(w:World)(hm:l.length≤140737488355328)(hr:di w v l):Calls prog 196 #[v,.func (.func 197) #[] #[]] w fun e w'=>e = .returned (.bool (!l.all gy))∧Below w.heap.size w w':=by
 have HI:=ab (KR v l w hm hr);obtain ⟨a,cap,hv⟩:=hr.form;subst hv;clear hr;go_enter func196,ntmps196;go_wp2_with fail;refine HI.out.mono ?_
 rintro e w1 ⟨⟨df,rfl⟩ | ⟨df,k,rfl⟩,aL⟩
 ·have HB:=ab aL;have HA:=ab df;clear aL df HI;go_wp2;go_ret;exact ⟨by rw [HA.out];rfl,HB.out⟩
 ·have HB:=ab aL;have HA:=ab df;have hk:(0:Int)≤(k:Int):=by omega
  clear aL df HI;go_wp2;go_ret;exact ⟨by rw [HA.out];rfl,HB.out⟩
theorem Hl(f:Int)(v:Value)(l:List Lk)(w:World)(hm:l.length≤140737488355328)(hr:di w v l):Calls prog 157 #[.agg #[.int .i64 f,v]] w fun e w'=>e = .returned (.bool (fX f && l.all gy))∧Below w.heap.size w w':=by
 obtain ⟨a,cap,hv⟩:=hr.form;subst hv;have q0:=ai w (.cells #[.int .i64 f,.slice a l.length cap] 150);have x0:=au.new w #[.int .i64 f,.slice a l.length cap] 150;generalize Cc:w.alloc (.cells #[.int .i64 f,.slice a l.length cap] 150)=W0 at *;have p0:=x0.c0;have p1:=x0.c1;have HK:=ab (Gz _ l W0 hm (hr.below q0));have HC:=ab (Dr f W0);have HQ:=ab q0;generalize l.length=n at *;generalize l.all gy=lb at *;clear q0 x0 hr;cases hc:fX f with
 | true =>
  rw [hc] at HC;clear hc;go_enter func157,ntmps157;go_wp2_with fail;refine HC.out.mono ?_
  rintro e w1 ⟨rfl,rfl⟩;go_wp2_with fail;refine HK.out.mono ?_
  rintro e w2 ⟨rfl,aU⟩;have HB:=ab (Below.next HQ.out aU);clear aU HK HC p0 p1;go_wp2;go_ret;exact ⟨by cases lb <;> rfl,HB.out⟩
 | false =>
  rw [hc] at HC;clear hc;go_enter func157,ntmps157;go_wp2_with fail;refine HC.out.mono ?_
  rintro e w1 ⟨rfl,rfl⟩;clear HC HK;go_wp2;go_ret;exact ⟨by cases lb <;> rfl,HQ.out⟩
end B
theorem PT{l:List Pr}{key:ByteArray}(h:bf l key=true):(l[aN l key]'(gw h)).1=key:=by
 have:=pd (gw h);rw [h] at this;exact of_decide_eq_true this.symm
theorem Lr{l:List Pr}{key:ByteArray}(h:bf l key=false)(hl:aN l key<l.length):¬ (l[aN l key]).1=key:=by
 have:=pd hl;rw [h] at this;exact of_decide_eq_false this.symm
theorem Md(l:List Pr)(key:ByteArray):de l key=aN l key+(if bf l key then 1 else 0):=by
 unfold de;split <;> rfl
theorem BP{l:List Pr}{key:ByteArray}(hr:gP l)(j:Nat)(hj:j<l.length)(hb:de l key≤j):cR key l[j].1=true:=by
 have hq:aN l key<l.length:=by have:=eN l key;omega
 cases hf:bf l key with
 | true =>
  have he:=PT hf;have bN:aN l key<j:=by rw [Md,hf] at hb;simp at hb;omega
  have:=hr.lt (aN l key) j hj bN;rw [he] at this;exact this
 | false =>
  have dE:=Lr hf hq;have Bw:=rO l key hq;have bN:cR key (l[aN l key]).1=true:=by
   cases h:cR key (l[aN l key]).1 with
   | true=>rfl
   | false=>exact absurd (ma Bw h) dE
  by_cases he:j=aN l key
  ·subst he;exact bN
  ·have:aN l key<j:=by have:=eN l key;omega
   exact dh bN (hr.lt (aN l key) j hj this)
theorem od(l:List Pr)(key value:ByteArray):(fl l key value).length=aN l key+1+(l.length - de l key):=by
 have:=cD l key;simp only [fl,ae,List.length_cons,ag,ao];omega
theorem RX(l:List Pr)(key value:ByteArray):∃ h:aN l key<(fl l key value).length,(fl l key value)[aN l key]=(key,value):=by
 have hq:=cD l key;refine ⟨by rw [od];omega,?_⟩
 have:(fl l key value)[aN l key]?=some (key,value):=by
  unfold fl;rw [a6 (by rw [ag];omega),ag,show aN l key - min (aN l key) l.length=0 by omega]
  rfl
 rw [af (by rw [od];omega)] at this
 exact Option.some.inj this
theorem FO(l:List Pr)(key value:ByteArray)(j:Nat)(hj:j<aN l key)(h:j<(fl l key value).length):cR ((fl l key value)[j]).1 key=true:=by
 have hq:=cD l key;have:(fl l key value)[j]?=some (l[j]'(by omega)):=by
  unfold fl;rw [bA (by rw [ag];omega),cH,if_pos hj,af]
 rw [af h] at this;rw [Option.some.inj this];exact lF l key j hj (by omega)
theorem ND{l:List Pr}{key value:ByteArray}(hr:gP l):gP (fl l key value):=by
 obtain ⟨rG,he⟩:=RX l key value;have hq:=cD l key;have Xv:=od l key value;intro i hi;have get:∀ j (hj:j<(fl l key value).length),aN l key<j→∃ hb:de l key+(j - (aN l key+1))<l.length,(fl l key value)[j]=l[de l key+(j - (aN l key+1))]:=fun j hj bN=>by
  have hb:de l key+(j - (aN l key+1))<l.length:=by omega
  refine ⟨hb,?_⟩;have:(fl l key value)[j]?=some l[de l key+(j - (aN l key+1))]:=by
   unfold fl;rw [a6 (by rw [ag];omega),ag,show min (aN l key) l.length=aN l key by omega,show j - aN l key=(j - (aN l key+1))+1 by omega,List.getElem?_cons_succ,dk,af]
  rw [af hj] at this;exact Option.some.inj this
 rcases Nat.lt_trichotomy (i+1) (aN l key) with h | h | h
 ·have g:∀ j (hj:j<aN l key) (ZA:j<(fl l key value).length),(fl l key value)[j]=l[j]'(by omega):=fun j hj ZA=>by
   have:(fl l key value)[j]?=some (l[j]'(by omega)):=by
    unfold fl;rw [bA (by rw [ag];omega),cH,if_pos hj,af]
   rw [af ZA] at this;exact Option.some.inj this
  rw [g i (by omega) (by omega),g (i+1) h hi]
  exact hr i (by omega)
 ·have h2:=FO l key value i (by omega) (by omega)
  have:((fl l key value)[i+1]).1=key:=by simp only [h,he]
  rw [this];exact h2
 ·by_cases uS:i=aN l key
  ·have:((fl l key value)[i]).1=key:=by simp only [uS,he]
   obtain ⟨hb,hg⟩:=get (i+1) hi h;rw [this,hg];exact BP hr _ hb (by omega)
  ·obtain ⟨aL,fG⟩:=get i (by omega) (by omega)
   obtain ⟨aU,yZ⟩:=get (i+1) hi h;rw [fG,yZ];exact hr.lt _ _ aU (by omega)
theorem Ui{a b c:ByteArray}(h1:cR b a=false)(h2:cR b c=true):cR a c=true:=by
 cases h:cR a b
 ·rw [ma h h1];exact h2
 ·exact dh h h2
theorem Dt{a b c:ByteArray}(h1:cR a b=true)(h2:cR c b=false):cR a c=true:=by
 cases h:cR b c
 ·rw [← ma h h2];exact h1
 ·exact dh h1 h
def geB(lo:Option ByteArray)(k:ByteArray):Prop:=∀ l,lo=some l→cR k l=false
def ltB(k:ByteArray)(hi:Option ByteArray):Prop:=∀ u,hi=some u→cR k u=true
def In(lo hi:Option ByteArray)(k:ByteArray):Prop:=geB lo k∧ltB k hi
def cQ(k:ByteArray):Prop:=1≤k.size∧k.size≤255
theorem I4(k:ByteArray):In none none k:=⟨(fun _ h=>nomatch h),(fun _ h=>nomatch h)⟩
def gtB(lo:Option ByteArray)(k:ByteArray):Prop:=∀ l,lo=some l→cR l k=true
def QG(lo hi:Option ByteArray)(k:ByteArray):Prop:=gtB lo k∧ltB k hi
def Nd:Nat→Type
 | 0=>Nat × List Pr
 | h+1=>Nat × List ByteArray × List (Nd h)
def flat:(h:Nat)→Nd h→List Pr
 | 0,t=>t.2
 | h+1,t=>t.2.2.flatMap (flat h)
def fB(ks:List ByteArray):Nat:=6+(ks.map fun k=>7+k.size).sum
def np:(h:Nat)→Nd h→Nat
 | 0,t=>fR t.2
 | _+1,t=>fB t.2.1
def wZ:Nat→Nat
 | 0=>1556
 | _+1=>1777
def Full(h:Nat)(t:Nd h):Prop:=wZ h≤np h t∧np h t≤4072
def gR{α:Type}(P:α→Option ByteArray→Option ByteArray→Prop):Option ByteArray→Option ByteArray→List ByteArray→List α→Prop
 | lo,hi,[],[c]=>P c lo hi
 | lo,hi,k::ks,c::cs=>QG lo hi k∧cQ k∧P c lo (some k)∧gR P (some k) hi ks cs
 | _,_,_,_=>False
def Ok:(h:Nat)→Nd h→Option ByteArray→Option ByteArray→Prop
 | 0,t,lo,hi=>gP t.2∧∀ p ∈ t.2,cO p=true∧In lo hi p.1
 | h+1,t,lo,hi=>gR (fun c lo hi=>Ok h c lo hi∧Full h c) lo hi t.2.1 t.2.2
def kO(h:Nat)(c:Nd h)(lo hi:Option ByteArray):Prop:=Ok h c lo hi∧Full h c
theorem fu(h:Nat)(t:Nd (h+1))(lo hi:Option ByteArray):Ok (h+1) t lo hi↔gR (kO h) lo hi t.2.1 t.2.2:=Iff.rfl
section lists
variable {α:Type} {P:α→Option ByteArray→Option ByteArray→Prop}
def tC(P:α→Option ByteArray→Option ByteArray→Prop):Option ByteArray→Option ByteArray→List ByteArray→List α→Prop
 | _,_,[],[]=>True
 | lo,hi,k::ks,c::cs=>QG lo hi k∧cQ k∧P c lo (some k)∧tC P (some k) hi ks cs
 | _,_,_,_=>False
def iV(lo:Option ByteArray):List ByteArray→Option ByteArray
 | []=>lo
 | k::ks=>iV (some k) ks
theorem oU{A B:List ByteArray}{C1 C2:List α}{c:α}:∀ {lo hi:Option ByteArray},A.length=C1.length→(gR P lo hi (A++B) (C1++c::C2)↔tC P lo hi A C1∧gR P (iV lo A) hi B (c::C2)):=by
 induction A generalizing C1 with
 | nil =>
  intro lo hi hl;have:C1=[]:=List.length_eq_zero_iff.1 hl.symm;subst this;simp [tC,iV]
 | cons k A ih =>
  intro lo hi hl;cases C1 with
  | nil=>simp at hl
  | cons c1 C1 =>
   have SY:A.length=C1.length:=by simpa using hl
   have:=ih (C1:=C1) (lo:=some k) (hi:=hi) SY;simp only [List.cons_append,gR,tC,iV,this,and_assoc]
theorem jO:∀ {lo hi:Option ByteArray} {ks:List ByteArray} {cs:List α},gR P lo hi ks cs→cs.length=ks.length+1
 | _,_,[],[_],_=>rfl
 | _,_,[],[],h=>by simp [gR] at h
 | _,_,[],_::_::_,h=>by simp [gR] at h
 | _,_,_::_,[],h=>by simp [gR] at h
 | _,_,k::ks,c::cs,h=>by
  have:=jO h.2.2.2;simp only [List.length_cons];omega
theorem Dp(lo:Option ByteArray)(A:List ByteArray)(k:ByteArray):iV lo (A++[k])=some k:=by
 induction A generalizing lo with
 | nil=>rfl
 | cons a A ih=>exact ih (some a)
def py(hi:Option ByteArray):List ByteArray→Option ByteArray
 | []=>hi
 | k::_=>some k
theorem rl{lo hi:Option ByteArray}{B:List ByteArray}{c:α}{C2:List α}(h:gR P lo hi B (c::C2)):P c lo (py hi B):=by
 cases B with
 | nil=>cases C2 with
  | nil=>exact h
  | cons _ _=>simp [gR] at h
 | cons k B=>exact h.2.2.1
theorem N9{lo hi:Option ByteArray}{B:List ByteArray}{c d:α}{C2:List α}(h:gR P lo hi B (c::C2))(hd:P d lo (py hi B)):gR P lo hi B (d::C2):=by
 cases B with
 | nil=>cases C2 with
  | nil=>exact hd
  | cons _ _=>simp [gR] at h
 | cons k B=>exact ⟨h.1,h.2.1,hd,h.2.2.2⟩
theorem Si{lo hi:Option ByteArray}{B:List ByteArray}{c a b:α}{k:ByteArray}{C2:List α}(h:gR P lo hi B (c::C2))(hk:QG lo (py hi B) k)(hm:cQ k)(ha:P a lo (some k))(hb:P b (some k) (py hi B)):gR P lo hi (k::B) (a::b::C2):=by
 have hkh:QG lo hi k:=by
  refine ⟨hk.1,?_⟩;cases B with
  | nil=>exact hk.2
  | cons kb B=>exact fun u hu=>dh (hk.2 kb rfl) (h.1.2 u hu)
 refine ⟨hkh,hm,ha,?_⟩;cases B with
 | nil=>cases C2 with
  | nil=>exact hb
  | cons _ _=>simp [gR] at h
 | cons kb B=>exact ⟨⟨fun l hl=>by cases hl;exact hk.2 kb rfl,h.1.2⟩,h.2.1,hb,h.2.2.2⟩
theorem IU{lo hi:Option ByteArray}{B:List ByteArray}{a b c:α}{k:ByteArray}{C2:List α}(h:gR P lo hi (k::B) (a::b::C2))(hc:P c lo (py hi B)):gR P lo hi B (c::C2):=by
 have h2:=h.2.2.2;cases B with
 | nil=>cases C2 with
  | nil=>exact hc
  | cons _ _=>simp [gR] at h2
 | cons kb B=>exact ⟨⟨fun l hl=>dh (h.1.1 l hl) (h2.1.1 k rfl),h2.1.2⟩,h2.2.1,hc,h2.2.2.2⟩
theorem Di{lo hi:Option ByteArray}{A B:List ByteArray}{k:ByteArray}:∀ {C1 C2:List α},A.length+1=C1.length→(gR P lo hi (A++k::B) (C1++C2)↔QG lo hi k∧cQ k∧gR P lo (some k) A C1∧gR P (some k) hi B C2):=by
 induction A generalizing lo with
 | nil =>
  intro C1 C2 hl;match C1,hl with
  | [c],_=>simp [gR]
 | cons a A ih =>
  intro C1 C2 hl;cases C1 with
  | nil=>simp at hl
  | cons c C1 =>
   have SY:A.length+1=C1.length:=by simpa using hl
   have:=ih (lo:=some a) (C1:=C1) (C2:=C2) SY;simp only [List.cons_append,gR,this];constructor
   ·rintro ⟨h1,h2,h3,h4,h5,h6,h7⟩;exact ⟨⟨fun l hl=>dh (h1.1 l hl) (h4.1 a rfl),h4.2⟩,h5,⟨⟨h1.1,fun u hu=>by cases hu;exact h4.1 a rfl⟩,h2,h3,h6⟩,h7⟩
   ·rintro ⟨h1,h2,⟨h3,h4,h5,h6⟩,h7⟩;exact ⟨⟨h3.1,fun u hu=>dh (h3.2 k rfl) (h1.2 u hu)⟩,h4,h5,⟨fun l hl=>by cases hl;exact h3.2 k rfl,h1.2⟩,h2,h6,h7⟩
end lists
theorem wV{α:Type}{P:α→Option ByteArray→Option ByteArray→Prop}{F:α→List Pr}(hP:∀ c lo hi,P c lo hi→∀ p ∈ F c,In lo hi p.1):∀ {lo hi:Option ByteArray} {ks:List ByteArray} {cs:List α},gR P lo hi ks cs→∀ p ∈ cs.flatMap F,In lo hi p.1
 | lo,hi,[],[c],h,p,hp=>by
  simp only [List.flatMap_cons,List.flatMap_nil,List.append_nil] at hp;exact hP c lo hi h p hp
 | _,_,[],[],h,_,_=>by simp [gR] at h
 | _,_,[],_::_::_,h,_,_=>by simp [gR] at h
 | _,_,_::_,[],h,_,_=>by simp [gR] at h
 | lo,hi,k::ks,c::cs,h,p,hp=>by
  simp only [List.flatMap_cons,cu] at hp;rcases hp with hp | hp
  ·have h1:=hP c lo (some k) h.2.2.1 p hp;exact ⟨h1.1,fun u hu=>dh (h1.2 k rfl) (h.1.2 u hu)⟩
  ·have h1:=wV hP h.2.2.2 p hp;exact ⟨fun l hl=>mc (Dt (h.1.1 l hl) (h1.1 k rfl)),h1.2⟩
theorem pN:∀ (h:Nat) {t:Nd h} {lo hi:Option ByteArray},Ok h t lo hi→∀ p ∈ flat h t,In lo hi p.1
 | 0,_,_,_,hk,p,hp=>(hk.2 p hp).2
 | h+1,_,_,_,hk,p,hp=>wV (P:=kO h) (F:=flat h) (fun _ _ _ hc=>pN h hc.1) hk p hp
theorem ri{α:Type}{P:α→Option ByteArray→Option ByteArray→Prop}{F:α→List Pr}(hP:∀ c lo hi,P c lo hi→∀ p ∈ F c,In lo hi p.1){hi:Option ByteArray}{key:ByteArray}:∀ {lo:Option ByteArray} {A:List ByteArray} {C1:List α},tC P lo hi A C1→(∀ k ∈ A,cR key k=false)→∀ p ∈ C1.flatMap F,cR p.1 key=true
 | _,[],[],_,_,p,hp=>by simp at hp
 | _,[],_::_,h,_,_,_=>by simp [tC] at h
 | _,_::_,[],h,_,_,_=>by simp [tC] at h
 | lo,k::A,c::C1,h,hA,p,hp=>by
  simp only [List.flatMap_cons,cu] at hp;rcases hp with hp | hp
  ·have h1:=hP c lo (some k) h.2.2.1 p hp;exact Dt (h1.2 k rfl) (hA k dj)
  ·exact ri hP h.2.2.2 (fun k hk=>hA k (dQ _ hk)) p hp
theorem tp{α:Type}{P:α→Option ByteArray→Option ByteArray→Prop}{F:α→List Pr}(hP:∀ c lo hi,P c lo hi→∀ p ∈ F c,In lo hi p.1){lo hi:Option ByteArray}{key:ByteArray}{B:List ByteArray}{c:α}{C2:List α}(h:gR P lo hi B (c::C2))(hB:∀ k,B.head?=some k→cR key k=true):∀ p ∈ C2.flatMap F,cR key p.1=true:=by
 cases B with
 | nil=>cases C2 with
  | nil=>intro p hp;simp at hp
  | cons _ _=>simp [gR] at h
 | cons k B =>
  intro p hp;have h1:=wV hP h.2.2.2 p hp;exact Dt (hB k rfl) (h1.1 k rfl)
theorem tP{a b:List Pr}(ha:gP a)(hb:gP b)(Cb:∀ p ∈ a,∀ q ∈ b,cR p.1 q.1=true):gP (a++b):=fun i hi=>by
 rw [ae] at hi;by_cases h1:i+1<a.length
 ·rw [aI (by omega),aI h1];exact ha i h1
 ·by_cases h2:i<a.length
  ·rw [aI h2,bo (by omega)]
   exact Cb _ (aG _) _ (aG _)
  ·rw [bo (by omega),bo (by omega)]
   simp only [show i+1 - a.length=i - a.length+1 by omega]
   exact hb (i - a.length) (by omega)
theorem qd{a b:List Pr}(h:gP (a++b)):gP a∧gP b∧∀ p ∈ a,∀ q ∈ b,cR p.1 q.1=true:=by
 refine ⟨?_,?_,fun p hp q hq=>?_⟩
 ·have:=h.take a.length;rwa [ee] at this
 ·have:=h.drop a.length;rwa [fF] at this
 ·obtain ⟨i,hi,rfl⟩:=aQ hp;obtain ⟨j,hj,rfl⟩:=aQ hq;have:=h.lt i (a.length+j) (by rw [ae];omega) (by omega)
  rw [aI hi,bo (by omega)] at this
  simpa using this
def jd:(h:Nat)→Nd h→ByteArray→Nd h→Nd h
 | 0,a,_,b=>(0,a.2++b.2)
 | _+1,a,k,b=>(0,a.2.1++k::b.2.1,a.2.2++b.2.2)
theorem Ax(h:Nat)(a b:Nd h)(k:ByteArray):flat h (jd h a k b)=flat h a++flat h b:=by
 cases h with
 | zero=>rfl
 | succ h=>simp [flat,jd]
theorem IS{h:Nat}{a b:Nd h}{k:ByteArray}{lo hi:Option ByteArray}(ha:Ok h a lo (some k))(hb:Ok h b (some k) hi)(hk:QG lo hi k)(hm:cQ k):Ok h (jd h a k b) lo hi:=by
 cases h with
 | zero =>
  refine ⟨tP ha.1 hb.1 (fun p hp q hq=>Dt ((ha.2 p hp).2.2 k rfl) ((hb.2 q hq).2.1 k rfl)),fun p hp=>?_⟩
  rcases List.mem_append.1 hp with h | h
  ·have h1:=ha.2 p h;exact ⟨h1.1,h1.2.1,fun u hu=>dh (h1.2.2 k rfl) (hk.2 u hu)⟩
  ·have h1:=hb.2 p h;exact ⟨h1.1,fun l hl=>mc (Dt (hk.1 l hl) (h1.2.1 k rfl)),h1.2.2⟩
 | succ h =>
  exact (Di (jO ha).symm).2 ⟨hk,hm,ha,hb⟩
theorem fM(a b:List ByteArray):fB (a++b)+6=fB a+fB b:=by simp [fB];omega
theorem iK(k:ByteArray)(b:List ByteArray):fB (k::b)=7+k.size+fB b:=by simp [fB];omega
theorem RN{h:Nat}(a b:Nd h)(k:ByteArray):np h a+np h b≤np h (jd h a k b)∧np h (jd h a k b)≤np h a+np h b+(if h=0 then 0 else 7+k.size):=by
 cases h with
 | zero=>simp [np,jd,iB]
 | succ h =>
  have h1:=fM a.2.1 (k::b.2.1);have h2:=iK k b.2.1;simp only [np,jd];simp
  omega
def nE(l:List Pr):List Int:=l.map fun p=>(zD p:Int)
def iJ(ks:List ByteArray):List Int:=ks.map fun k=>((7+k.size:Nat):Int)
def abd:(h:Nat)→Nd h→Nat→Prop
 | 0,t,i=>dm (ji (nE t.2)) ((nE t.2).length - 1) i
 | _+1,t,i=>dm (jh (iJ t.2.1)) ((iJ t.2.1).length - 2) i
def abc:(h:Nat)→Nd h→Nat→Nd h→ByteArray→Nd h→Prop
 | 0,t,i,a,k,b=>a=(0,t.2.take i)∧b=(0,t.2.drop i)∧∃ v,t.2[i]?=some (k,v)
 | _+1,t,i,a,k,b=>a=(0,t.2.1.take i,t.2.2.take (i+1))∧b=(0,t.2.1.drop (i+1),t.2.2.drop (i+1))∧t.2.1[i]?=some k
def Cut(h:Nat)(t a:Nd h)(k:ByteArray)(b:Nd h):Prop:=∃ i,abd h t i∧abc h t i a k b
def yO:Nat→Nat
 | 0=>5627
 | _+1=>7884
theorem CZ(l:List Pr)(i:Nat):pre (nE l) i=(fR (l.take i):Int):=by
 unfold pre nE fR;rw [← jZ];induction l.take i with
 | nil=>rfl
 | cons p r ih=>simp only [List.map_cons,qH,ih];omega
theorem sK(l:List ByteArray)(i:Nat):6+pre (iJ l) i=(fB (l.take i):Int):=by
 unfold pre iJ fB;rw [← jZ];induction l.take i with
 | nil=>rfl
 | cons p r ih=>simp only [List.map_cons,qH];omega
theorem ve{l:List Pr}(h:∀ p ∈ l,cO p=true):fR l≤960*l.length:=by
 induction l with
 | nil=>simp [fR]
 | cons p l ih =>
  have a:=ih fun q hq=>h q (dQ _ hq)
  have b:=eL (h p dj);rw [nV,List.length_cons];unfold zD;omega
theorem CA{l:List ByteArray}(h:∀ k ∈ l,cQ k):fB l≤262*l.length+6:=by
 induction l with
 | nil=>simp [fB]
 | cons p l ih =>
  have a:=ih fun q hq=>h q (dQ _ hq)
  have b:=(h p dj).2;rw [iK,List.length_cons];omega
theorem wU{α:Type}{P:α→Option ByteArray→Option ByteArray→Prop}:∀ {lo hi:Option ByteArray} {ks:List ByteArray} {cs:List α},gR P lo hi ks cs→∀ k ∈ ks,cQ k
 | _,_,[],_,_,_,hk=>by simp at hk
 | _,_,_::_,[],h,_,_=>by simp [gR] at h
 | _,_,k1::ks,c::cs,h,k,hk=>by
  rcases List.mem_cons.1 hk with rfl | hk
  ·exact h.2.1
  ·exact wU h.2.2.2 k hk
theorem P8{h:Nat}{t a b:Nd h}{k:ByteArray}{lo hi:Option ByteArray}(ho:Ok h t lo hi)(hc:Cut h t a k b)(h1:4072<np h t)(h2:np h t≤yO h):kO h a lo (some k)∧kO h b (some k) hi∧QG lo hi k∧cQ k∧flat h a++flat h b=flat h t:=by
 obtain ⟨i,hb,hc⟩:=hc;cases h with
 | zero =>
  obtain ⟨rfl,rfl,v,hv⟩:=hc;have sZ:∀ p ∈ t.2,cO p=true:=fun p hp=>(ho.2 p hp).1
  have hlen:=ve sZ;have h1:4072<fR t.2:=h1;have h2:fR t.2≤5627:=h2;have qq:(nE t.2).length=t.2.length:=by simp [nE]
  have Pp:∀ j (hj:j<(nE t.2).length),1≤(nE t.2)[j]∧(nE t.2)[j]≤960:=fun j hj=>by
   have lL:j<t.2.length:=by rw [← qq];exact hj
   have:=eL (sZ t.2[j] (aG lL));simp only [nE,bZ];unfold zD;omega
  have By:=P9 (m:=960) (fun j hj=>by have:=Pp j hj;omega) (by rw [qq];omega) (fun j hj=>(Pp j hj).2) hb
  have K8:=hb.1;rw [qq] at K8;unfold ji at By;rw [qq,CZ,CZ,List.take_length] at By;have KV:fR t.2=fR (t.2.take i)+fR (t.2.drop i):=by rw [← iB,aH]
  obtain ⟨mh,Xl⟩:=List.getElem?_eq_some_iff.1 hv;have sY:=qd (a:=t.2.take i) (b:=t.2.drop i) (by rw [aH];exact ho.1)
  have gM:(k,v) ∈ t.2.drop i:=by
   rw [aZ mh,Xl];exact dj
  have hkt:(k,v) ∈ t.2:=bG gM;have V8:0<(t.2.take i).length:=by rw [ag];omega
  have Xr:(t.2.take i)[0] ∈ t.2.take i:=aG V8;have Bt:=(ho.2 _ (bF Xr)).2;refine ⟨⟨⟨sY.1,fun p hp=>⟨sZ p (bF hp),(ho.2 p (bF hp)).2.1,fun u hu=>?_⟩⟩,?_⟩,⟨⟨sY.2.1,fun p hp=>⟨sZ p (bG hp),fun l hl=>?_,(ho.2 p (bG hp)).2.2⟩⟩,?_⟩,⟨fun l hl=>?_,(ho.2 _ hkt).2.2⟩,?_,?_⟩
  ·cases hu;exact sY.2.2 p hp _ gM
  ·show 1556≤fR (t.2.take i)∧fR (t.2.take i)≤4072
   omega
  ·cases hl;rw [aZ mh,Xl] at hp sY;rcases List.mem_cons.1 hp with rfl | hp
   ·exact mR _
   ·have:=(qd (a:=[(k,v)]) (b:=t.2.drop (i+1)) sY.2.1).2.2 _ dj p hp;exact mc this
  ·show 1556≤fR (t.2.drop i)∧fR (t.2.drop i)≤4072
   omega
  ·exact Ui (Bt.1 l hl) (sY.2.2 _ Xr _ gM)
  ·have:=eL (sZ _ hkt);exact ⟨this.1,this.2.1⟩
  ·exact aH i t.2
 | succ h =>
  obtain ⟨rfl,rfl,hki⟩:=hc;have Pg:=wU ho;have hlen:=CA Pg;have qN:=jO ho;have h1:4072<fB t.2.1:=h1;have h2:fB t.2.1≤7884:=h2;have qq:(iJ t.2.1).length=t.2.1.length:=by simp [iJ]
  have Pp:∀ j (hj:j<(iJ t.2.1).length),8≤(iJ t.2.1)[j]∧(iJ t.2.1)[j]≤262:=fun j hj=>by
   have lL:j<t.2.1.length:=by rw [← qq];exact hj
   have:=Pg t.2.1[j] (aG lL);simp only [iJ,bZ];unfold cQ at this;omega
  have By:=F5 (m:=262) (fun j hj=>by have:=Pp j hj;omega) (by rw [qq];omega) (fun j hj=>(Pp j hj).2) hb
  have K8:=hb.1;rw [qq] at K8;obtain ⟨mh,Xl⟩:=List.getElem?_eq_some_iff.1 hki;have e1:=sK t.2.1 i;have e2:=sK t.2.1 (i+1);have e3:=sK t.2.1 t.2.1.length;rw [List.take_length] at e3;have OY:t.2.1=t.2.1.take i++k::t.2.1.drop (i+1):=by rw [← Xl,← aZ mh,aH]
  have e4:=fM (t.2.1.take i) (k::t.2.1.drop (i+1));have e5:=iK k (t.2.1.drop (i+1));rw [← OY] at e4;have e6:fB (t.2.1.take (i+1))=fB (t.2.1.take i)+(7+k.size):=by
   have:=fM (t.2.1.take i) [k];rw [ay mh,Xl];have e7:=iK k [];have e8:fB []=6:=rfl;omega
  have K5:=Pg k (by rw [← Xl];exact aG mh)
  have ac2:=K5;unfold cQ at ac2;unfold jh at By;rw [qq] at By;have df:gR (kO h) lo hi (t.2.1.take i++k::t.2.1.drop (i+1)) (t.2.2.take (i+1)++t.2.2.drop (i+1)):=by
   rw [← OY,aH];exact ho
  obtain ⟨g1,g2,g3,g4⟩:=(Di (by rw [ag,ag];omega)).1 df
  refine ⟨⟨g3,?_⟩,⟨g4,?_⟩,g1,g2,?_⟩
  ·show 1777≤fB (t.2.1.take i)∧fB (t.2.1.take i)≤4072
   omega
  ·show 1777≤fB (t.2.1.drop (i+1))∧fB (t.2.1.drop (i+1))≤4072
   omega
  ·show (t.2.2.take (i+1)).flatMap (flat h)++(t.2.2.drop (i+1)).flatMap (flat h)=t.2.2.flatMap (flat h)
   rw [← aR,aH]
def Ma(h:Nat)(t:Nd h):Prop:=4072<np h t
def small(h:Nat)(t:Nd h):Prop:=np h t<wZ h
def Hn(h:Nat)(A B:List ByteArray)(C1:List (Nd h))(x:Nd h)(C2:List (Nd h))(ks:List ByteArray)(cs:List (Nd h)):Prop :=
 (¬ Ma h x∧ks=A++B∧cs=C1++x::C2)∨(Ma h x∧∃ a k b,Cut h x a k b∧ks=A++k::B∧cs=C1++a::b::C2)
def BU(h:Nat)(A B:List ByteArray)(C1:List (Nd h))(x:Nd h)(C2:List (Nd h))(ks:List ByteArray)(cs:List (Nd h)):Prop :=
 (¬ small h x∧Hn h A B C1 x C2 ks cs) ∨
 (small h x∧A=[]∧C1=[]∧∃ k B' b C2',B=k::B'∧C2=b::C2'∧Hn h [] B' [] (jd h x k b) C2' ks cs) ∨
 (small h x∧∃ A' k C1' a,A=A'++[k]∧C1=C1'++[a]∧Hn h A' B C1' (jd h a k x) C2 ks cs)
def XF(key:ByteArray)(f:List Pr→List Pr):(h:Nat)→Nd h→Nd h→Prop
 | 0,t,t'=>t'=(0,f t.2)
 | h+1,t,t'=>∃ A B C1 c C2,t.2.1=A++B∧t.2.2=C1++c::C2∧A.length=C1.length∧(∀ k ∈ A,cR key k=false)∧(∀ k,B.head?=some k→cR key k=true)∧∃ c' ks cs,XF key f h c c'∧BU h A B C1 c' C2 ks cs∧t'=(0,ks,cs)
structure Fit(key:ByteArray)(f:List Pr→List Pr):Prop where
 loc:∀ X Y Z:List Pr,(∀ p ∈ X,cR p.1 key=true)→(∀ p ∈ Z,cR key p.1=true)→f (X++(Y++Z))=X++(f Y++Z)
 rise:∀ l,gP l→gP (f l)
 mem:∀ l p,p ∈ f l→p ∈ l∨(p.1=key∧cO p=true)
 size:∀ l,fR (f l)≤fR l+960
def zJ:Nat→Nat
 | 0=>960
 | _+1=>262
theorem td{h:Nat}{A B ks:List ByteArray}{C1 C2 cs:List (Nd h)}{x:Nd h}{lo hi:Option ByteArray}(hw:Hn h A B C1 x C2 ks cs)(hp:tC (kO h) lo hi A C1)(hx:Ok h x (iV lo A) (py hi B))(hc:∀ d,kO h d (iV lo A) (py hi B)→gR (kO h) (iV lo A) hi B (d::C2))(hl:A.length=C1.length)(hs:¬ small h x)(acT:np h x≤yO h)(h2:∀ a b k,QG (iV lo A) (py hi B) k→cQ k→kO h a (iV lo A) (some k)→kO h b (some k) (py hi B)→gR (kO h) (iV lo A) hi (k::B) (a::b::C2)):gR (kO h) lo hi ks cs∧cs.flatMap (flat h)=C1.flatMap (flat h)++(flat h x++C2.flatMap (flat h))∧fB ks≤fB (A++B)+262:=by
 rcases hw with ⟨hb,rfl,rfl⟩ | ⟨hb,a,k,b,hcut,rfl,rfl⟩
 ·refine ⟨(oU hl).2 ⟨hp,hc x ⟨hx,?_⟩⟩,by simp,by omega⟩
  unfold small at hs;unfold Ma at hb;exact ⟨by omega,by omega⟩
 ·obtain ⟨g1,g2,g3,g4,g5⟩:=P8 hx hcut hb acT;refine ⟨(oU hl).2 ⟨hp,h2 a b k g3 g4 g1 g2⟩,by simp [← g5],?_⟩
  have e1:=fM A (k::B);have e2:=fM A B;have e3:=iK k B;unfold cQ at g4;omega
theorem zQ{α:Type}{P:α→Option ByteArray→Option ByteArray→Prop}{hi:Option ByteArray}{k:ByteArray}{a:α}:∀ {lo:Option ByteArray} {A:List ByteArray} {C1:List α},A.length=C1.length→(tC P lo hi (A++[k]) (C1++[a])↔tC P lo hi A C1∧QG (iV lo A) hi k∧cQ k∧P a (iV lo A) (some k))
 | lo,[],[],_=>by simp [tC,iV]
 | _,[],_::_,h=>by simp at h
 | _,_::_,[],h=>by simp at h
 | lo,k1::A,c1::C1,h=>by
  have:=zQ (P:=P) (hi:=hi) (k:=k) (a:=a) (lo:=some k1) (A:=A) (C1:=C1) (by simpa using h)
  simp only [List.cons_append,tC,iV,this,and_assoc]
theorem Dh{α:Type}{P:α→Option ByteArray→Option ByteArray→Prop}{lo hi:Option ByteArray}{B:List ByteArray}{a b a' b':α}{k k':ByteArray}{C2:List α}(h:gR P lo hi (k::B) (a::b::C2))(hk:QG lo (py hi B) k')(hm:cQ k')(ha:P a' lo (some k'))(hb:P b' (some k') (py hi B)):gR P lo hi (k'::B) (a'::b'::C2):=by
 have h2:=h.2.2.2;cases B with
 | nil=>cases C2 with
  | nil=>exact ⟨hk,hm,ha,hb⟩
  | cons _ _=>simp [gR] at h2
 | cons kb B=>exact ⟨⟨hk.1,fun u hu=>dh (hk.2 kb rfl) (h2.1.2 u hu)⟩,hm,ha,⟨⟨fun l hl=>by cases hl;exact hk.2 kb rfl,h2.1.2⟩,h2.2.1,hb,h2.2.2.2⟩⟩
theorem IT{α:Type}{P:α→Option ByteArray→Option ByteArray→Prop}{lo hi:Option ByteArray}{B:List ByteArray}{a b:α}{k:ByteArray}{C2:List α}(h:gR P lo hi (k::B) (a::b::C2)):QG lo (py hi B) k:=by
 refine ⟨h.1.1,?_⟩;cases B with
 | nil=>exact h.1.2
 | cons kb B=>exact fun u hu=>by cases hu;exact h.2.2.2.1.1 k rfl
theorem xu{h:Nat}{a b:Nd h}{k:ByteArray}(hk:cQ k)(Cb:small h a∧Full h b∨Full h a∧small h b):¬ small h (jd h a k b)∧np h (jd h a k b)≤yO h:=by
 have h1:=RN a b k;unfold small Full at *;unfold cQ at hk;cases h with
 | zero=>simp only [wZ,yO,if_true] at *;omega
 | succ h=>simp only [wZ,yO,Nat.succ_ne_zero,if_false] at *;omega
theorem J8{h:Nat}{A B ks:List ByteArray}{C1 C2 cs:List (Nd h)}{c x:Nd h}{lo hi:Option ByteArray}(fj:BU h A B C1 x C2 ks cs)(hp:tC (kO h) lo hi A C1)(hc:gR (kO h) (iV lo A) hi B (c::C2))(hx:Ok h x (iV lo A) (py hi B))(hl:A.length=C1.length)(b7:np h x≤4072+zJ h):gR (kO h) lo hi ks cs∧cs.flatMap (flat h)=C1.flatMap (flat h)++(flat h x++C2.flatMap (flat h))∧fB ks≤fB (A++B)+262:=by
 have Uy:4072+zJ h≤yO h:=by cases h <;> simp [zJ,yO]
 rcases fj with ⟨hs,hw⟩ | ⟨hs,rfl,rfl,k,B',b,C2',rfl,rfl,hw⟩ | ⟨hs,A',k,C1',a,rfl,rfl,hw⟩
 ·exact td hw hp hx (fun d hd=>N9 hc hd) hl hs (by omega) (fun a b k h1 h2 h3 h4=>Si hc h1 h2 h3 h4)
 ·have ub:gR (kO h) lo hi (k::B') (c::b::C2'):=hc;have hb:=rl ub.2.2.2;have hxb:Ok h x lo (some k):=hx;have hj:Ok h (jd h x k b) lo (py hi B'):=IS hxb hb.1 (IT ub) ub.2.1;have xA:=xu (a:=x) (b:=b) ub.2.1 (.inl ⟨hs,hb.2⟩);have:=td (lo:=lo) (hi:=hi) hw trivial hj (fun d hd=>IU ub hd) rfl xA.1 xA.2 (fun a' b' k' h1 h2 h3 h4=>Dh ub h1 h2 h3 h4)
  refine ⟨this.1,by rw [this.2.1,Ax];simp,?_⟩
  have e1:=iK k B';have:=this.2.2;simp only [List.nil_append] at this ⊢;omega
 ·have SY:A'.length=C1'.length:=by simpa using hl
  rw [Dp] at hc hx;obtain ⟨GM,hk,hm,ha⟩:=(zQ SY).1 hp;have ub:gR (kO h) (iV lo A') hi (k::B) (a::c::C2):=⟨hk,hm,ha,hc⟩;have hj:Ok h (jd h a k x) (iV lo A') (py hi B):=IS ha.1 hx (IT ub) hm;have xA:=xu (a:=a) (b:=x) hm (.inr ⟨ha.2,hs⟩);have:=td (lo:=lo) (hi:=hi) hw GM hj (fun d hd=>IU ub hd) SY xA.1 xA.2 (fun a' b' k' h1 h2 h3 h4=>Dh ub h1 h2 h3 h4)
  refine ⟨this.1,by rw [this.2.1,Ax];simp,?_⟩
  have e1:=fM A' B;have e2:=fM (A'++[k]) B;have e3:=fM A' [k];have:=this.2.2;have e4:=iK k [];have e5:fB []=6:=rfl;omega
theorem VF{lo hi:Option ByteArray}{A:List ByteArray}{key:ByteArray}(h:In lo hi key)(hA:∀ k ∈ A,cR key k=false):geB (iV lo A) key:=by
 induction A generalizing lo with
 | nil=>exact h.1
 | cons k A ih=>exact ih (lo:=some k) ⟨fun l hl=>by cases hl;exact hA k dj,h.2⟩ (fun k' Rm=>hA k' (dQ _ Rm))
theorem M5{key:ByteArray}{f:List Pr→List Pr}(hf:Fit key f):∀ (h:Nat) {t t':Nd h} {lo hi:Option ByteArray},Ok h t lo hi→In lo hi key→XF key f h t t'→Ok h t' lo hi∧flat h t'=f (flat h t)∧np h t'≤np h t+zJ h
 | 0,t,t',lo,hi,ho,hk,hu=>by
  have hu:t'=(0,f t.2):=hu;subst hu;refine ⟨⟨hf.rise _ ho.1,fun p hp=>?_⟩,rfl,hf.size t.2⟩
  rcases hf.mem _ p hp with h1 | ⟨h1,h2⟩
  ·exact ho.2 p h1
  ·exact ⟨h2,by rw [h1];exact hk⟩
 | h+1,t,t',lo,hi,ho,hk,hu=>by
  obtain ⟨A,B,C1,c,C2,e1,e2,hl,hA,hB,c',ks,cs,hu',fj,rfl⟩:=hu;have GN:gR (kO h) lo hi (A++B) (C1++c::C2):=by rw [← e1,← e2];exact ho
  obtain ⟨hp,hc⟩:=(oU hl).1 GN;have s7:=rl hc;have Fj:In (iV lo A) (py hi B) key:=by
   refine ⟨VF hk hA,?_⟩;cases B with
   | nil=>exact hk.2
   | cons kb B=>exact fun u hu=>by cases hu;exact hB kb rfl
  obtain ⟨r1,r2,r3⟩:=M5 hf h s7.1 Fj hu';have hfc:=s7.2.2;obtain ⟨g1,g2,g3⟩:=J8 fj hp hc r1 hl (by omega)
  refine ⟨g1,?_,?_⟩
  ·show cs.flatMap (flat h)=f (t.2.2.flatMap (flat h))
   rw [g2,e2,aR,List.flatMap_cons,r2,hf.loc _ _ _ (ri (P:=kO h) (fun _ _ _ hc=>pN h hc.1) hp hA) (tp (P:=kO h) (fun _ _ _ hc=>pN h hc.1) hc hB)]
  ·show fB ks≤fB t.2.1+262
   rw [e1];exact g3
end Go.Proofs.YtihmgigfkmofnaaGreatDoor
