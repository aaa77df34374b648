import Derived.Test.YtihmgigfkmofnaaGreatDoorG01
import Derived.WalkMore
set_option maxHeartbeats 1000000
open Go.Proofs.Tryz
namespace Go.Proofs.YtihmgigfkmofnaaGreatDoor
namespace B
open Go.RowKit
def pU(n:Nat):Int:=IntKind.i64.wrap (n:Int)
theorem Bd(a b:Nat):IntKind.i64.wrap (pU a+(b:Int))=pU (a+b):=by
 unfold pU;rw [IntKind.wrap_i64,IntKind.wrap_i64,IntKind.wrap_i64];omega
theorem ky{n:Nat}(h:n≤4611686018427387904):pU n=(n:Int):=by
 unfold pU;rw [IntKind.wrap_i64];omega
theorem A2(f:Int)(v:Value)(l:List Lk)(w:World)(cC:Uz l)(hm:l.length≤140737488355328)(hr:dm w v l):Calls prog 156 #[.agg #[.int .i64 f,v]] w fun e w'=>e = .returned (.int .i64 (pU (jw l)))∧Below w.heap.size w w':=by
 obtain ⟨a,cap,hv⟩:=hr.form;subst hv;obtain ⟨n,hn⟩ : ∃ n,n=l.length:=⟨_,rfl⟩;rw [← hn] at hr hm ⊢;have q0:=ai w (.cells #[.int .i64 f,.slice a n cap] 150);have x0:=au.new w #[.int .i64 f,.slice a n cap] 150;generalize Cy:w.alloc (.cells #[.int .i64 f,.slice a n cap] 150)=W0 at *;have p1:=x0.c1;have HR:=ab (hr.below q0);have HN:=ab hn;have qZ:=ab cC;have HQ:=ab q0;have H0:Hid (pU (jw (l.take 0))=6):=by show _=_;simp [Bi,ky]
 clear hn cC hr q0 x0;go_enter func156,ntmps156;go_wp2;clear p1;go_loopw [3,9] (fun r i wr=>∃ k:Nat,k≤n∧i = .int .i64 k∧r = .int .i64 (pU (jw (l.take k)))∧Below W0.heap.size W0 wr) (fun _ i _=>n - (intOf i).toNat)
 case atStart=>exact ⟨0,aC _,rfl,by rw [H0.out],Below.refl _ _⟩
 case round =>
  obtain ⟨k,hk,rfl,rfl,bL⟩:=hrel;by_cases bX:k<n
  ·have ep:k<l.length:=by have:=HN.out;omega
   obtain ⟨g,o,rfl,c1,c2⟩:=(HR.out.below bL).spot k ep;have AI:=qZ.out l[k] (aH _);have zD:IntKind.i64.wrap (pU (jw (l.take k))+(yZ l[k] : Int))=pU (jw (l.take (k+1))):=by rw [Bd,← zq l k ep]
   obtain ⟨p,hp⟩ : ∃ p,p=l[k]:=⟨_,rfl⟩;rw [← hp] at c1 c2 zD AI;have HZ:=ab (fun W=>uV p W AI)
   obtain ⟨x,hx⟩ : ∃ x,x=pU (jw (l.take k)):=⟨_,rfl⟩;obtain ⟨y,hy⟩ : ∃ y,y=pU (jw (l.take (k+1))):=⟨_,rfl⟩;obtain ⟨z,hz⟩ : ∃ z,z=yZ p:=⟨_,rfl⟩;rw [← hx,← hy,← hz] at zD;rw [← hx];rw [← hz] at HZ;have HY:=ab hy;have dO:(k:Int)<(n:Int):=by omega
   have HB:=ab (Below.next bL (ai wr (.cells #[.string p.1,.int .i64 p.2] 179)));clear hp hx hy hz bL AI;go_wp2_with fail;refine (HZ.out _).mono ?_
   rintro e w1 ⟨rfl,aN⟩;have bN:=ab (Below.next HB.out aN);clear aN HB HZ c1 c2;go_wp2;go_roundw
   case rel=>exact ⟨k+1,by omega,by go_num,by rw [← HY.out],bN.out⟩
   case measure=>simp [intOf];omega
  ·have cZ:l.take k=l:=by rw [ar];have:=HN.out;omega
   rw [cZ];have HB:=ab (Below.next HQ.out bL);have dO:¬ (k:Int)<(n:Int):=by omega
   obtain ⟨x,hx⟩ : ∃ x,x=pU (jw l):=⟨_,rfl⟩;rw [← hx];have HX:=ab hx;clear bL cZ hx;go_wp2;go_ret;exact ⟨by rw [← HX.out];rfl,HB.out⟩
theorem DI(n:Int)(w:World):Calls prog 195 #[.int .i64 n] w fun e w'=>e = .returned (.bool (fV n))∧w=w':=by
 by_cases h1:2≤n
 ·by_cases h2:n<1048576
  ·have hm:fV n=true:=decide_eq_true ⟨h1,h2⟩;rw [hm];clear hm;go_enter func195,ntmps195;go_wp2;go_ret;exact ⟨rfl,rfl⟩
  ·have hm:fV n=false:=decide_eq_false (fun h=>h2 h.2)
   rw [hm];clear hm;go_enter func195,ntmps195;go_wp2;go_ret;exact ⟨rfl,rfl⟩
 ·have hm:fV n=false:=decide_eq_false (fun h=>h1 h.1)
  rw [hm];clear hm;go_enter func195,ntmps195;go_wp2;go_ret;exact ⟨rfl,rfl⟩
theorem R4(p:Lk)(w:World):Calls prog 198 #[.agg #[.string p.1,.int .i64 p.2]] w fun e w'=>e = .returned (.bool (gz p))∧Below w.heap.size w w':=by
 have HB:=ab (ai w (.cells #[.string p.1,.int .i64 p.2] 179));by_cases h1:1≤p.1.size
 ·have i1:(1:Int)≤(p.1.size:Int):=by omega
  by_cases h2:p.1.size≤255
  ·have i2:(p.1.size:Int)≤255:=by omega
   have hm:gz p=fV p.2:=by
    unfold gz fV;congr 1
    apply propext
    exact ⟨fun h=>h.2.2,fun h=>⟨h1,h2,h⟩⟩
   rw [hm];have HC:=ab (fun W=>DI p.2 W)
   generalize fV p.2=cb at *;clear hm;go_enter func198,ntmps198;go_wp2_with fail;refine (HC.out _).mono ?_
   rintro e w1 ⟨rfl,rfl⟩;go_wp2;go_ret;exact ⟨rfl,HB.out⟩
  ·have i2:¬ (p.1.size:Int)≤255:=by omega
   have hm:gz p=false:=decide_eq_false (fun h=>h2 h.2.1)
   rw [hm];clear hm;go_enter func198,ntmps198;go_wp2;go_ret;exact ⟨rfl,HB.out⟩
 ·have i1:¬ (1:Int)≤(p.1.size:Int):=by omega
  have hm:gz p=false:=decide_eq_false (fun h=>h1 h.1)
  rw [hm];clear hm;go_enter func198,ntmps198;go_wp2;go_ret;exact ⟨rfl,HB.out⟩
theorem Qs(p:Lk)(w:World):Calls prog 197 #[.agg #[.string p.1,.int .i64 p.2]] w fun e w'=>e = .returned (.bool (!gz p))∧Below w.heap.size w w':=by
 have HB:=ab (ai w (.cells #[.string p.1,.int .i64 p.2] 179));have HC:=ab (fun W=>R4 p W)
 generalize gz p=cb at *;go_enter func197,ntmps197;go_wp2_with fail;refine (HC.out _).mono ?_
 rintro e w1 ⟨rfl,aN⟩;have bN:=ab (Below.next HB.out aN);clear aN;go_wp2;go_ret;exact ⟨rfl,bN.out⟩
theorem KM(v:Value)(l:List Lk)(w:World)(hm:l.length≤140737488355328)(hr:dm w v l):Calls prog 230 #[v,.func (.func 197) #[] #[]] w fun e w'=>((l.all gz=true∧e = .returned (.int .i64 (-1)))∨(l.all gz=false∧∃ k:Nat,e = .returned (.int .i64 (k:Int))))∧Below w.heap.size w w':=by
 obtain ⟨a,cap,hv⟩:=hr.form;subst hv;obtain ⟨n,hn⟩ : ∃ n,n=l.length:=⟨_,rfl⟩;rw [← hn] at hr hm ⊢;have HR:=ab hr;have HN:=ab hn;obtain ⟨Q,hQ⟩ : ∃ Q:Ending→World→Prop,Q=fun e w'=>((l.all gz=true∧e = .returned (.int .i64 (-1)))∨(l.all gz=false∧∃ k:Nat,e = .returned (.int .i64 (k:Int))))∧Below w.heap.size w w':=⟨_,rfl⟩
 rw [← hQ];have HQ:=ab hQ;clear hn hr hQ;go_enter func230,ntmps230;go_wp2;go_loopw [8] (fun i wr=>∃ k:Nat,k≤n∧i = .int .i64 k∧(∀ j (h:j<l.length),j<k→gz l[j]=true)∧Below w.heap.size w wr) (fun i _=>n - (intOf i).toNat)
 case atStart=>exact ⟨0,aC _,rfl,fun j _ h=>absurd h (fZ _),Below.refl _ _⟩
 case round =>
  obtain ⟨k,hk,rfl,iW,bL⟩:=hrel;have HP:=ab iW;clear iW;by_cases bX:k<n
  ·have ep:k<l.length:=by have:=HN.out;omega
   obtain ⟨g,o,rfl,c1,c2⟩:=(HR.out.below bL).spot k ep;have HF:=ab (fun W=>Qs l[k] W)
   have oS:Hid (gz l[k]=true→∀ j (h:j<l.length),j<k+1→gz l[j]=true):=fun hl j h hj=>by
    by_cases he:j=k
    ·subst he;exact hl
    ·exact HP.out j h (by omega)
   have CI:Hid (gz l[k]=false→l.all gz=false):=fun hl=>by rw [List.all_eq_false];exact ⟨l[k],aH _,by simp [hl]⟩
   obtain ⟨p,hp⟩ : ∃ p,p=l[k]:=⟨_,rfl⟩;rw [← hp] at c1 c2 HF oS CI;have dO:(k:Int)<(n:Int):=by omega
   have j0:(0:Int)≤(k:Int):=by omega
   have HB:=ab bL;clear hp bL;cases hb:gz p with
   | true =>
    rw [hb] at HF;have tY:=ab (oS.out hb);clear oS CI hb;go_wp2_with fail;refine (HF.out _).mono ?_
    rintro e w1 ⟨rfl,aN⟩;have bN:=ab (Below.next HB.out aN);clear aN HB HF c1 c2;go_wp2;go_roundw
    case rel=>exact ⟨k+1,by omega,by go_num,tY.out,bN.out⟩
    case measure=>simp [intOf];omega
   | false =>
    rw [hb] at HF;have Ic:=ab (CI.out hb);clear oS CI hb;go_wp2_with fail;refine (HF.out _).mono ?_
    rintro e w1 ⟨rfl,aN⟩;have bN:=ab (Below.next HB.out aN);clear aN HB HF c1 c2;go_wp2;rw [HQ.out];exact ⟨.inr ⟨Ic.out,k,rfl⟩,bN.out⟩
  ·have dO:¬ (k:Int)<(n:Int):=by omega
   have Ie:Hid (l.all gz=true):=List.all_eq_true.2 (fun p hp=>by
    obtain ⟨i,hi,rfl⟩:=aI hp;exact HP.out i hi (by have:=HN.out;omega))
   have HB:=ab bL;clear bL HP;go_wp2;rw [HQ.out];exact ⟨.inl ⟨Ie.out,rfl⟩,HB.out⟩
theorem GL(v:Value)(l:List Lk)(w:World)(hm:l.length≤140737488355328)(hr:dm w v l):Calls prog 196 #[v,.func (.func 197) #[] #[]] w fun e w'=>e = .returned (.bool (!l.all gz))∧Below w.heap.size w w':=by
 have HI:=ab (KM v l w hm hr);obtain ⟨a,cap,hv⟩:=hr.form;subst hv;clear hr;go_enter func196,ntmps196;go_wp2_with fail;refine HI.out.mono ?_
 rintro e w1 ⟨⟨cZ,rfl⟩ | ⟨cZ,k,rfl⟩,aN⟩
 ·have HB:=ab aN;have HA:=ab cZ;clear aN cZ HI;go_wp2;go_ret;exact ⟨by rw [HA.out];rfl,HB.out⟩
 ·have HB:=ab aN;have HA:=ab cZ;have hk:(0:Int)≤(k:Int):=by omega
  clear aN cZ HI;go_wp2;go_ret;exact ⟨by rw [HA.out];rfl,HB.out⟩
theorem Hu(f:Int)(v:Value)(l:List Lk)(w:World)(hm:l.length≤140737488355328)(hr:dm w v l):Calls prog 157 #[.agg #[.int .i64 f,v]] w fun e w'=>e = .returned (.bool (fV f && l.all gz))∧Below w.heap.size w w':=by
 obtain ⟨a,cap,hv⟩:=hr.form;subst hv;have q0:=ai w (.cells #[.int .i64 f,.slice a l.length cap] 150);have x0:=au.new w #[.int .i64 f,.slice a l.length cap] 150;generalize Cy:w.alloc (.cells #[.int .i64 f,.slice a l.length cap] 150)=W0 at *;have p0:=x0.c0;have p1:=x0.c1;have HK:=ab (GL _ l W0 hm (hr.below q0));have HC:=ab (DI f W0);have HQ:=ab q0;generalize l.length=n at *;generalize l.all gz=lb at *;clear q0 x0 hr;cases hc:fV f with
 | true =>
  rw [hc] at HC;clear hc;go_enter func157,ntmps157;go_wp2_with fail;refine HC.out.mono ?_
  rintro e w1 ⟨rfl,rfl⟩;go_wp2_with fail;refine HK.out.mono ?_
  rintro e w2 ⟨rfl,aY⟩;have HB:=ab (Below.next HQ.out aY);clear aY HK HC p0 p1;go_wp2;go_ret;exact ⟨by cases lb <;> rfl,HB.out⟩
 | false =>
  rw [hc] at HC;clear hc;go_enter func157,ntmps157;go_wp2_with fail;refine HC.out.mono ?_
  rintro e w1 ⟨rfl,rfl⟩;clear HC HK;go_wp2;go_ret;exact ⟨by cases lb <;> rfl,HQ.out⟩
end B
theorem Ey{l:List Pr}{key:ByteArray}(h:bq l key=true):(l[aQ l key]'(l7 h)).1=key:=by
 have:=l8 (l7 h);rw [h] at this;exact of_decide_eq_true this.symm
theorem K9{l:List Pr}{key:ByteArray}(h:bq l key=false)(hl:aQ l key<l.length):¬ (l[aQ l key]).1=key:=by
 have:=l8 hl;rw [h] at this;exact of_decide_eq_false this.symm
theorem A7(l:List Pr)(key:ByteArray):bW l key=aQ l key+(if bq l key then 1 else 0):=by
 unfold bW;split <;> rfl
theorem sF{l:List Pr}{key:ByteArray}(hr:gB l)(j:Nat)(hj:j<l.length)(hb:bW l key≤j):df key l[j].1=true:=by
 have hq:aQ l key<l.length:=by have:=eP l key;omega
 cases hf:bq l key with
 | true =>
  have he:=Ey hf;have bX:aQ l key<j:=by rw [A7,hf] at hb;simp at hb;omega
  have:=hr.lt (aQ l key) j hj bX;rw [he] at this;exact this
 | false =>
  have ey:=K9 hf hq;have Ep:=sA l key hq;have bX:df key (l[aQ l key]).1=true:=by
   cases h:df key (l[aQ l key]).1 with
   | true=>rfl
   | false=>exact absurd (lT Ep h) ey
  by_cases he:j=aQ l key
  ·subst he;exact bX
  ·have:aQ l key<j:=by have:=eP l key;omega
   exact de bX (hr.lt (aQ l key) j hj this)
theorem oe(l:List Pr)(key value:ByteArray):(eT l key value).length=aQ l key+1+(l.length - bW l key):=by
 have:=cW l key;simp only [eT,ae,List.length_cons,ag,ao];omega
theorem tR(l:List Pr)(key:ByteArray):(cX l key).length=aQ l key+(l.length - bW l key):=by
 have:=cW l key;simp only [cX,ae,ag,ao];omega
theorem RE(l:List Pr)(key value:ByteArray):∃ h:aQ l key<(eT l key value).length,(eT l key value)[aQ l key]=(key,value):=by
 have hq:=cW l key;refine ⟨by rw [oe];omega,?_⟩
 have:(eT l key value)[aQ l key]?=some (key,value):=by
  unfold eT;rw [aX (by rw [ag];omega),ag,show aQ l key - min (aQ l key) l.length=0 by omega]
  rfl
 rw [af (by rw [oe];omega)] at this
 exact Option.some.inj this
theorem F8(l:List Pr)(key value:ByteArray)(j:Nat)(hj:j<aQ l key)(h:j<(eT l key value).length):df ((eT l key value)[j]).1 key=true:=by
 have hq:=cW l key;have:(eT l key value)[j]?=some (l[j]'(by omega)):=by
  unfold eT;rw [bu (by rw [ag];omega),b7,if_pos hj,af]
 rw [af h] at this;rw [Option.some.inj this];exact jQ l key j hj (by omega)
theorem Lx{l:List Pr}{key:ByteArray}(j:Nat)(h:j<(cX l key).length):(j<aQ l key∧∃ hj:j<l.length,(cX l key)[j]=l[j])∨(aQ l key≤j∧∃ hj:bW l key+(j - aQ l key)<l.length,(cX l key)[j]=l[bW l key+(j - aQ l key)]):=by
 have hq:=cW l key;have Vt:=tR l key;by_cases hj:j<aQ l key
 ·refine .inl ⟨hj,by omega,?_⟩
  have:(cX l key)[j]?=some (l[j]'(by omega)):=by
   unfold cX;rw [bu (by rw [ag];omega),b7,if_pos hj,af]
  rw [af h] at this;exact Option.some.inj this
 ·have hb:bW l key+(j - aQ l key)<l.length:=by omega
  refine .inr ⟨by omega,hb,?_⟩
  have:(cX l key)[j]?=some l[bW l key+(j - aQ l key)]:=by
   unfold cX;rw [aX (by rw [ag];omega),ag,show min (aQ l key) l.length=aQ l key by omega,cL,af]
  rw [af h] at this;exact Option.some.inj this
theorem Lt{l:List Pr}{key:ByteArray}(hr:gB l):bq (cX l key) key=false:=by
 cases hf:bq (cX l key) key with
 | false=>rfl
 | true =>
  exfalso
  have he:=Ey hf;rcases Lx _ (l7 hf) with ⟨h1,h2,h3⟩ | ⟨h1,h2,h3⟩
  ·rw [h3] at he;have:=jQ l key _ h1 h2;rw [he,jz] at this;cases this
  ·rw [h3] at he;have:=sF (key:=key) hr _ h2 (by omega)
   rw [he,jz] at this;cases this
theorem drop_drop{l:List Pr}{key:ByteArray}(hr:gB l):cX (cX l key) key=cX l key:=by
 have h:=Lt (l:=l) (key:=key) hr;have hb:bW (cX l key) key=aQ (cX l key) key:=by rw [A7,h];rfl
 have e:∀ m:List Pr,cX m key=m.take (aQ m key)++m.drop (bW m key):=fun _=>rfl
 rw [e (cX l key),hb,aE]
theorem Nt{l:List Pr}{key value:ByteArray}(hr:gB l):gB (eT l key value):=by
 obtain ⟨Cx,he⟩:=RE l key value;have hq:=cW l key;have Vt:=oe l key value;intro i hi;have get:∀ j (hj:j<(eT l key value).length),aQ l key<j→∃ hb:bW l key+(j - (aQ l key+1))<l.length,(eT l key value)[j]=l[bW l key+(j - (aQ l key+1))]:=fun j hj bX=>by
  have hb:bW l key+(j - (aQ l key+1))<l.length:=by omega
  refine ⟨hb,?_⟩;have:(eT l key value)[j]?=some l[bW l key+(j - (aQ l key+1))]:=by
   unfold eT;rw [aX (by rw [ag];omega),ag,show min (aQ l key) l.length=aQ l key by omega,show j - aQ l key=(j - (aQ l key+1))+1 by omega,List.getElem?_cons_succ,cL,af]
  rw [af hj] at this;exact Option.some.inj this
 rcases Nat.lt_trichotomy (i+1) (aQ l key) with h | h | h
 ·have g:∀ j (hj:j<aQ l key) (hj2:j<(eT l key value).length),(eT l key value)[j]=l[j]'(by omega):=fun j hj hj2=>by
   have:(eT l key value)[j]?=some (l[j]'(by omega)):=by
    unfold eT;rw [bu (by rw [ag];omega),b7,if_pos hj,af]
   rw [af hj2] at this;exact Option.some.inj this
  rw [g i (by omega) (by omega),g (i+1) h hi]
  exact hr i (by omega)
 ·have h2:=F8 l key value i (by omega) (by omega)
  have:((eT l key value)[i+1]).1=key:=by simp only [h,he]
  rw [this];exact h2
 ·by_cases sj:i=aQ l key
  ·have:((eT l key value)[i]).1=key:=by simp only [sj,he]
   obtain ⟨hb,hg⟩:=get (i+1) hi h;rw [this,hg];exact sF hr _ hb (by omega)
  ·obtain ⟨aN,fJ⟩:=get i (by omega) (by omega)
   obtain ⟨aY,zJ⟩:=get (i+1) hi h;rw [fJ,zJ];exact hr.lt _ _ aY (by omega)
theorem TT{a b c:ByteArray}(h1:df b a=false)(h2:df b c=true):df a c=true:=by
 cases h:df a b
 ·rw [lT h h1];exact h2
 ·exact de h h2
theorem DK{a b c:ByteArray}(h1:df a b=true)(h2:df c b=false):df a c=true:=by
 cases h:df b c
 ·rw [← lT h h2];exact h1
 ·exact de h1 h
def geB(lo:Option ByteArray)(k:ByteArray):Prop:=∀ l,lo=some l→df k l=false
def ltB(k:ByteArray)(hi:Option ByteArray):Prop:=∀ u,hi=some u→df k u=true
def In(lo hi:Option ByteArray)(k:ByteArray):Prop:=geB lo k∧ltB k hi
def cQ(k:ByteArray):Prop:=1≤k.size∧k.size≤255
theorem Ja(k:ByteArray):In none none k:=⟨(fun _ h=>nomatch h),(fun _ h=>nomatch h)⟩
def gtB(lo:Option ByteArray)(k:ByteArray):Prop:=∀ l,lo=some l→df l k=true
def Qu(lo hi:Option ByteArray)(k:ByteArray):Prop:=gtB lo k∧ltB k hi
def Nd:Nat→Type
 | 0=>Nat × List Pr
 | h+1=>Nat × List ByteArray × List (Nd h)
def flat:(h:Nat)→Nd h→List Pr
 | 0,t=>t.2
 | h+1,t=>t.2.2.flatMap (flat h)
def fD(ks:List ByteArray):Nat:=6+(ks.map fun k=>7+k.size).sum
def np:(h:Nat)→Nd h→Nat
 | 0,t=>fQ t.2
 | _+1,t=>fD t.2.1
def xC:Nat→Nat
 | 0=>1556
 | _+1=>1777
def Full(h:Nat)(t:Nd h):Prop:=xC h≤np h t∧np h t≤4072
def ig{α:Type}(P:α→Option ByteArray→Option ByteArray→Prop):Option ByteArray→Option ByteArray→List ByteArray→List α→Prop
 | lo,hi,[],[c]=>P c lo hi
 | lo,hi,k::ks,c::cs=>Qu lo hi k∧cQ k∧P c lo (some k)∧ig P (some k) hi ks cs
 | _,_,_,_=>False
def Ok:(h:Nat)→Nd h→Option ByteArray→Option ByteArray→Prop
 | 0,t,lo,hi=>gB t.2∧∀ p ∈ t.2,cF p=true∧In lo hi p.1
 | h+1,t,lo,hi=>ig (fun c lo hi=>Ok h c lo hi∧Full h c) lo hi t.2.1 t.2.2
def mF(h:Nat)(c:Nd h)(lo hi:Option ByteArray):Prop:=Ok h c lo hi∧Full h c
theorem iA(h:Nat)(t:Nd (h+1))(lo hi:Option ByteArray):Ok (h+1) t lo hi↔ig (mF h) lo hi t.2.1 t.2.2:=Iff.rfl
section lists
variable {α:Type} {P:α→Option ByteArray→Option ByteArray→Prop}
def tW(P:α→Option ByteArray→Option ByteArray→Prop):Option ByteArray→Option ByteArray→List ByteArray→List α→Prop
 | _,_,[],[]=>True
 | lo,hi,k::ks,c::cs=>Qu lo hi k∧cQ k∧P c lo (some k)∧tW P (some k) hi ks cs
 | _,_,_,_=>False
def iV(lo:Option ByteArray):List ByteArray→Option ByteArray
 | []=>lo
 | k::ks=>iV (some k) ks
theorem rP{A B:List ByteArray}{C1 C2:List α}{c:α}:∀ {lo hi:Option ByteArray},A.length=C1.length→(ig P lo hi (A++B) (C1++c::C2)↔tW P lo hi A C1∧ig P (iV lo A) hi B (c::C2)):=by
 induction A generalizing C1 with
 | nil =>
  intro lo hi hl;have:C1=[]:=List.length_eq_zero_iff.1 hl.symm;subst this;simp [tW,iV]
 | cons k A ih =>
  intro lo hi hl;cases C1 with
  | nil=>simp at hl
  | cons c1 C1 =>
   have Uf:A.length=C1.length:=by simpa using hl
   have:=ih (C1:=C1) (lo:=some k) (hi:=hi) Uf;simp only [List.cons_append,ig,tW,iV,this,and_assoc]
theorem jI:∀ {lo hi:Option ByteArray} {ks:List ByteArray} {cs:List α},ig P lo hi ks cs→cs.length=ks.length+1
 | _,_,[],[_],_=>rfl
 | _,_,[],[],h=>by simp [ig] at h
 | _,_,[],_::_::_,h=>by simp [ig] at h
 | _,_,_::_,[],h=>by simp [ig] at h
 | _,_,k::ks,c::cs,h=>by
  have:=jI h.2.2.2;simp only [List.length_cons];omega
theorem DG(lo:Option ByteArray)(A:List ByteArray)(k:ByteArray):iV lo (A++[k])=some k:=by
 induction A generalizing lo with
 | nil=>rfl
 | cons a A ih=>exact ih (some a)
def pJ(hi:Option ByteArray):List ByteArray→Option ByteArray
 | []=>hi
 | k::_=>some k
theorem vL{lo hi:Option ByteArray}{B:List ByteArray}{c:α}{C2:List α}(h:ig P lo hi B (c::C2)):P c lo (pJ hi B):=by
 cases B with
 | nil=>cases C2 with
  | nil=>exact h
  | cons _ _=>simp [ig] at h
 | cons k B=>exact h.2.2.1
theorem NZ{lo hi:Option ByteArray}{B:List ByteArray}{c d:α}{C2:List α}(h:ig P lo hi B (c::C2))(hd:P d lo (pJ hi B)):ig P lo hi B (d::C2):=by
 cases B with
 | nil=>cases C2 with
  | nil=>exact hd
  | cons _ _=>simp [ig] at h
 | cons k B=>exact ⟨h.1,h.2.1,hd,h.2.2.2⟩
theorem RV{lo hi:Option ByteArray}{B:List ByteArray}{c a b:α}{k:ByteArray}{C2:List α}(h:ig P lo hi B (c::C2))(hk:Qu lo (pJ hi B) k)(hm:cQ k)(ha:P a lo (some k))(hb:P b (some k) (pJ hi B)):ig P lo hi (k::B) (a::b::C2):=by
 have hkh:Qu lo hi k:=by
  refine ⟨hk.1,?_⟩;cases B with
  | nil=>exact hk.2
  | cons kb B=>exact fun u hu=>de (hk.2 kb rfl) (h.1.2 u hu)
 refine ⟨hkh,hm,ha,?_⟩;cases B with
 | nil=>cases C2 with
  | nil=>exact hb
  | cons _ _=>simp [ig] at h
 | cons kb B=>exact ⟨⟨fun l hl=>by cases hl;exact hk.2 kb rfl,h.1.2⟩,h.2.1,hb,h.2.2.2⟩
theorem I0{lo hi:Option ByteArray}{B:List ByteArray}{a b c:α}{k:ByteArray}{C2:List α}(h:ig P lo hi (k::B) (a::b::C2))(hc:P c lo (pJ hi B)):ig P lo hi B (c::C2):=by
 have h2:=h.2.2.2;cases B with
 | nil=>cases C2 with
  | nil=>exact hc
  | cons _ _=>simp [ig] at h2
 | cons kb B=>exact ⟨⟨fun l hl=>de (h.1.1 l hl) (h2.1.1 k rfl),h2.1.2⟩,h2.2.1,hc,h2.2.2.2⟩
theorem DB{lo hi:Option ByteArray}{A B:List ByteArray}{k:ByteArray}:∀ {C1 C2:List α},A.length+1=C1.length→(ig P lo hi (A++k::B) (C1++C2)↔Qu lo hi k∧cQ k∧ig P lo (some k) A C1∧ig P (some k) hi B C2):=by
 induction A generalizing lo with
 | nil =>
  intro C1 C2 hl;match C1,hl with
  | [c],_=>simp [ig]
 | cons a A ih =>
  intro C1 C2 hl;cases C1 with
  | nil=>simp at hl
  | cons c C1 =>
   have Uf:A.length+1=C1.length:=by simpa using hl
   have:=ih (lo:=some a) (C1:=C1) (C2:=C2) Uf;simp only [List.cons_append,ig,this];constructor
   ·rintro ⟨h1,h2,h3,h4,h5,h6,h7⟩;exact ⟨⟨fun l hl=>de (h1.1 l hl) (h4.1 a rfl),h4.2⟩,h5,⟨⟨h1.1,fun u hu=>by cases hu;exact h4.1 a rfl⟩,h2,h3,h6⟩,h7⟩
   ·rintro ⟨h1,h2,⟨h3,h4,h5,h6⟩,h7⟩;exact ⟨⟨h3.1,fun u hu=>de (h3.2 k rfl) (h1.2 u hu)⟩,h4,h5,⟨fun l hl=>by cases hl;exact h3.2 k rfl,h1.2⟩,h2,h6,h7⟩
end lists
theorem xy{α:Type}{P:α→Option ByteArray→Option ByteArray→Prop}{F:α→List Pr}(hP:∀ c lo hi,P c lo hi→∀ p ∈ F c,In lo hi p.1):∀ {lo hi:Option ByteArray} {ks:List ByteArray} {cs:List α},ig P lo hi ks cs→∀ p ∈ cs.flatMap F,In lo hi p.1
 | lo,hi,[],[c],h,p,hp=>by
  simp only [List.flatMap_cons,List.flatMap_nil,List.append_nil] at hp;exact hP c lo hi h p hp
 | _,_,[],[],h,_,_=>by simp [ig] at h
 | _,_,[],_::_::_,h,_,_=>by simp [ig] at h
 | _,_,_::_,[],h,_,_=>by simp [ig] at h
 | lo,hi,k::ks,c::cs,h,p,hp=>by
  simp only [List.flatMap_cons,cN] at hp;rcases hp with hp | hp
  ·have h1:=hP c lo (some k) h.2.2.1 p hp;exact ⟨h1.1,fun u hu=>de (h1.2 k rfl) (h.1.2 u hu)⟩
  ·have h1:=xy hP h.2.2.2 p hp;exact ⟨fun l hl=>lU (DK (h.1.1 l hl) (h1.1 k rfl)),h1.2⟩
theorem uy:∀ (h:Nat) {t:Nd h} {lo hi:Option ByteArray},Ok h t lo hi→∀ p ∈ flat h t,In lo hi p.1
 | 0,_,_,_,hk,p,hp=>(hk.2 p hp).2
 | h+1,_,_,_,hk,p,hp=>xy (P:=mF h) (F:=flat h) (fun _ _ _ hc=>uy h hc.1) hk p hp
theorem vG{α:Type}{P:α→Option ByteArray→Option ByteArray→Prop}{F:α→List Pr}(hP:∀ c lo hi,P c lo hi→∀ p ∈ F c,In lo hi p.1){hi:Option ByteArray}{key:ByteArray}:∀ {lo:Option ByteArray} {A:List ByteArray} {C1:List α},tW P lo hi A C1→(∀ k ∈ A,df key k=false)→∀ p ∈ C1.flatMap F,df p.1 key=true
 | _,[],[],_,_,p,hp=>by simp at hp
 | _,[],_::_,h,_,_,_=>by simp [tW] at h
 | _,_::_,[],h,_,_,_=>by simp [tW] at h
 | lo,k::A,c::C1,h,hA,p,hp=>by
  simp only [List.flatMap_cons,cN] at hp;rcases hp with hp | hp
  ·have h1:=hP c lo (some k) h.2.2.1 p hp;exact DK (h1.2 k rfl) (hA k dh)
  ·exact vG hP h.2.2.2 (fun k hk=>hA k (dP _ hk)) p hp
theorem A6{α:Type}{P:α→Option ByteArray→Option ByteArray→Prop}{F:α→List Pr}(hP:∀ c lo hi,P c lo hi→∀ p ∈ F c,In lo hi p.1){lo hi:Option ByteArray}{key:ByteArray}{B:List ByteArray}{c:α}{C2:List α}(h:ig P lo hi B (c::C2))(hB:∀ k,B.head?=some k→df key k=true):∀ p ∈ C2.flatMap F,df key p.1=true:=by
 cases B with
 | nil=>cases C2 with
  | nil=>intro p hp;simp at hp
  | cons _ _=>simp [ig] at h
 | cons k B =>
  intro p hp;have h1:=xy hP h.2.2.2 p hp;exact DK (hB k rfl) (h1.1 k rfl)
theorem uw{a b:List Pr}(ha:gB a)(hb:gB b)(zh:∀ p ∈ a,∀ q ∈ b,df p.1 q.1=true):gB (a++b):=fun i hi=>by
 rw [ae] at hi;by_cases h1:i+1<a.length
 ·rw [aM (by omega),aM h1];exact ha i h1
 ·by_cases h2:i<a.length
  ·rw [aM h2,bt (by omega)]
   exact zh _ (aH _) _ (aH _)
  ·rw [bt (by omega),bt (by omega)]
   simp only [show i+1 - a.length=i - a.length+1 by omega]
   exact hb (i - a.length) (by omega)
theorem qn{a b:List Pr}(h:gB (a++b)):gB a∧gB b∧∀ p ∈ a,∀ q ∈ b,df p.1 q.1=true:=by
 refine ⟨?_,?_,fun p hp q hq=>?_⟩
 ·have:=h.take a.length;rwa [ej] at this
 ·have:=h.drop a.length;rwa [fH] at this
 ·obtain ⟨i,hi,rfl⟩:=aI hp;obtain ⟨j,hj,rfl⟩:=aI hq;have:=h.lt i (a.length+j) (by rw [ae];omega) (by omega)
  rw [aM hi,bt (by omega)] at this
  simpa using this
def gQ:(h:Nat)→Nd h→ByteArray→Nd h→Nd h
 | 0,a,_,b=>(0,a.2++b.2)
 | _+1,a,k,b=>(0,a.2.1++k::b.2.1,a.2.2++b.2.2)
theorem AT(h:Nat)(a b:Nd h)(k:ByteArray):flat h (gQ h a k b)=flat h a++flat h b:=by
 cases h with
 | zero=>rfl
 | succ h=>simp [flat,gQ]
theorem IX{h:Nat}{a b:Nd h}{k:ByteArray}{lo hi:Option ByteArray}(ha:Ok h a lo (some k))(hb:Ok h b (some k) hi)(hk:Qu lo hi k)(hm:cQ k):Ok h (gQ h a k b) lo hi:=by
 cases h with
 | zero =>
  refine ⟨uw ha.1 hb.1 (fun p hp q hq=>DK ((ha.2 p hp).2.2 k rfl) ((hb.2 q hq).2.1 k rfl)),fun p hp=>?_⟩
  rcases List.mem_append.1 hp with h | h
  ·have h1:=ha.2 p h;exact ⟨h1.1,h1.2.1,fun u hu=>de (h1.2.2 k rfl) (hk.2 u hu)⟩
  ·have h1:=hb.2 p h;exact ⟨h1.1,fun l hl=>lU (DK (hk.1 l hl) (h1.2.1 k rfl)),h1.2.2⟩
 | succ h =>
  exact (DB (jI ha).symm).2 ⟨hk,hm,ha,hb⟩
theorem fM(a b:List ByteArray):fD (a++b)+6=fD a+fD b:=by simp [fD];omega
theorem iN(k:ByteArray)(b:List ByteArray):fD (k::b)=7+k.size+fD b:=by simp [fD];omega
theorem Rs{h:Nat}(a b:Nd h)(k:ByteArray):np h a+np h b≤np h (gQ h a k b)∧np h (gQ h a k b)≤np h a+np h b+(if h=0 then 0 else 7+k.size):=by
 cases h with
 | zero=>simp [np,gQ,iF]
 | succ h =>
  have h1:=fM a.2.1 (k::b.2.1);have h2:=iN k b.2.1;simp only [np,gQ];simp
  omega
def nC(l:List Pr):List Int:=l.map fun p=>(zZ p:Int)
def iM(ks:List ByteArray):List Int:=ks.map fun k=>((7+k.size:Nat):Int)
def aat:(h:Nat)→Nd h→Nat→Prop
 | 0,t,i=>di (jd (nC t.2)) ((nC t.2).length - 1) i
 | _+1,t,i=>di (jc (iM t.2.1)) ((iM t.2.1).length - 2) i
def aas:(h:Nat)→Nd h→Nat→Nd h→ByteArray→Nd h→Prop
 | 0,t,i,a,k,b=>a=(0,t.2.take i)∧b=(0,t.2.drop i)∧∃ v,t.2[i]?=some (k,v)
 | _+1,t,i,a,k,b=>a=(0,t.2.1.take i,t.2.2.take (i+1))∧b=(0,t.2.1.drop (i+1),t.2.2.drop (i+1))∧t.2.1[i]?=some k
def Cut(h:Nat)(t a:Nd h)(k:ByteArray)(b:Nd h):Prop:=∃ i,aat h t i∧aas h t i a k b
def zA:Nat→Nat
 | 0=>5627
 | _+1=>7884
theorem Dm(l:List Pr)(i:Nat):pre (nC l) i=(fQ (l.take i):Int):=by
 unfold pre nC fQ;rw [← iC];induction l.take i with
 | nil=>rfl
 | cons p r ih=>simp only [List.map_cons,gD,ih];omega
theorem tj(l:List ByteArray)(i:Nat):6+pre (iM l) i=(fD (l.take i):Int):=by
 unfold pre iM fD;rw [← iC];induction l.take i with
 | nil=>rfl
 | cons p r ih=>simp only [List.map_cons,gD];omega
theorem vC{l:List Pr}(h:∀ p ∈ l,cF p=true):fQ l≤960*l.length:=by
 induction l with
 | nil=>simp [fQ]
 | cons p l ih =>
  have a:=ih fun q hq=>h q (dP _ hq)
  have b:=eu (h p dh);rw [nX,List.length_cons];unfold zZ;omega
theorem CX{l:List ByteArray}(h:∀ k ∈ l,cQ k):fD l≤262*l.length+6:=by
 induction l with
 | nil=>simp [fD]
 | cons p l ih =>
  have a:=ih fun q hq=>h q (dP _ hq)
  have b:=(h p dh).2;rw [iN,List.length_cons];omega
theorem xw{α:Type}{P:α→Option ByteArray→Option ByteArray→Prop}:∀ {lo hi:Option ByteArray} {ks:List ByteArray} {cs:List α},ig P lo hi ks cs→∀ k ∈ ks,cQ k
 | _,_,[],_,_,_,hk=>by simp at hk
 | _,_,_::_,[],h,_,_=>by simp [ig] at h
 | _,_,k1::ks,c::cs,h,k,hk=>by
  rcases List.mem_cons.1 hk with rfl | hk
  ·exact h.2.1
  ·exact xw h.2.2.2 k hk
theorem P1{h:Nat}{t a b:Nd h}{k:ByteArray}{lo hi:Option ByteArray}(ho:Ok h t lo hi)(hc:Cut h t a k b)(h1:4072<np h t)(h2:np h t≤zA h):mF h a lo (some k)∧mF h b (some k) hi∧Qu lo hi k∧cQ k∧flat h a++flat h b=flat h t:=by
 obtain ⟨i,hb,hc⟩:=hc;cases h with
 | zero =>
  obtain ⟨rfl,rfl,v,hv⟩:=hc;have tF:∀ p ∈ t.2,cF p=true:=fun p hp=>(ho.2 p hp).1
  have hlen:=vC tF;have h1:4072<fQ t.2:=h1;have h2:fQ t.2≤5627:=h2;have qE:(nC t.2).length=t.2.length:=by simp [nC]
  have Pg:∀ j (hj:j<(nC t.2).length),1≤(nC t.2)[j]∧(nC t.2)[j]≤960:=fun j hj=>by
   have lW:j<t.2.length:=by rw [← qE];exact hj
   have:=eu (tF t.2[j] (aH lW));simp only [nC,cO];unfold zZ;omega
  have Es:=P2 (m:=960) (fun j hj=>by have:=Pg j hj;omega) (by rw [qE];omega) (fun j hj=>(Pg j hj).2) hb
  have KU:=hb.1;rw [qE] at KU;unfold jd at Es;rw [qE,Dm,Dm,List.take_length] at Es;have KQ:fQ t.2=fQ (t.2.take i)+fQ (t.2.drop i):=by rw [← iF,aE]
  obtain ⟨oE,WT⟩:=List.getElem?_eq_some_iff.1 hv;have tE:=qn (a:=t.2.take i) (b:=t.2.drop i) (by rw [aE];exact ho.1)
  have gR:(k,v) ∈ t.2.drop i:=by
   rw [bf oE,WT];exact dh
  have hkt:(k,v) ∈ t.2:=bG gR;have VE:0<(t.2.take i).length:=by rw [ag];omega
  have WY:(t.2.take i)[0] ∈ t.2.take i:=aH VE;have El:=(ho.2 _ (bF WY)).2;refine ⟨⟨⟨tE.1,fun p hp=>⟨tF p (bF hp),(ho.2 p (bF hp)).2.1,fun u hu=>?_⟩⟩,?_⟩,⟨⟨tE.2.1,fun p hp=>⟨tF p (bG hp),fun l hl=>?_,(ho.2 p (bG hp)).2.2⟩⟩,?_⟩,⟨fun l hl=>?_,(ho.2 _ hkt).2.2⟩,?_,?_⟩
  ·cases hu;exact tE.2.2 p hp _ gR
  ·show 1556≤fQ (t.2.take i)∧fQ (t.2.take i)≤4072
   omega
  ·cases hl;rw [bf oE,WT] at hp tE;rcases List.mem_cons.1 hp with rfl | hp
   ·exact jz _
   ·have:=(qn (a:=[(k,v)]) (b:=t.2.drop (i+1)) tE.2.1).2.2 _ dh p hp;exact lU this
  ·show 1556≤fQ (t.2.drop i)∧fQ (t.2.drop i)≤4072
   omega
  ·exact TT (El.1 l hl) (tE.2.2 _ WY _ gR)
  ·have:=eu (tF _ hkt);exact ⟨this.1,this.2.1⟩
  ·exact aE i t.2
 | succ h =>
  obtain ⟨rfl,rfl,hki⟩:=hc;have O9:=xw ho;have hlen:=CX O9;have zg:=jI ho;have h1:4072<fD t.2.1:=h1;have h2:fD t.2.1≤7884:=h2;have qE:(iM t.2.1).length=t.2.1.length:=by simp [iM]
  have Pg:∀ j (hj:j<(iM t.2.1).length),8≤(iM t.2.1)[j]∧(iM t.2.1)[j]≤262:=fun j hj=>by
   have lW:j<t.2.1.length:=by rw [← qE];exact hj
   have:=O9 t.2.1[j] (aH lW);simp only [iM,cO];unfold cQ at this;omega
  have Es:=Gi (m:=262) (fun j hj=>by have:=Pg j hj;omega) (by rw [qE];omega) (fun j hj=>(Pg j hj).2) hb
  have KU:=hb.1;rw [qE] at KU;obtain ⟨oE,WT⟩:=List.getElem?_eq_some_iff.1 hki;have e1:=tj t.2.1 i;have e2:=tj t.2.1 (i+1);have e3:=tj t.2.1 t.2.1.length;rw [List.take_length] at e3;have OR:t.2.1=t.2.1.take i++k::t.2.1.drop (i+1):=by rw [← WT,← bf oE,aE]
  have e4:=fM (t.2.1.take i) (k::t.2.1.drop (i+1));have e5:=iN k (t.2.1.drop (i+1));rw [← OR] at e4;have e6:fD (t.2.1.take (i+1))=fD (t.2.1.take i)+(7+k.size):=by
   have:=fM (t.2.1.take i) [k];rw [ay oE,WT];have e7:=iN k [];have e8:fD []=6:=rfl;omega
  have GY:=O9 k (by rw [← WT];exact aH oE)
  have aca:=GY;unfold cQ at aca;unfold jc at Es;rw [qE] at Es;have cZ:ig (mF h) lo hi (t.2.1.take i++k::t.2.1.drop (i+1)) (t.2.2.take (i+1)++t.2.2.drop (i+1)):=by
   rw [← OR,aE];exact ho
  obtain ⟨g1,g2,g3,g4⟩:=(DB (by rw [ag,ag];omega)).1 cZ
  refine ⟨⟨g3,?_⟩,⟨g4,?_⟩,g1,g2,?_⟩
  ·show 1777≤fD (t.2.1.take i)∧fD (t.2.1.take i)≤4072
   omega
  ·show 1777≤fD (t.2.1.drop (i+1))∧fD (t.2.1.drop (i+1))≤4072
   omega
  ·show (t.2.2.take (i+1)).flatMap (flat h)++(t.2.2.drop (i+1)).flatMap (flat h)=t.2.2.flatMap (flat h)
   rw [← bh,aE]
def Hq(h:Nat)(t:Nd h):Prop:=4072<np h t
def small(h:Nat)(t:Nd h):Prop:=np h t<xC h
def E6(h:Nat)(A B:List ByteArray)(C1:List (Nd h))(x:Nd h)(C2:List (Nd h))(ks:List ByteArray)(cs:List (Nd h)):Prop :=
 (¬ Hq h x∧ks=A++B∧cs=C1++x::C2)∨(Hq h x∧∃ a k b,Cut h x a k b∧ks=A++k::B∧cs=C1++a::b::C2)
def yH(h:Nat)(A B:List ByteArray)(C1:List (Nd h))(x:Nd h)(C2:List (Nd h))(ks:List ByteArray)(cs:List (Nd h)):Prop :=
 (¬ small h x∧E6 h A B C1 x C2 ks cs) ∨
 (small h x∧A=[]∧C1=[]∧∃ k B' b WL,B=k::B'∧C2=b::WL∧E6 h [] B' [] (gQ h x k b) WL ks cs) ∨
 (small h x∧∃ A' k WM a,A=A'++[k]∧C1=WM++[a]∧E6 h A' B WM (gQ h a k x) C2 ks cs)
def Q9(key:ByteArray)(f:List Pr→List Pr):(h:Nat)→Nd h→Nd h→Prop
 | 0,t,t'=>t'=(0,f t.2)
 | h+1,t,t'=>∃ A B C1 c C2,t.2.1=A++B∧t.2.2=C1++c::C2∧A.length=C1.length∧(∀ k ∈ A,df key k=false)∧(∀ k,B.head?=some k→df key k=true)∧∃ c' ks cs,Q9 key f h c c'∧yH h A B C1 c' C2 ks cs∧t'=(0,ks,cs)
structure Fit(key:ByteArray)(f:List Pr→List Pr):Prop where
 loc:∀ X Y Z:List Pr,(∀ p ∈ X,df p.1 key=true)→(∀ p ∈ Z,df key p.1=true)→f (X++(Y++Z))=X++(f Y++Z)
 rise:∀ l,gB l→gB (f l)
 mem:∀ l p,p ∈ f l→p ∈ l∨(p.1=key∧cF p=true)
 size:∀ l,fQ (f l)≤fQ l+960
def Ac:Nat→Nat
 | 0=>960
 | _+1=>262
theorem tK{h:Nat}{A B ks:List ByteArray}{C1 C2 cs:List (Nd h)}{x:Nd h}{lo hi:Option ByteArray}(hw:E6 h A B C1 x C2 ks cs)(hp:tW (mF h) lo hi A C1)(hx:Ok h x (iV lo A) (pJ hi B))(hc:∀ d,mF h d (iV lo A) (pJ hi B)→ig (mF h) (iV lo A) hi B (d::C2))(hl:A.length=C1.length)(hs:¬ small h x)(ab0:np h x≤zA h)(h2:∀ a b k,Qu (iV lo A) (pJ hi B) k→cQ k→mF h a (iV lo A) (some k)→mF h b (some k) (pJ hi B)→ig (mF h) (iV lo A) hi (k::B) (a::b::C2)):ig (mF h) lo hi ks cs∧cs.flatMap (flat h)=C1.flatMap (flat h)++(flat h x++C2.flatMap (flat h))∧fD ks≤fD (A++B)+262:=by
 rcases hw with ⟨hb,rfl,rfl⟩ | ⟨hb,a,k,b,hcut,rfl,rfl⟩
 ·refine ⟨(rP hl).2 ⟨hp,hc x ⟨hx,?_⟩⟩,by simp,by omega⟩
  unfold small at hs;unfold Hq at hb;exact ⟨by omega,by omega⟩
 ·obtain ⟨g1,g2,g3,g4,g5⟩:=P1 hx hcut hb ab0;refine ⟨(rP hl).2 ⟨hp,h2 a b k g3 g4 g1 g2⟩,by simp [← g5],?_⟩
  have e1:=fM A (k::B);have e2:=fM A B;have e3:=iN k B;unfold cQ at g4;omega
theorem Ah{α:Type}{P:α→Option ByteArray→Option ByteArray→Prop}{hi:Option ByteArray}{k:ByteArray}{a:α}:∀ {lo:Option ByteArray} {A:List ByteArray} {C1:List α},A.length=C1.length→(tW P lo hi (A++[k]) (C1++[a])↔tW P lo hi A C1∧Qu (iV lo A) hi k∧cQ k∧P a (iV lo A) (some k))
 | lo,[],[],_=>by simp [tW,iV]
 | _,[],_::_,h=>by simp at h
 | _,_::_,[],h=>by simp at h
 | lo,k1::A,c1::C1,h=>by
  have:=Ah (P:=P) (hi:=hi) (k:=k) (a:=a) (lo:=some k1) (A:=A) (C1:=C1) (by simpa using h)
  simp only [List.cons_append,tW,iV,this,and_assoc]
theorem DA{α:Type}{P:α→Option ByteArray→Option ByteArray→Prop}{lo hi:Option ByteArray}{B:List ByteArray}{a b a' b':α}{k k':ByteArray}{C2:List α}(h:ig P lo hi (k::B) (a::b::C2))(hk:Qu lo (pJ hi B) k')(hm:cQ k')(ha:P a' lo (some k'))(hb:P b' (some k') (pJ hi B)):ig P lo hi (k'::B) (a'::b'::C2):=by
 have h2:=h.2.2.2;cases B with
 | nil=>cases C2 with
  | nil=>exact ⟨hk,hm,ha,hb⟩
  | cons _ _=>simp [ig] at h2
 | cons kb B=>exact ⟨⟨hk.1,fun u hu=>de (hk.2 kb rfl) (h2.1.2 u hu)⟩,hm,ha,⟨⟨fun l hl=>by cases hl;exact hk.2 kb rfl,h2.1.2⟩,h2.2.1,hb,h2.2.2.2⟩⟩
theorem IZ{α:Type}{P:α→Option ByteArray→Option ByteArray→Prop}{lo hi:Option ByteArray}{B:List ByteArray}{a b:α}{k:ByteArray}{C2:List α}(h:ig P lo hi (k::B) (a::b::C2)):Qu lo (pJ hi B) k:=by
 refine ⟨h.1.1,?_⟩;cases B with
 | nil=>exact h.1.2
 | cons kb B=>exact fun u hu=>by cases hu;exact h.2.2.2.1.1 k rfl
theorem xM{h:Nat}{a b:Nd h}{k:ByteArray}(hk:cQ k)(zh:small h a∧Full h b∨Full h a∧small h b):¬ small h (gQ h a k b)∧np h (gQ h a k b)≤zA h:=by
 have h1:=Rs a b k;unfold small Full at *;unfold cQ at hk;cases h with
 | zero=>simp only [xC,zA,if_true] at *;omega
 | succ h=>simp only [xC,zA,Nat.succ_ne_zero,if_false] at *;omega
theorem Kc{h:Nat}{A B ks:List ByteArray}{C1 C2 cs:List (Nd h)}{c x:Nd h}{lo hi:Option ByteArray}(eS:yH h A B C1 x C2 ks cs)(hp:tW (mF h) lo hi A C1)(hc:ig (mF h) (iV lo A) hi B (c::C2))(hx:Ok h x (iV lo A) (pJ hi B))(hl:A.length=C1.length)(cp:np h x≤4072+Ac h):ig (mF h) lo hi ks cs∧cs.flatMap (flat h)=C1.flatMap (flat h)++(flat h x++C2.flatMap (flat h))∧fD ks≤fD (A++B)+262:=by
 have Ub:4072+Ac h≤zA h:=by cases h <;> simp [Ac,zA]
 rcases eS with ⟨hs,hw⟩ | ⟨hs,rfl,rfl,k,B',b,WL,rfl,rfl,hw⟩ | ⟨hs,A',k,WM,a,rfl,rfl,hw⟩
 ·exact tK hw hp hx (fun d hd=>NZ hc hd) hl hs (by omega) (fun a b k h1 h2 h3 h4=>RV hc h1 h2 h3 h4)
 ·have uK:ig (mF h) lo hi (k::B') (c::b::WL):=hc;have hb:=vL uK.2.2.2;have hxb:Ok h x lo (some k):=hx;have hj:Ok h (gQ h x k b) lo (pJ hi B'):=IX hxb hb.1 (IZ uK) uK.2.1;have xS:=xM (a:=x) (b:=b) uK.2.1 (.inl ⟨hs,hb.2⟩);have:=tK (lo:=lo) (hi:=hi) hw trivial hj (fun d hd=>I0 uK hd) rfl xS.1 xS.2 (fun a' b' k' h1 h2 h3 h4=>DA uK h1 h2 h3 h4)
  refine ⟨this.1,by rw [this.2.1,AT];simp,?_⟩
  have e1:=iN k B';have:=this.2.2;simp only [List.nil_append] at this ⊢;omega
 ·have Uf:A'.length=WM.length:=by simpa using hl
  rw [DG] at hc hx;obtain ⟨Vk,hk,hm,ha⟩:=(Ah Uf).1 hp;have uK:ig (mF h) (iV lo A') hi (k::B) (a::c::C2):=⟨hk,hm,ha,hc⟩;have hj:Ok h (gQ h a k x) (iV lo A') (pJ hi B):=IX ha.1 hx (IZ uK) hm;have xS:=xM (a:=a) (b:=x) hm (.inr ⟨ha.2,hs⟩);have:=tK (lo:=lo) (hi:=hi) hw Vk hj (fun d hd=>I0 uK hd) Uf xS.1 xS.2 (fun a' b' k' h1 h2 h3 h4=>DA uK h1 h2 h3 h4)
  refine ⟨this.1,by rw [this.2.1,AT];simp,?_⟩
  have e1:=fM A' B;have e2:=fM (A'++[k]) B;have e3:=fM A' [k];have:=this.2.2;have e4:=iN k [];have e5:fD []=6:=rfl;omega
theorem U9{lo hi:Option ByteArray}{A:List ByteArray}{key:ByteArray}(h:In lo hi key)(hA:∀ k ∈ A,df key k=false):geB (iV lo A) key:=by
 induction A generalizing lo with
 | nil=>exact h.1
 | cons k A ih=>exact ih (lo:=some k) ⟨fun l hl=>by cases hl;exact hA k dh,h.2⟩ (fun k' Q2=>hA k' (dP _ Q2))
theorem MT{key:ByteArray}{f:List Pr→List Pr}(hf:Fit key f):∀ (h:Nat) {t t':Nd h} {lo hi:Option ByteArray},Ok h t lo hi→In lo hi key→Q9 key f h t t'→Ok h t' lo hi∧flat h t'=f (flat h t)∧np h t'≤np h t+Ac h
 | 0,t,t',lo,hi,ho,hk,hu=>by
  have hu:t'=(0,f t.2):=hu;subst hu;refine ⟨⟨hf.rise _ ho.1,fun p hp=>?_⟩,rfl,hf.size t.2⟩
  rcases hf.mem _ p hp with h1 | ⟨h1,h2⟩
  ·exact ho.2 p h1
  ·exact ⟨h2,by rw [h1];exact hk⟩
 | h+1,t,t',lo,hi,ho,hk,hu=>by
  obtain ⟨A,B,C1,c,C2,e1,e2,hl,hA,hB,c',ks,cs,hu',eS,rfl⟩:=hu;have OZ:ig (mF h) lo hi (A++B) (C1++c::C2):=by rw [← e1,← e2];exact ho
  obtain ⟨hp,hc⟩:=(rP hl).1 OZ;have vX:=vL hc;have FE:In (iV lo A) (pJ hi B) key:=by
   refine ⟨U9 hk hA,?_⟩;cases B with
   | nil=>exact hk.2
   | cons kb B=>exact fun u hu=>by cases hu;exact hB kb rfl
  obtain ⟨r1,r2,r3⟩:=MT hf h vX.1 FE hu';have hfc:=vX.2.2;obtain ⟨g1,g2,g3⟩:=Kc eS hp hc r1 hl (by omega)
  refine ⟨g1,?_,?_⟩
  ·show cs.flatMap (flat h)=f (t.2.2.flatMap (flat h))
   rw [g2,e2,bh,List.flatMap_cons,r2,hf.loc _ _ _ (vG (P:=mF h) (fun _ _ _ hc=>uy h hc.1) hp hA) (A6 (P:=mF h) (fun _ _ _ hc=>uy h hc.1) hc hB)]
  ·show fD ks≤fD t.2.1+262
   rw [e1];exact g3
end Go.Proofs.YtihmgigfkmofnaaGreatDoor
