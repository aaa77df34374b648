import Derived.Test.YtihmgigfkmofnaaGreatDoorG01
import Derived.WalkMore
set_option maxHeartbeats 1000000
open Go.Proofs.Tryz
namespace Go.Proofs.YtihmgigfkmofnaaGreatDoor
namespace B
open Go.RowKit
def p9(n:Nat):Int:=IntKind.i64.wrap (n:Int)
theorem Bb(a b:Nat):IntKind.i64.wrap (p9 a+(b:Int))=p9 (a+b):=by
 unfold p9;rw [IntKind.wrap_i64,IntKind.wrap_i64,IntKind.wrap_i64];omega
theorem kW{n:Nat}(h:n≤4611686018427387904):p9 n=(n:Int):=by
 unfold p9;rw [IntKind.wrap_i64];omega
theorem A2(f:Int)(v:Value)(l:List Lk)(w:World)(cT:UX l)(hm:l.length≤140737488355328)(hr:cV w v l):Calls prog 156 #[.agg #[.int .i64 f,v]] w fun e w'=>e = .returned (.int .i64 (p9 (jL l)))∧Below w.heap.size w w':=by
 obtain ⟨a,cap,hv⟩:=hr.form;subst hv;obtain ⟨n,hn⟩ : ∃ n,n=l.length:=⟨_,rfl⟩;rw [← hn] at hr hm ⊢;have q0:=ai w (.cells #[.int .i64 f,.slice a n cap] 150);have x0:=ax.new w #[.int .i64 f,.slice a n cap] 150;generalize Cv:w.alloc (.cells #[.int .i64 f,.slice a n cap] 150)=W0 at *;have p1:=x0.c1;have HR:=ab (hr.below q0);have HN:=ab hn;have pN:=ab cT;have HQ:=ab q0;have H0:Hid (p9 (jL (l.take 0))=6):=by show _=_;simp [Bg,kW]
 clear hn cT hr q0 x0;go_enter func156,ntmps156;go_wp2;clear p1;go_loopw [3,9] (fun r i wr=>∃ k:Nat,k≤n∧i = .int .i64 k∧r = .int .i64 (p9 (jL (l.take k)))∧Below W0.heap.size W0 wr) (fun _ i _=>n - (intOf i).toNat)
 case atStart=>exact ⟨0,aD _,rfl,by rw [H0.out],Below.refl _ _⟩
 case round =>
  obtain ⟨k,hk,rfl,rfl,bO⟩:=hrel;by_cases bP:k<n
  ·have dm:k<l.length:=by have:=HN.out;omega
   obtain ⟨g,o,rfl,c1,c2⟩:=(HR.out.below bO).spot k dm;have AM:=pN.out l[k] (aH _);have zp:IntKind.i64.wrap (p9 (jL (l.take k))+(yQ l[k] : Int))=p9 (jL (l.take (k+1))):=by rw [Bb,← zg l k dm]
   obtain ⟨p,hp⟩ : ∃ p,p=l[k]:=⟨_,rfl⟩;rw [← hp] at c1 c2 zp AM;have HZ:=ab (fun W=>u9 p W AM)
   obtain ⟨x,hx⟩ : ∃ x,x=p9 (jL (l.take k)):=⟨_,rfl⟩;obtain ⟨y,hy⟩ : ∃ y,y=p9 (jL (l.take (k+1))):=⟨_,rfl⟩;obtain ⟨z,hz⟩ : ∃ z,z=yQ p:=⟨_,rfl⟩;rw [← hx,← hy,← hz] at zp;rw [← hx];rw [← hz] at HZ;have HY:=ab hy;have dS:(k:Int)<(n:Int):=by omega
   have HB:=ab (Below.next bO (ai wr (.cells #[.string p.1,.int .i64 p.2] 179)));clear hp hx hy hz bO AM;go_wp2_with fail;refine (HZ.out _).mono ?_
   rintro e w1 ⟨rfl,aP⟩;have bQ:=ab (Below.next HB.out aP);clear aP HB HZ c1 c2;go_wp2;go_roundw
   case rel=>exact ⟨k+1,by omega,by go_num,by rw [← HY.out],bQ.out⟩
   case measure=>simp [intOf];omega
  ·have dj:l.take k=l:=by rw [aq];have:=HN.out;omega
   rw [dj];have HB:=ab (Below.next HQ.out bO);have dS:¬ (k:Int)<(n:Int):=by omega
   obtain ⟨x,hx⟩ : ∃ x,x=p9 (jL l):=⟨_,rfl⟩;rw [← hx];have HX:=ab hx;clear bO dj hx;go_wp2;go_ret;exact ⟨by rw [← HX.out];rfl,HB.out⟩
theorem DN(n:Int)(w:World):Calls prog 195 #[.int .i64 n] w fun e w'=>e = .returned (.bool (fX n))∧w=w':=by
 by_cases h1:2≤n
 ·by_cases h2:n<1048576
  ·have hm:fX n=true:=decide_eq_true ⟨h1,h2⟩;rw [hm];clear hm;go_enter func195,ntmps195;go_wp2;go_ret;exact ⟨rfl,rfl⟩
  ·have hm:fX n=false:=decide_eq_false (fun h=>h2 h.2)
   rw [hm];clear hm;go_enter func195,ntmps195;go_wp2;go_ret;exact ⟨rfl,rfl⟩
 ·have hm:fX n=false:=decide_eq_false (fun h=>h1 h.1)
  rw [hm];clear hm;go_enter func195,ntmps195;go_wp2;go_ret;exact ⟨rfl,rfl⟩
theorem Sy(p:Lk)(w:World):Calls prog 198 #[.agg #[.string p.1,.int .i64 p.2]] w fun e w'=>e = .returned (.bool (gz p))∧Below w.heap.size w w':=by
 have HB:=ab (ai w (.cells #[.string p.1,.int .i64 p.2] 179));by_cases h1:1≤p.1.size
 ·have i1:(1:Int)≤(p.1.size:Int):=by omega
  by_cases h2:p.1.size≤255
  ·have i2:(p.1.size:Int)≤255:=by omega
   have hm:gz p=fX p.2:=by
    unfold gz fX;congr 1
    apply propext
    exact ⟨fun h=>h.2.2,fun h=>⟨h1,h2,h⟩⟩
   rw [hm];have HC:=ab (fun W=>DN p.2 W)
   generalize fX p.2=cb at *;clear hm;go_enter func198,ntmps198;go_wp2_with fail;refine (HC.out _).mono ?_
   rintro e w1 ⟨rfl,rfl⟩;go_wp2;go_ret;exact ⟨rfl,HB.out⟩
  ·have i2:¬ (p.1.size:Int)≤255:=by omega
   have hm:gz p=false:=decide_eq_false (fun h=>h2 h.2.1)
   rw [hm];clear hm;go_enter func198,ntmps198;go_wp2;go_ret;exact ⟨rfl,HB.out⟩
 ·have i1:¬ (1:Int)≤(p.1.size:Int):=by omega
  have hm:gz p=false:=decide_eq_false (fun h=>h1 h.1)
  rw [hm];clear hm;go_enter func198,ntmps198;go_wp2;go_ret;exact ⟨rfl,HB.out⟩
theorem QR(p:Lk)(w:World):Calls prog 197 #[.agg #[.string p.1,.int .i64 p.2]] w fun e w'=>e = .returned (.bool (!gz p))∧Below w.heap.size w w':=by
 have HB:=ab (ai w (.cells #[.string p.1,.int .i64 p.2] 179));have HC:=ab (fun W=>Sy p W)
 generalize gz p=cb at *;go_enter func197,ntmps197;go_wp2_with fail;refine (HC.out _).mono ?_
 rintro e w1 ⟨rfl,aP⟩;have bQ:=ab (Below.next HB.out aP);clear aP;go_wp2;go_ret;exact ⟨rfl,bQ.out⟩
theorem K5(v:Value)(l:List Lk)(w:World)(hm:l.length≤140737488355328)(hr:cV w v l):Calls prog 230 #[v,.func (.func 197) #[] #[]] w fun e w'=>((l.all gz=true∧e = .returned (.int .i64 (-1)))∨(l.all gz=false∧∃ k:Nat,e = .returned (.int .i64 (k:Int))))∧Below w.heap.size w w':=by
 obtain ⟨a,cap,hv⟩:=hr.form;subst hv;obtain ⟨n,hn⟩ : ∃ n,n=l.length:=⟨_,rfl⟩;rw [← hn] at hr hm ⊢;have HR:=ab hr;have HN:=ab hn;obtain ⟨Q,hQ⟩ : ∃ Q:Ending→World→Prop,Q=fun e w'=>((l.all gz=true∧e = .returned (.int .i64 (-1)))∨(l.all gz=false∧∃ k:Nat,e = .returned (.int .i64 (k:Int))))∧Below w.heap.size w w':=⟨_,rfl⟩
 rw [← hQ];have HQ:=ab hQ;clear hn hr hQ;go_enter func230,ntmps230;go_wp2;go_loopw [8] (fun i wr=>∃ k:Nat,k≤n∧i = .int .i64 k∧(∀ j (h:j<l.length),j<k→gz l[j]=true)∧Below w.heap.size w wr) (fun i _=>n - (intOf i).toNat)
 case atStart=>exact ⟨0,aD _,rfl,fun j _ h=>absurd h (eX _),Below.refl _ _⟩
 case round =>
  obtain ⟨k,hk,rfl,gB,bO⟩:=hrel;have HP:=ab gB;clear gB;by_cases bP:k<n
  ·have dm:k<l.length:=by have:=HN.out;omega
   obtain ⟨g,o,rfl,c1,c2⟩:=(HR.out.below bO).spot k dm;have HF:=ab (fun W=>QR l[k] W)
   have p7:Hid (gz l[k]=true→∀ j (h:j<l.length),j<k+1→gz l[j]=true):=fun hl j h hj=>by
    by_cases he:j=k
    ·subst he;exact hl
    ·exact HP.out j h (by omega)
   have yY:Hid (gz l[k]=false→l.all gz=false):=fun hl=>by rw [List.all_eq_false];exact ⟨l[k],aH _,by simp [hl]⟩
   obtain ⟨p,hp⟩ : ∃ p,p=l[k]:=⟨_,rfl⟩;rw [← hp] at c1 c2 HF p7 yY;have dS:(k:Int)<(n:Int):=by omega
   have j0:(0:Int)≤(k:Int):=by omega
   have HB:=ab bO;clear hp bO;cases hb:gz p with
   | true =>
    rw [hb] at HF;have uh:=ab (p7.out hb);clear p7 yY hb;go_wp2_with fail;refine (HF.out _).mono ?_
    rintro e w1 ⟨rfl,aP⟩;have bQ:=ab (Below.next HB.out aP);clear aP HB HF c1 c2;go_wp2;go_roundw
    case rel=>exact ⟨k+1,by omega,by go_num,uh.out,bQ.out⟩
    case measure=>simp [intOf];omega
   | false =>
    rw [hb] at HF;have Ig:=ab (yY.out hb);clear p7 yY hb;go_wp2_with fail;refine (HF.out _).mono ?_
    rintro e w1 ⟨rfl,aP⟩;have bQ:=ab (Below.next HB.out aP);clear aP HB HF c1 c2;go_wp2;rw [HQ.out];exact ⟨.inr ⟨Ig.out,k,rfl⟩,bQ.out⟩
  ·have dS:¬ (k:Int)<(n:Int):=by omega
   have Ih:Hid (l.all gz=true):=List.all_eq_true.2 (fun p hp=>by
    obtain ⟨i,hi,rfl⟩:=aQ hp;exact HP.out i hi (by have:=HN.out;omega))
   have HB:=ab bO;clear bO HP;go_wp2;rw [HQ.out];exact ⟨.inl ⟨Ih.out,rfl⟩,HB.out⟩
theorem GQ(v:Value)(l:List Lk)(w:World)(hm:l.length≤140737488355328)(hr:cV w v l):Calls prog 196 #[v,.func (.func 197) #[] #[]] w fun e w'=>e = .returned (.bool (!l.all gz))∧Below w.heap.size w w':=by
 have HI:=ab (K5 v l w hm hr);obtain ⟨a,cap,hv⟩:=hr.form;subst hv;clear hr;go_enter func196,ntmps196;go_wp2_with fail;refine HI.out.mono ?_
 rintro e w1 ⟨⟨dj,rfl⟩ | ⟨dj,k,rfl⟩,aP⟩
 ·have HB:=ab aP;have HA:=ab dj;clear aP dj HI;go_wp2;go_ret;exact ⟨by rw [HA.out];rfl,HB.out⟩
 ·have HB:=ab aP;have HA:=ab dj;have hk:(0:Int)≤(k:Int):=by omega
  clear aP dj HI;go_wp2;go_ret;exact ⟨by rw [HA.out];rfl,HB.out⟩
theorem H6(f:Int)(v:Value)(l:List Lk)(w:World)(hm:l.length≤140737488355328)(hr:cV w v l):Calls prog 157 #[.agg #[.int .i64 f,v]] w fun e w'=>e = .returned (.bool (fX f && l.all gz))∧Below w.heap.size w w':=by
 obtain ⟨a,cap,hv⟩:=hr.form;subst hv;have q0:=ai w (.cells #[.int .i64 f,.slice a l.length cap] 150);have x0:=ax.new w #[.int .i64 f,.slice a l.length cap] 150;generalize Cv:w.alloc (.cells #[.int .i64 f,.slice a l.length cap] 150)=W0 at *;have p0:=x0.c0;have p1:=x0.c1;have HK:=ab (GQ _ l W0 hm (hr.below q0));have HC:=ab (DN f W0);have HQ:=ab q0;generalize l.length=n at *;generalize l.all gz=lb at *;clear q0 x0 hr;cases hc:fX f with
 | true =>
  rw [hc] at HC;clear hc;go_enter func157,ntmps157;go_wp2_with fail;refine HC.out.mono ?_
  rintro e w1 ⟨rfl,rfl⟩;go_wp2_with fail;refine HK.out.mono ?_
  rintro e w2 ⟨rfl,aO⟩;have HB:=ab (Below.next HQ.out aO);clear aO HK HC p0 p1;go_wp2;go_ret;exact ⟨by cases lb <;> rfl,HB.out⟩
 | false =>
  rw [hc] at HC;clear hc;go_enter func157,ntmps157;go_wp2_with fail;refine HC.out.mono ?_
  rintro e w1 ⟨rfl,rfl⟩;clear HC HK;go_wp2;go_ret;exact ⟨by cases lb <;> rfl,HQ.out⟩
end B
theorem ED{l:List Pr}{key:ByteArray}(h:bh l key=true):(l[aJ l key]'(fG h)).1=key:=by
 have:=mD (fG h);rw [h] at this;exact of_decide_eq_true this.symm
theorem Lw{l:List Pr}{key:ByteArray}(h:bh l key=false)(hl:aJ l key<l.length):¬ (l[aJ l key]).1=key:=by
 have:=mD hl;rw [h] at this;exact of_decide_eq_false this.symm
theorem A7(l:List Pr)(key:ByteArray):bZ l key=aJ l key+(if bh l key then 1 else 0):=by
 unfold bZ;split <;> rfl
theorem sD{l:List Pr}{key:ByteArray}(hr:gD l)(j:Nat)(hj:j<l.length)(hb:bZ l key≤j):cX key l[j].1=true:=by
 have hq:aJ l key<l.length:=by have:=eQ l key;omega
 cases hf:bh l key with
 | true =>
  have he:=ED hf;have bP:aJ l key<j:=by rw [A7,hf] at hb;simp at hb;omega
  have:=hr.lt (aJ l key) j hj bP;rw [he] at this;exact this
 | false =>
  have dK:=Lw hf hq;have BO:=sw l key hq;have bP:cX key (l[aJ l key]).1=true:=by
   cases h:cX key (l[aJ l key]).1 with
   | true=>rfl
   | false=>exact absurd (mu BO h) dK
  by_cases he:j=aJ l key
  ·subst he;exact bP
  ·have:aJ l key<j:=by have:=eQ l key;omega
   exact dk bP (hr.lt (aJ l key) j hj this)
theorem oz(l:List Pr)(key value:ByteArray):(fc l key value).length=aJ l key+1+(l.length - bZ l key):=by
 have:=cp l key;simp only [fc,ae,List.length_cons,ag,ao];omega
theorem tW(l:List Pr)(key:ByteArray):(cU l key).length=aJ l key+(l.length - bZ l key):=by
 have:=cp l key;simp only [cU,ae,ag,ao];omega
theorem Sa(l:List Pr)(key value:ByteArray):∃ h:aJ l key<(fc l key value).length,(fc l key value)[aJ l key]=(key,value):=by
 have hq:=cp l key;refine ⟨by rw [oz];omega,?_⟩
 have:(fc l key value)[aJ l key]?=some (key,value):=by
  unfold fc;rw [aZ (by rw [ag];omega),ag,show aJ l key - min (aJ l key) l.length=0 by omega]
  rfl
 rw [af (by rw [oz];omega)] at this
 exact Option.some.inj this
theorem Gf(l:List Pr)(key value:ByteArray)(j:Nat)(hj:j<aJ l key)(h:j<(fc l key value).length):cX ((fc l key value)[j]).1 key=true:=by
 have hq:=cp l key;have:(fc l key value)[j]?=some (l[j]'(by omega)):=by
  unfold fc;rw [bu (by rw [ag];omega),cy,if_pos hj,af]
 rw [af h] at this;rw [Option.some.inj this];exact kx l key j hj (by omega)
theorem LU{l:List Pr}{key:ByteArray}(j:Nat)(h:j<(cU l key).length):(j<aJ l key∧∃ hj:j<l.length,(cU l key)[j]=l[j])∨(aJ l key≤j∧∃ hj:bZ l key+(j - aJ l key)<l.length,(cU l key)[j]=l[bZ l key+(j - aJ l key)]):=by
 have hq:=cp l key;have VY:=tW l key;by_cases hj:j<aJ l key
 ·refine .inl ⟨hj,by omega,?_⟩
  have:(cU l key)[j]?=some (l[j]'(by omega)):=by
   unfold cU;rw [bu (by rw [ag];omega),cy,if_pos hj,af]
  rw [af h] at this;exact Option.some.inj this
 ·have hb:bZ l key+(j - aJ l key)<l.length:=by omega
  refine .inr ⟨by omega,hb,?_⟩
  have:(cU l key)[j]?=some l[bZ l key+(j - aJ l key)]:=by
   unfold cU;rw [aZ (by rw [ag];omega),ag,show min (aJ l key) l.length=aJ l key by omega,cN,af]
  rw [af h] at this;exact Option.some.inj this
theorem LO{l:List Pr}{key:ByteArray}(hr:gD l):bh (cU l key) key=false:=by
 cases hf:bh (cU l key) key with
 | false=>rfl
 | true =>
  exfalso
  have he:=ED hf;rcases LU _ (fG hf) with ⟨h1,h2,h3⟩ | ⟨h1,h2,h3⟩
  ·rw [h3] at he;have:=kx l key _ h1 h2;rw [he,gS] at this;cases this
  ·rw [h3] at he;have:=sD (key:=key) hr _ h2 (by omega)
   rw [he,gS] at this;cases this
theorem drop_drop{l:List Pr}{key:ByteArray}(hr:gD l):cU (cU l key) key=cU l key:=by
 have h:=LO (l:=l) (key:=key) hr;have hb:bZ (cU l key) key=aJ (cU l key) key:=by rw [A7,h];rfl
 have e:∀ m:List Pr,cU m key=m.take (aJ m key)++m.drop (bZ m key):=fun _=>rfl
 rw [e (cU l key),hb,aG]
theorem NN{l:List Pr}{key value:ByteArray}(hr:gD l):gD (fc l key value):=by
 obtain ⟨sk,he⟩:=Sa l key value;have hq:=cp l key;have VY:=oz l key value;intro i hi;have get:∀ j (hj:j<(fc l key value).length),aJ l key<j→∃ hb:bZ l key+(j - (aJ l key+1))<l.length,(fc l key value)[j]=l[bZ l key+(j - (aJ l key+1))]:=fun j hj bP=>by
  have hb:bZ l key+(j - (aJ l key+1))<l.length:=by omega
  refine ⟨hb,?_⟩;have:(fc l key value)[j]?=some l[bZ l key+(j - (aJ l key+1))]:=by
   unfold fc;rw [aZ (by rw [ag];omega),ag,show min (aJ l key) l.length=aJ l key by omega,show j - aJ l key=(j - (aJ l key+1))+1 by omega,List.getElem?_cons_succ,cN,af]
  rw [af hj] at this;exact Option.some.inj this
 rcases Nat.lt_trichotomy (i+1) (aJ l key) with h | h | h
 ·have g:∀ j (hj:j<aJ l key) (Zn:j<(fc l key value).length),(fc l key value)[j]=l[j]'(by omega):=fun j hj Zn=>by
   have:(fc l key value)[j]?=some (l[j]'(by omega)):=by
    unfold fc;rw [bu (by rw [ag];omega),cy,if_pos hj,af]
   rw [af Zn] at this;exact Option.some.inj this
  rw [g i (by omega) (by omega),g (i+1) h hi]
  exact hr i (by omega)
 ·have h2:=Gf l key value i (by omega) (by omega)
  have:((fc l key value)[i+1]).1=key:=by simp only [h,he]
  rw [this];exact h2
 ·by_cases vz:i=aJ l key
  ·have:((fc l key value)[i]).1=key:=by simp only [vz,he]
   obtain ⟨hb,hg⟩:=get (i+1) hi h;rw [this,hg];exact sD hr _ hb (by omega)
  ·obtain ⟨aP,fK⟩:=get i (by omega) (by omega)
   obtain ⟨aO,zE⟩:=get (i+1) hi h;rw [fK,zE];exact hr.lt _ _ aO (by omega)
theorem Ul{a b c:ByteArray}(h1:cX b a=false)(h2:cX b c=true):cX a c=true:=by
 cases h:cX a b
 ·rw [mu h h1];exact h2
 ·exact dk h h2
theorem DP{a b c:ByteArray}(h1:cX a b=true)(h2:cX c b=false):cX a c=true:=by
 cases h:cX b c
 ·rw [← mu h h2];exact h1
 ·exact dk h1 h
def geB(lo:Option ByteArray)(k:ByteArray):Prop:=∀ l,lo=some l→cX k l=false
def ltB(k:ByteArray)(hi:Option ByteArray):Prop:=∀ u,hi=some u→cX k u=true
def In(lo hi:Option ByteArray)(k:ByteArray):Prop:=geB lo k∧ltB k hi
def cW(k:ByteArray):Prop:=1≤k.size∧k.size≤255
theorem Jc(k:ByteArray):In none none k:=⟨(fun _ h=>nomatch h),(fun _ h=>nomatch h)⟩
def gtB(lo:Option ByteArray)(k:ByteArray):Prop:=∀ l,lo=some l→cX l k=true
def QU(lo hi:Option ByteArray)(k:ByteArray):Prop:=gtB lo k∧ltB k hi
def Nd:Nat→Type
 | 0=>Nat × List Pr
 | h+1=>Nat × List ByteArray × List (Nd h)
def flat:(h:Nat)→Nd h→List Pr
 | 0,t=>t.2
 | h+1,t=>t.2.2.flatMap (flat h)
def fD(ks:List ByteArray):Nat:=6+(ks.map fun k=>7+k.size).sum
def nK:(h:Nat)→Nd h→Nat
 | 0,t=>fL t.2
 | _+1,t=>fD t.2.1
def xD:Nat→Nat
 | 0=>1556
 | _+1=>1777
def Full(h:Nat)(t:Nd h):Prop:=xD h≤nK h t∧nK h t≤4072
def gX{α:Type}(P:α→Option ByteArray→Option ByteArray→Prop):Option ByteArray→Option ByteArray→List ByteArray→List α→Prop
 | lo,hi,[],[c]=>P c lo hi
 | lo,hi,k::ks,c::cs=>QU lo hi k∧cW k∧P c lo (some k)∧gX P (some k) hi ks cs
 | _,_,_,_=>False
def Ok:(h:Nat)→Nd h→Option ByteArray→Option ByteArray→Prop
 | 0,t,lo,hi=>gD t.2∧∀ p ∈ t.2,cP p=true∧In lo hi p.1
 | h+1,t,lo,hi=>gX (fun c lo hi=>Ok h c lo hi∧Full h c) lo hi t.2.1 t.2.2
def ld(h:Nat)(c:Nd h)(lo hi:Option ByteArray):Prop:=Ok h c lo hi∧Full h c
theorem fy(h:Nat)(t:Nd (h+1))(lo hi:Option ByteArray):Ok (h+1) t lo hi↔gX (ld h) lo hi t.2.1 t.2.2:=Iff.rfl
section lists
variable {α:Type} {P:α→Option ByteArray→Option ByteArray→Prop}
def uf(P:α→Option ByteArray→Option ByteArray→Prop):Option ByteArray→Option ByteArray→List ByteArray→List α→Prop
 | _,_,[],[]=>True
 | lo,hi,k::ks,c::cs=>QU lo hi k∧cW k∧P c lo (some k)∧uf P (some k) hi ks cs
 | _,_,_,_=>False
def jg(lo:Option ByteArray):List ByteArray→Option ByteArray
 | []=>lo
 | k::ks=>jg (some k) ks
theorem pB{A B:List ByteArray}{C1 C2:List α}{c:α}:∀ {lo hi:Option ByteArray},A.length=C1.length→(gX P lo hi (A++B) (C1++c::C2)↔uf P lo hi A C1∧gX P (jg lo A) hi B (c::C2)):=by
 induction A generalizing C1 with
 | nil =>
  intro lo hi hl;have:C1=[]:=List.length_eq_zero_iff.1 hl.symm;subst this;simp [uf,jg]
 | cons k A ih =>
  intro lo hi hl;cases C1 with
  | nil=>simp at hl
  | cons c1 C1 =>
   have Tb:A.length=C1.length:=by simpa using hl
   have:=ih (C1:=C1) (lo:=some k) (hi:=hi) Tb;simp only [List.cons_append,gX,uf,jg,this,and_assoc]
theorem j9:∀ {lo hi:Option ByteArray} {ks:List ByteArray} {cs:List α},gX P lo hi ks cs→cs.length=ks.length+1
 | _,_,[],[_],_=>rfl
 | _,_,[],[],h=>by simp [gX] at h
 | _,_,[],_::_::_,h=>by simp [gX] at h
 | _,_,_::_,[],h=>by simp [gX] at h
 | _,_,k::ks,c::cs,h=>by
  have:=j9 h.2.2.2;simp only [List.length_cons];omega
theorem DL(lo:Option ByteArray)(A:List ByteArray)(k:ByteArray):jg lo (A++[k])=some k:=by
 induction A generalizing lo with
 | nil=>rfl
 | cons a A ih=>exact ih (some a)
def pO(hi:Option ByteArray):List ByteArray→Option ByteArray
 | []=>hi
 | k::_=>some k
theorem rO{lo hi:Option ByteArray}{B:List ByteArray}{c:α}{C2:List α}(h:gX P lo hi B (c::C2)):P c lo (pO hi B):=by
 cases B with
 | nil=>cases C2 with
  | nil=>exact h
  | cons _ _=>simp [gX] at h
 | cons k B=>exact h.2.2.1
theorem Oo{lo hi:Option ByteArray}{B:List ByteArray}{c d:α}{C2:List α}(h:gX P lo hi B (c::C2))(hd:P d lo (pO hi B)):gX P lo hi B (d::C2):=by
 cases B with
 | nil=>cases C2 with
  | nil=>exact hd
  | cons _ _=>simp [gX] at h
 | cons k B=>exact ⟨h.1,h.2.1,hd,h.2.2.2⟩
theorem Su{lo hi:Option ByteArray}{B:List ByteArray}{c a b:α}{k:ByteArray}{C2:List α}(h:gX P lo hi B (c::C2))(hk:QU lo (pO hi B) k)(hm:cW k)(ha:P a lo (some k))(hb:P b (some k) (pO hi B)):gX P lo hi (k::B) (a::b::C2):=by
 have hkh:QU lo hi k:=by
  refine ⟨hk.1,?_⟩;cases B with
  | nil=>exact hk.2
  | cons kb B=>exact fun u hu=>dk (hk.2 kb rfl) (h.1.2 u hu)
 refine ⟨hkh,hm,ha,?_⟩;cases B with
 | nil=>cases C2 with
  | nil=>exact hb
  | cons _ _=>simp [gX] at h
 | cons kb B=>exact ⟨⟨fun l hl=>by cases hl;exact hk.2 kb rfl,h.1.2⟩,h.2.1,hb,h.2.2.2⟩
theorem I1{lo hi:Option ByteArray}{B:List ByteArray}{a b c:α}{k:ByteArray}{C2:List α}(h:gX P lo hi (k::B) (a::b::C2))(hc:P c lo (pO hi B)):gX P lo hi B (c::C2):=by
 have h2:=h.2.2.2;cases B with
 | nil=>cases C2 with
  | nil=>exact hc
  | cons _ _=>simp [gX] at h2
 | cons kb B=>exact ⟨⟨fun l hl=>dk (h.1.1 l hl) (h2.1.1 k rfl),h2.1.2⟩,h2.2.1,hc,h2.2.2.2⟩
theorem DE{lo hi:Option ByteArray}{A B:List ByteArray}{k:ByteArray}:∀ {C1 C2:List α},A.length+1=C1.length→(gX P lo hi (A++k::B) (C1++C2)↔QU lo hi k∧cW k∧gX P lo (some k) A C1∧gX P (some k) hi B C2):=by
 induction A generalizing lo with
 | nil =>
  intro C1 C2 hl;match C1,hl with
  | [c],_=>simp [gX]
 | cons a A ih =>
  intro C1 C2 hl;cases C1 with
  | nil=>simp at hl
  | cons c C1 =>
   have Tb:A.length+1=C1.length:=by simpa using hl
   have:=ih (lo:=some a) (C1:=C1) (C2:=C2) Tb;simp only [List.cons_append,gX,this];constructor
   ·rintro ⟨h1,h2,h3,h4,h5,h6,h7⟩;exact ⟨⟨fun l hl=>dk (h1.1 l hl) (h4.1 a rfl),h4.2⟩,h5,⟨⟨h1.1,fun u hu=>by cases hu;exact h4.1 a rfl⟩,h2,h3,h6⟩,h7⟩
   ·rintro ⟨h1,h2,⟨h3,h4,h5,h6⟩,h7⟩;exact ⟨⟨h3.1,fun u hu=>dk (h3.2 k rfl) (h1.2 u hu)⟩,h4,h5,⟨fun l hl=>by cases hl;exact h3.2 k rfl,h1.2⟩,h2,h6,h7⟩
end lists
theorem xz{α:Type}{P:α→Option ByteArray→Option ByteArray→Prop}{F:α→List Pr}(hP:∀ c lo hi,P c lo hi→∀ p ∈ F c,In lo hi p.1):∀ {lo hi:Option ByteArray} {ks:List ByteArray} {cs:List α},gX P lo hi ks cs→∀ p ∈ cs.flatMap F,In lo hi p.1
 | lo,hi,[],[c],h,p,hp=>by
  simp only [List.flatMap_cons,List.flatMap_nil,List.append_nil] at hp;exact hP c lo hi h p hp
 | _,_,[],[],h,_,_=>by simp [gX] at h
 | _,_,[],_::_::_,h,_,_=>by simp [gX] at h
 | _,_,_::_,[],h,_,_=>by simp [gX] at h
 | lo,hi,k::ks,c::cs,h,p,hp=>by
  simp only [List.flatMap_cons,cA] at hp;rcases hp with hp | hp
  ·have h1:=hP c lo (some k) h.2.2.1 p hp;exact ⟨h1.1,fun u hu=>dk (h1.2 k rfl) (h.1.2 u hu)⟩
  ·have h1:=xz hP h.2.2.2 p hp;exact ⟨fun l hl=>mw (DP (h.1.1 l hl) (h1.1 k rfl)),h1.2⟩
theorem qe:∀ (h:Nat) {t:Nd h} {lo hi:Option ByteArray},Ok h t lo hi→∀ p ∈ flat h t,In lo hi p.1
 | 0,_,_,_,hk,p,hp=>(hk.2 p hp).2
 | h+1,_,_,_,hk,p,hp=>xz (P:=ld h) (F:=flat h) (fun _ _ _ hc=>qe h hc.1) hk p hp
theorem rL{α:Type}{P:α→Option ByteArray→Option ByteArray→Prop}{F:α→List Pr}(hP:∀ c lo hi,P c lo hi→∀ p ∈ F c,In lo hi p.1){hi:Option ByteArray}{key:ByteArray}:∀ {lo:Option ByteArray} {A:List ByteArray} {C1:List α},uf P lo hi A C1→(∀ k ∈ A,cX key k=false)→∀ p ∈ C1.flatMap F,cX p.1 key=true
 | _,[],[],_,_,p,hp=>by simp at hp
 | _,[],_::_,h,_,_,_=>by simp [uf] at h
 | _,_::_,[],h,_,_,_=>by simp [uf] at h
 | lo,k::A,c::C1,h,hA,p,hp=>by
  simp only [List.flatMap_cons,cA] at hp;rcases hp with hp | hp
  ·have h1:=hP c lo (some k) h.2.2.1 p hp;exact DP (h1.2 k rfl) (hA k dq)
  ·exact rL hP h.2.2.2 (fun k hk=>hA k (dU _ hk)) p hp
theorem ub{α:Type}{P:α→Option ByteArray→Option ByteArray→Prop}{F:α→List Pr}(hP:∀ c lo hi,P c lo hi→∀ p ∈ F c,In lo hi p.1){lo hi:Option ByteArray}{key:ByteArray}{B:List ByteArray}{c:α}{C2:List α}(h:gX P lo hi B (c::C2))(hB:∀ k,B.head?=some k→cX key k=true):∀ p ∈ C2.flatMap F,cX key p.1=true:=by
 cases B with
 | nil=>cases C2 with
  | nil=>intro p hp;simp at hp
  | cons _ _=>simp [gX] at h
 | cons k B =>
  intro p hp;have h1:=xz hP h.2.2.2 p hp;exact DP (hB k rfl) (h1.1 k rfl)
theorem uB{a b:List Pr}(ha:gD a)(hb:gD b)(Cu:∀ p ∈ a,∀ q ∈ b,cX p.1 q.1=true):gD (a++b):=fun i hi=>by
 rw [ae] at hi;by_cases h1:i+1<a.length
 ·rw [aI (by omega),aI h1];exact ha i h1
 ·by_cases h2:i<a.length
  ·rw [aI h2,bt (by omega)]
   exact Cu _ (aH _) _ (aH _)
  ·rw [bt (by omega),bt (by omega)]
   simp only [show i+1 - a.length=i - a.length+1 by omega]
   exact hb (i - a.length) (by omega)
theorem qA{a b:List Pr}(h:gD (a++b)):gD a∧gD b∧∀ p ∈ a,∀ q ∈ b,cX p.1 q.1=true:=by
 refine ⟨?_,?_,fun p hp q hq=>?_⟩
 ·have:=h.take a.length;rwa [et] at this
 ·have:=h.drop a.length;rwa [fJ] at this
 ·obtain ⟨i,hi,rfl⟩:=aQ hp;obtain ⟨j,hj,rfl⟩:=aQ hq;have:=h.lt i (a.length+j) (by rw [ae];omega) (by omega)
  rw [aI hi,bt (by omega)] at this
  simpa using this
def js:(h:Nat)→Nd h→ByteArray→Nd h→Nd h
 | 0,a,_,b=>(0,a.2++b.2)
 | _+1,a,k,b=>(0,a.2.1++k::b.2.1,a.2.2++b.2.2)
theorem AU(h:Nat)(a b:Nd h)(k:ByteArray):flat h (js h a k b)=flat h a++flat h b:=by
 cases h with
 | zero=>rfl
 | succ h=>simp [flat,js]
theorem IZ{h:Nat}{a b:Nd h}{k:ByteArray}{lo hi:Option ByteArray}(ha:Ok h a lo (some k))(hb:Ok h b (some k) hi)(hk:QU lo hi k)(hm:cW k):Ok h (js h a k b) lo hi:=by
 cases h with
 | zero =>
  refine ⟨uB ha.1 hb.1 (fun p hp q hq=>DP ((ha.2 p hp).2.2 k rfl) ((hb.2 q hq).2.1 k rfl)),fun p hp=>?_⟩
  rcases List.mem_append.1 hp with h | h
  ·have h1:=ha.2 p h;exact ⟨h1.1,h1.2.1,fun u hu=>dk (h1.2.2 k rfl) (hk.2 u hu)⟩
  ·have h1:=hb.2 p h;exact ⟨h1.1,fun l hl=>mw (DP (hk.1 l hl) (h1.2.1 k rfl)),h1.2.2⟩
 | succ h =>
  exact (DE (j9 ha).symm).2 ⟨hk,hm,ha,hb⟩
theorem fO(a b:List ByteArray):fD (a++b)+6=fD a+fD b:=by simp [fD];omega
theorem iX(k:ByteArray)(b:List ByteArray):fD (k::b)=7+k.size+fD b:=by simp [fD];omega
theorem RX{h:Nat}(a b:Nd h)(k:ByteArray):nK h a+nK h b≤nK h (js h a k b)∧nK h (js h a k b)≤nK h a+nK h b+(if h=0 then 0 else 7+k.size):=by
 cases h with
 | zero=>simp [nK,js,iQ]
 | succ h =>
  have h1:=fO a.2.1 (k::b.2.1);have h2:=iX k b.2.1;simp only [nK,js];simp
  omega
def nS(l:List Pr):List Int:=l.map fun p=>(z7 p:Int)
def iW(ks:List ByteArray):List Int:=ks.map fun k=>((7+k.size:Nat):Int)
def aa2:(h:Nat)→Nd h→Nat→Prop
 | 0,t,i=>dr (jv (nS t.2)) ((nS t.2).length - 1) i
 | _+1,t,i=>dr (ju (iW t.2.1)) ((iW t.2.1).length - 2) i
def aa1:(h:Nat)→Nd h→Nat→Nd h→ByteArray→Nd h→Prop
 | 0,t,i,a,k,b=>a=(0,t.2.take i)∧b=(0,t.2.drop i)∧∃ v,t.2[i]?=some (k,v)
 | _+1,t,i,a,k,b=>a=(0,t.2.1.take i,t.2.2.take (i+1))∧b=(0,t.2.1.drop (i+1),t.2.2.drop (i+1))∧t.2.1[i]?=some k
def Cut(h:Nat)(t a:Nd h)(k:ByteArray)(b:Nd h):Prop:=∃ i,aa2 h t i∧aa1 h t i a k b
def zm:Nat→Nat
 | 0=>5627
 | _+1=>7884
theorem Dm(l:List Pr)(i:Nat):pre (nS l) i=(fL (l.take i):Int):=by
 unfold pre nS fL;rw [← iN];induction l.take i with
 | nil=>rfl
 | cons p r ih=>simp only [List.map_cons,q7,ih];omega
theorem tn(l:List ByteArray)(i:Nat):6+pre (iW l) i=(fD (l.take i):Int):=by
 unfold pre iW fD;rw [← iN];induction l.take i with
 | nil=>rfl
 | cons p r ih=>simp only [List.map_cons,q7];omega
theorem vG{l:List Pr}(h:∀ p ∈ l,cP p=true):fL l≤960*l.length:=by
 induction l with
 | nil=>simp [fL]
 | cons p l ih =>
  have a:=ih fun q hq=>h q (dU _ hq)
  have b:=eM (h p dq);rw [oq,List.length_cons];unfold z7;omega
theorem CW{l:List ByteArray}(h:∀ k ∈ l,cW k):fD l≤262*l.length+6:=by
 induction l with
 | nil=>simp [fD]
 | cons p l ih =>
  have a:=ih fun q hq=>h q (dU _ hq)
  have b:=(h p dq).2;rw [iX,List.length_cons];omega
theorem xy{α:Type}{P:α→Option ByteArray→Option ByteArray→Prop}:∀ {lo hi:Option ByteArray} {ks:List ByteArray} {cs:List α},gX P lo hi ks cs→∀ k ∈ ks,cW k
 | _,_,[],_,_,_,hk=>by simp at hk
 | _,_,_::_,[],h,_,_=>by simp [gX] at h
 | _,_,k1::ks,c::cs,h,k,hk=>by
  rcases List.mem_cons.1 hk with rfl | hk
  ·exact h.2.1
  ·exact xy h.2.2.2 k hk
theorem Qo{h:Nat}{t a b:Nd h}{k:ByteArray}{lo hi:Option ByteArray}(ho:Ok h t lo hi)(hc:Cut h t a k b)(h1:4072<nK h t)(h2:nK h t≤zm h):ld h a lo (some k)∧ld h b (some k) hi∧QU lo hi k∧cW k∧flat h a++flat h b=flat h t:=by
 obtain ⟨i,hb,hc⟩:=hc;cases h with
 | zero =>
  obtain ⟨rfl,rfl,v,hv⟩:=hc;have tL:∀ p ∈ t.2,cP p=true:=fun p hp=>(ho.2 p hp).1
  have hlen:=vG tL;have h1:4072<fL t.2:=h1;have h2:fL t.2≤5627:=h2;have qM:(nS t.2).length=t.2.length:=by simp [nS]
  have PF:∀ j (hj:j<(nS t.2).length),1≤(nS t.2)[j]∧(nS t.2)[j]≤960:=fun j hj=>by
   have l6:j<t.2.length:=by rw [← qM];exact hj
   have:=eM (tL t.2[j] (aH l6));simp only [nS,cd];unfold z7;omega
  have BP:=Qp (m:=960) (fun j hj=>by have:=PF j hj;omega) (by rw [qM];omega) (fun j hj=>(PF j hj).2) hb
  have Lh:=hb.1;rw [qM] at Lh;unfold jv at BP;rw [qM,Dm,Dm,List.take_length] at BP;have K9:fL t.2=fL (t.2.take i)+fL (t.2.drop i):=by rw [← iQ,aG]
  obtain ⟨mz,Xm⟩:=List.getElem?_eq_some_iff.1 hv;have tK:=qA (a:=t.2.take i) (b:=t.2.drop i) (by rw [aG];exact ho.1)
  have gT:(k,v) ∈ t.2.drop i:=by
   rw [bf mz,Xm];exact dq
  have hkt:(k,v) ∈ t.2:=bI gT;have V6:0<(t.2.take i).length:=by rw [ag];omega
  have Xr:(t.2.take i)[0] ∈ t.2.take i:=aH V6;have BM:=(ho.2 _ (bH Xr)).2;refine ⟨⟨⟨tK.1,fun p hp=>⟨tL p (bH hp),(ho.2 p (bH hp)).2.1,fun u hu=>?_⟩⟩,?_⟩,⟨⟨tK.2.1,fun p hp=>⟨tL p (bI hp),fun l hl=>?_,(ho.2 p (bI hp)).2.2⟩⟩,?_⟩,⟨fun l hl=>?_,(ho.2 _ hkt).2.2⟩,?_,?_⟩
  ·cases hu;exact tK.2.2 p hp _ gT
  ·show 1556≤fL (t.2.take i)∧fL (t.2.take i)≤4072
   omega
  ·cases hl;rw [bf mz,Xm] at hp tK;rcases List.mem_cons.1 hp with rfl | hp
   ·exact gS _
   ·have:=(qA (a:=[(k,v)]) (b:=t.2.drop (i+1)) tK.2.1).2.2 _ dq p hp;exact mw this
  ·show 1556≤fL (t.2.drop i)∧fL (t.2.drop i)≤4072
   omega
  ·exact Ul (BM.1 l hl) (tK.2.2 _ Xr _ gT)
  ·have:=eM (tL _ hkt);exact ⟨this.1,this.2.1⟩
  ·exact aG i t.2
 | succ h =>
  obtain ⟨rfl,rfl,hki⟩:=hc;have Pw:=xy ho;have hlen:=CW Pw;have rl:=j9 ho;have h1:4072<fD t.2.1:=h1;have h2:fD t.2.1≤7884:=h2;have qM:(iW t.2.1).length=t.2.1.length:=by simp [iW]
  have PF:∀ j (hj:j<(iW t.2.1).length),8≤(iW t.2.1)[j]∧(iW t.2.1)[j]≤262:=fun j hj=>by
   have l6:j<t.2.1.length:=by rw [← qM];exact hj
   have:=Pw t.2.1[j] (aH l6);simp only [iW,cd];unfold cW at this;omega
  have BP:=Gq (m:=262) (fun j hj=>by have:=PF j hj;omega) (by rw [qM];omega) (fun j hj=>(PF j hj).2) hb
  have Lh:=hb.1;rw [qM] at Lh;obtain ⟨mz,Xm⟩:=List.getElem?_eq_some_iff.1 hki;have e1:=tn t.2.1 i;have e2:=tn t.2.1 (i+1);have e3:=tn t.2.1 t.2.1.length;rw [List.take_length] at e3;have Pe:t.2.1=t.2.1.take i++k::t.2.1.drop (i+1):=by rw [← Xm,← bf mz,aG]
  have e4:=fO (t.2.1.take i) (k::t.2.1.drop (i+1));have e5:=iX k (t.2.1.drop (i+1));rw [← Pe] at e4;have e6:fD (t.2.1.take (i+1))=fD (t.2.1.take i)+(7+k.size):=by
   have:=fO (t.2.1.take i) [k];rw [az mz,Xm];have e7:=iX k [];have e8:fD []=6:=rfl;omega
  have Le:=Pw k (by rw [← Xm];exact aH mz)
  have acG:=Le;unfold cW at acG;unfold ju at BP;rw [qM] at BP;have dj:gX (ld h) lo hi (t.2.1.take i++k::t.2.1.drop (i+1)) (t.2.2.take (i+1)++t.2.2.drop (i+1)):=by
   rw [← Pe,aG];exact ho
  obtain ⟨g1,g2,g3,g4⟩:=(DE (by rw [ag,ag];omega)).1 dj
  refine ⟨⟨g3,?_⟩,⟨g4,?_⟩,g1,g2,?_⟩
  ·show 1777≤fD (t.2.1.take i)∧fD (t.2.1.take i)≤4072
   omega
  ·show 1777≤fD (t.2.1.drop (i+1))∧fD (t.2.1.drop (i+1))≤4072
   omega
  ·show (t.2.2.take (i+1)).flatMap (flat h)++(t.2.2.drop (i+1)).flatMap (flat h)=t.2.2.flatMap (flat h)
   rw [← aT,aG]
def Mf(h:Nat)(t:Nd h):Prop:=4072<nK h t
def small(h:Nat)(t:Nd h):Prop:=nK h t<xD h
def H7(h:Nat)(A B:List ByteArray)(C1:List (Nd h))(x:Nd h)(C2:List (Nd h))(ks:List ByteArray)(cs:List (Nd h)):Prop :=
 (¬ Mf h x∧ks=A++B∧cs=C1++x::C2)∨(Mf h x∧∃ a k b,Cut h x a k b∧ks=A++k::B∧cs=C1++a::b::C2)
def Cb(h:Nat)(A B:List ByteArray)(C1:List (Nd h))(x:Nd h)(C2:List (Nd h))(ks:List ByteArray)(cs:List (Nd h)):Prop :=
 (¬ small h x∧H7 h A B C1 x C2 ks cs) ∨
 (small h x∧A=[]∧C1=[]∧∃ k B' b C2',B=k::B'∧C2=b::C2'∧H7 h [] B' [] (js h x k b) C2' ks cs) ∨
 (small h x∧∃ A' k C1' a,A=A'++[k]∧C1=C1'++[a]∧H7 h A' B C1' (js h a k x) C2 ks cs)
def XG(key:ByteArray)(f:List Pr→List Pr):(h:Nat)→Nd h→Nd h→Prop
 | 0,t,t'=>t'=(0,f t.2)
 | h+1,t,t'=>∃ A B C1 c C2,t.2.1=A++B∧t.2.2=C1++c::C2∧A.length=C1.length∧(∀ k ∈ A,cX key k=false)∧(∀ k,B.head?=some k→cX key k=true)∧∃ c' ks cs,XG key f h c c'∧Cb h A B C1 c' C2 ks cs∧t'=(0,ks,cs)
structure Fit(key:ByteArray)(f:List Pr→List Pr):Prop where
 loc:∀ X Y Z:List Pr,(∀ p ∈ X,cX p.1 key=true)→(∀ p ∈ Z,cX key p.1=true)→f (X++(Y++Z))=X++(f Y++Z)
 rise:∀ l,gD l→gD (f l)
 mem:∀ l p,p ∈ f l→p ∈ l∨(p.1=key∧cP p=true)
 size:∀ l,fL (f l)≤fL l+960
def Ae:Nat→Nat
 | 0=>960
 | _+1=>262
theorem tQ{h:Nat}{A B ks:List ByteArray}{C1 C2 cs:List (Nd h)}{x:Nd h}{lo hi:Option ByteArray}(hw:H7 h A B C1 x C2 ks cs)(hp:uf (ld h) lo hi A C1)(hx:Ok h x (jg lo A) (pO hi B))(hc:∀ d,ld h d (jg lo A) (pO hi B)→gX (ld h) (jg lo A) hi B (d::C2))(hl:A.length=C1.length)(hs:¬ small h x)(acy:nK h x≤zm h)(h2:∀ a b k,QU (jg lo A) (pO hi B) k→cW k→ld h a (jg lo A) (some k)→ld h b (some k) (pO hi B)→gX (ld h) (jg lo A) hi (k::B) (a::b::C2)):gX (ld h) lo hi ks cs∧cs.flatMap (flat h)=C1.flatMap (flat h)++(flat h x++C2.flatMap (flat h))∧fD ks≤fD (A++B)+262:=by
 rcases hw with ⟨hb,rfl,rfl⟩ | ⟨hb,a,k,b,tN,rfl,rfl⟩
 ·refine ⟨(pB hl).2 ⟨hp,hc x ⟨hx,?_⟩⟩,by simp,by omega⟩
  unfold small at hs;unfold Mf at hb;exact ⟨by omega,by omega⟩
 ·obtain ⟨g1,g2,g3,g4,g5⟩:=Qo hx tN hb acy;refine ⟨(pB hl).2 ⟨hp,h2 a b k g3 g4 g1 g2⟩,by simp [← g5],?_⟩
  have e1:=fO A (k::B);have e2:=fO A B;have e3:=iX k B;unfold cW at g4;omega
theorem Ak{α:Type}{P:α→Option ByteArray→Option ByteArray→Prop}{hi:Option ByteArray}{k:ByteArray}{a:α}:∀ {lo:Option ByteArray} {A:List ByteArray} {C1:List α},A.length=C1.length→(uf P lo hi (A++[k]) (C1++[a])↔uf P lo hi A C1∧QU (jg lo A) hi k∧cW k∧P a (jg lo A) (some k))
 | lo,[],[],_=>by simp [uf,jg]
 | _,[],_::_,h=>by simp at h
 | _,_::_,[],h=>by simp at h
 | lo,k1::A,c1::C1,h=>by
  have:=Ak (P:=P) (hi:=hi) (k:=k) (a:=a) (lo:=some k1) (A:=A) (C1:=C1) (by simpa using h)
  simp only [List.cons_append,uf,jg,this,and_assoc]
theorem DD{α:Type}{P:α→Option ByteArray→Option ByteArray→Prop}{lo hi:Option ByteArray}{B:List ByteArray}{a b a' b':α}{k k':ByteArray}{C2:List α}(h:gX P lo hi (k::B) (a::b::C2))(hk:QU lo (pO hi B) k')(hm:cW k')(ha:P a' lo (some k'))(hb:P b' (some k') (pO hi B)):gX P lo hi (k'::B) (a'::b'::C2):=by
 have h2:=h.2.2.2;cases B with
 | nil=>cases C2 with
  | nil=>exact ⟨hk,hm,ha,hb⟩
  | cons _ _=>simp [gX] at h2
 | cons kb B=>exact ⟨⟨hk.1,fun u hu=>dk (hk.2 kb rfl) (h2.1.2 u hu)⟩,hm,ha,⟨⟨fun l hl=>by cases hl;exact hk.2 kb rfl,h2.1.2⟩,h2.2.1,hb,h2.2.2.2⟩⟩
theorem I0{α:Type}{P:α→Option ByteArray→Option ByteArray→Prop}{lo hi:Option ByteArray}{B:List ByteArray}{a b:α}{k:ByteArray}{C2:List α}(h:gX P lo hi (k::B) (a::b::C2)):QU lo (pO hi B) k:=by
 refine ⟨h.1.1,?_⟩;cases B with
 | nil=>exact h.1.2
 | cons kb B=>exact fun u hu=>by cases hu;exact h.2.2.2.1.1 k rfl
theorem xO{h:Nat}{a b:Nd h}{k:ByteArray}(hk:cW k)(Cu:small h a∧Full h b∨Full h a∧small h b):¬ small h (js h a k b)∧nK h (js h a k b)≤zm h:=by
 have h1:=RX a b k;unfold small Full at *;unfold cW at hk;cases h with
 | zero=>simp only [xD,zm,if_true] at *;omega
 | succ h=>simp only [xD,zm,Nat.succ_ne_zero,if_false] at *;omega
theorem Kl{h:Nat}{A B ks:List ByteArray}{C1 C2 cs:List (Nd h)}{c x:Nd h}{lo hi:Option ByteArray}(fi:Cb h A B C1 x C2 ks cs)(hp:uf (ld h) lo hi A C1)(hc:gX (ld h) (jg lo A) hi B (c::C2))(hx:Ok h x (jg lo A) (pO hi B))(hl:A.length=C1.length)(cx:nK h x≤4072+Ae h):gX (ld h) lo hi ks cs∧cs.flatMap (flat h)=C1.flatMap (flat h)++(flat h x++C2.flatMap (flat h))∧fD ks≤fD (A++B)+262:=by
 have Uz:4072+Ae h≤zm h:=by cases h <;> simp [Ae,zm]
 rcases fi with ⟨hs,hw⟩ | ⟨hs,rfl,rfl,k,B',b,C2',rfl,rfl,hw⟩ | ⟨hs,A',k,C1',a,rfl,rfl,hw⟩
 ·exact tQ hw hp hx (fun d hd=>Oo hc hd) hl hs (by omega) (fun a b k h1 h2 h3 h4=>Su hc h1 h2 h3 h4)
 ·have uM:gX (ld h) lo hi (k::B') (c::b::C2'):=hc;have hb:=rO uM.2.2.2;have hxb:Ok h x lo (some k):=hx;have hj:Ok h (js h x k b) lo (pO hi B'):=IZ hxb hb.1 (I0 uM) uM.2.1;have xS:=xO (a:=x) (b:=b) uM.2.1 (.inl ⟨hs,hb.2⟩);have:=tQ (lo:=lo) (hi:=hi) hw trivial hj (fun d hd=>I1 uM hd) rfl xS.1 xS.2 (fun a' b' k' h1 h2 h3 h4=>DD uM h1 h2 h3 h4)
  refine ⟨this.1,by rw [this.2.1,AU];simp,?_⟩
  have e1:=iX k B';have:=this.2.2;simp only [List.nil_append] at this ⊢;omega
 ·have Tb:A'.length=C1'.length:=by simpa using hl
  rw [DL] at hc hx;obtain ⟨G1,hk,hm,ha⟩:=(Ak Tb).1 hp;have uM:gX (ld h) (jg lo A') hi (k::B) (a::c::C2):=⟨hk,hm,ha,hc⟩;have hj:Ok h (js h a k x) (jg lo A') (pO hi B):=IZ ha.1 hx (I0 uM) hm;have xS:=xO (a:=a) (b:=x) hm (.inr ⟨ha.2,hs⟩);have:=tQ (lo:=lo) (hi:=hi) hw G1 hj (fun d hd=>I1 uM hd) Tb xS.1 xS.2 (fun a' b' k' h1 h2 h3 h4=>DD uM h1 h2 h3 h4)
  refine ⟨this.1,by rw [this.2.1,AU];simp,?_⟩
  have e1:=fO A' B;have e2:=fO (A'++[k]) B;have e3:=fO A' [k];have:=this.2.2;have e4:=iX k [];have e5:fD []=6:=rfl;omega
theorem VD{lo hi:Option ByteArray}{A:List ByteArray}{key:ByteArray}(h:In lo hi key)(hA:∀ k ∈ A,cX key k=false):geB (jg lo A) key:=by
 induction A generalizing lo with
 | nil=>exact h.1
 | cons k A ih=>exact ih (lo:=some k) ⟨fun l hl=>by cases hl;exact hA k dq,h.2⟩ (fun k' Rt=>hA k' (dU _ Rt))
theorem Nf{key:ByteArray}{f:List Pr→List Pr}(hf:Fit key f):∀ (h:Nat) {t t':Nd h} {lo hi:Option ByteArray},Ok h t lo hi→In lo hi key→XG key f h t t'→Ok h t' lo hi∧flat h t'=f (flat h t)∧nK h t'≤nK h t+Ae h
 | 0,t,t',lo,hi,ho,hk,hu=>by
  have hu:t'=(0,f t.2):=hu;subst hu;refine ⟨⟨hf.rise _ ho.1,fun p hp=>?_⟩,rfl,hf.size t.2⟩
  rcases hf.mem _ p hp with h1 | ⟨h1,h2⟩
  ·exact ho.2 p h1
  ·exact ⟨h2,by rw [h1];exact hk⟩
 | h+1,t,t',lo,hi,ho,hk,hu=>by
  obtain ⟨A,B,C1,c,C2,e1,e2,hl,hA,hB,c',ks,cs,hu',fi,rfl⟩:=hu;have G2:gX (ld h) lo hi (A++B) (C1++c::C2):=by rw [← e1,← e2];exact ho
  obtain ⟨hp,hc⟩:=(pB hl).1 G2;have tO:=rO hc;have FI:In (jg lo A) (pO hi B) key:=by
   refine ⟨VD hk hA,?_⟩;cases B with
   | nil=>exact hk.2
   | cons kb B=>exact fun u hu=>by cases hu;exact hB kb rfl
  obtain ⟨r1,r2,r3⟩:=Nf hf h tO.1 FI hu';have hfc:=tO.2.2;obtain ⟨g1,g2,g3⟩:=Kl fi hp hc r1 hl (by omega)
  refine ⟨g1,?_,?_⟩
  ·show cs.flatMap (flat h)=f (t.2.2.flatMap (flat h))
   rw [g2,e2,aT,List.flatMap_cons,r2,hf.loc _ _ _ (rL (P:=ld h) (fun _ _ _ hc=>qe h hc.1) hp hA) (ub (P:=ld h) (fun _ _ _ hc=>qe h hc.1) hc hB)]
  ·show fD ks≤fD t.2.1+262
   rw [e1];exact g3
end Go.Proofs.YtihmgigfkmofnaaGreatDoor
