import Derived.Deep.QuietTactic
import Derived.Lib.TrailingZeros
import Derived.Laws.Bits64b
import Derived.Test.YtihmgigfkmofnaaGreatDoorG05
set_option maxHeartbeats 4000000
set_option maxRecDepth 100000
open Go.Proofs.Tryz
namespace Go.Proofs.YtihmgigfkmofnaaGreatDoor
namespace Q
open Go.RowKit
structure eF(F:Nat→Prop)(w w':World):Prop where
 os:w'.os=w.os
 tape:w'.tape=w.tape
 output:w'.output=w.output
 size:w.heap.size≤w'.heap.size
 block:∀ k,k<w.heap.size→¬ F k→w'.heap[k]?=w.heap[k]?
theorem eF.refl(F:Nat→Prop)(w:World):eF F w w:=⟨rfl,rfl,rfl,aj _,fun _ _ _=>rfl⟩
theorem eF.trans{F:Nat→Prop}{a b c:World}(h:eF F a b)(k:eF F b c):eF F a c :=
 ⟨k.os.trans h.os,k.tape.trans h.tape,k.output.trans h.output,ar h.size k.size,fun i hi hn=>(k.block i (aq hi h.size) hn).trans (h.block i hi hn)⟩
theorem eF.bo{F:Nat→Prop}{w w':World}(h:Below w.heap.size w w'):eF F w w':=⟨h.os,h.tape,h.output,h.size,fun k hk _=>h.block k hk⟩
theorem eF.set{F:Nat→Prop}{g:Nat}(hF:F g)(o:Nat)(w:World)(u:Value):eF F w (w.setCell ⟨g,o,none⟩ u) :=
 ⟨rfl,rfl,rfl,by simp [World.setCell],fun k _ hn=>Below.heap_setCell w ⟨g,o,none⟩ u k (fun e=>hn (by rw [e];exact hF))⟩
theorem eF.cell{F:Nat→Prop}{w w':World}(h:eF F w w'){a:Addr}{v:Value}(hc:w.cell? a=some v)(hn:¬ F a.block):w'.cell? a=some v :=
 (World.cell?_of_block (a:=a) (h.block a.block (World.block_lt_of_cell? w a hc) hn)).trans hc
theorem eF.below{F:Nat→Prop}{w w':World}{base:Nat}(h:eF F w w')(hF:∀ k,F k→base≤k)(hb:base≤w.heap.size):Below base w w' :=
 ⟨h.os,h.tape,h.output,h.size,fun k hk=>h.block k (aq hk hb) (fun hf=>by have:=hF k hf;omega)⟩
theorem eD{w:World}{base e size n:Nat}{v:Value}{xs:List Value}(h:w.ownsRow base e size v n xs)(k:Nat)(hk:v.ownBlock=some k):base≤k∧k<w.heap.size∧∃ cur,w.heap[k]?=some (.cells cur e (0,0)):=by
 rcases h.2 with ⟨h',_⟩ | ⟨g,cap,cur,h',hb,hg,_⟩
 ·rw [h'] at hk;simp [Value.ownBlock] at hk
 ·rw [h'] at hk;simp only [Value.ownBlock,Option.some.injEq] at hk;subst hk;exact ⟨hb,(Array.getElem?_eq_some_iff.1 hg).1,cur,hg⟩
theorem fl{w w':World}{b e size n:Nat}{v:Value}{xs:List Value}(ho:w.ownsRow b e size v n xs)(hb:∀ g,v.ownBlock=some g→w'.heap[g]?=w.heap[g]?):w'.ownsRow b e size v n xs:=by
 refine ⟨ho.1,?_⟩;rcases ho.2 with h' | ⟨g,cap,cur,h',h1,hg,hr⟩
 ·exact .inl h'
 ·exact .inr ⟨g,cap,cur,h',h1,(hb g (by rw [h'];rfl)).trans hg,hr⟩
theorem Ar{F:Nat→Prop}{w w':World}{b e size n:Nat}{v:Value}{xs:List Value}(ho:w.ownsRow b e size v n xs)(h:eF F w w')(hn:∀ g,v.ownBlock=some g→¬ F g):w'.ownsRow b e size v n xs :=
 fl ho fun g hg=>h.block g (eD ho g hg).2.1 (hn g hg)
theorem xA{w w':World}{b e size n:Nat}{v:Value}{xs:List Value}(ho:w.ownsRow b e size v n xs)(h:Below w.heap.size w w'):w'.ownsRow b e size v n xs :=
 fl ho fun g hg=>h.block g (eD ho g hg).2.1
theorem ib{w:World}{base e size n:Nat}{v:Value}{xs:List Value}(h:w.ownsRow base e size v n xs):∃ a c,v = .slice a n c∧(0<n→∃ g,a=some ⟨g,0,none⟩):=by
 rcases h.2 with ⟨h',h0⟩ | ⟨g,cap,cur,h',_⟩
 ·exact ⟨none,0,by rw [h',h0],fun h=>by omega⟩
 ·exact ⟨_,cap,h',fun _=>⟨g,rfl⟩⟩
theorem KN{w:World}{base Vo e size n:Nat}{v:Value}{xs:List Value}(h:w.ownsRow base e size v n xs)(hb:Vo≤base):w.ownsRow Vo e size v n xs:=by
 refine ⟨h.1,?_⟩;rcases h.2 with h' | ⟨g,cap,cur,h',h1,hr⟩
 ·exact .inl h'
 ·exact .inr ⟨g,cap,cur,h',by omega,hr⟩
def wd:(Nat→Bool)→Nat→Nat
 | _,0=>0
 | f,n+1=>(if f 0 then 1 else 0)+2*wd (fun j=>f (j+1)) n
theorem qi:∀ (n:Nat) (f:Nat→Bool) (j:Nat),(wd f n).testBit j=(decide (j<n) && f j)
 | 0,f,j=>by simp [wd]
 | n+1,f,0=>by
  rw [Nat.testBit_zero,wd];cases h:f 0 <;> simp <;> omega
 | n+1,f,j+1=>by
  have ih:=qi n (fun j=>f (j+1)) j
  rw [Nat.testBit_succ,wd];have e:((if f 0=true then 1 else 0)+2*wd (fun j=>f (j+1)) n) / 2=wd (fun j=>f (j+1)) n:=by split <;> omega
  rw [e,ih];simp
theorem Nv:∀ (n:Nat) (f:Nat→Bool),wd f n<2 ^ n
 | 0,f=>by simp [wd]
 | n+1,f=>by
  have ih:=Nv n (fun j=>f (j+1))
  rw [wd,Nat.pow_succ];split <;> omega
def word(T:Nat→Bool)(i:Nat):Nat:=wd (fun j=>T (64*i+j)) 64
theorem word_lt(T:Nat→Bool)(i:Nat):word T i<18446744073709551616:=Nv 64 _
theorem dN(T:Nat→Bool)(i j:Nat):(word T i).testBit j=(decide (j<64) && T (64*i+j)):=qi 64 _ j
def lE(T:Nat→Bool)(id:Nat)(b:Bool):Nat→Bool:=fun j=>if j=id then b else T j
theorem CN(T:Nat→Bool)(id:Nat)(b:Bool):lE T id b id=b:=by simp [lE]
theorem F7(T:Nat→Bool)(id j:Nat)(b:Bool)(h:j≠id):lE T id b j=T j:=by simp [lE,h]
theorem CH(T:Nat→Bool)(id:Nat)(b:Bool)(i:Nat)(h:i≠id / 64):word (lE T id b) i=word T i:=by
 apply dX
 intro j;rw [dN,dN];by_cases hj:j<64
 ·rw [F7 _ _ _ _ (by omega)]
 ·simp [hj]
theorem mY(id:Nat):2 ^ (id % 64)<18446744073709551616:=Nat.pow_lt_pow_right (by decide) (by omega:id % 64<64)
theorem Nt(T:Nat→Bool)(id:Nat):word T (id / 64) ||| 2 ^ (id % 64)=word (lE T id true) (id / 64):=by
 apply dX
 intro j;rw [Nat.testBit_or,dN,dN,Nat.testBit_two_pow];by_cases hj:j<64
 ·by_cases he:64*(id / 64)+j=id
  ·rw [he,CN];have:id % 64=j:=by omega
   simp [hj,this]
  ·rw [F7 _ _ _ _ he];have:¬ id % 64=j:=by omega
   simp [hj,this]
 ·have:¬ id % 64=j:=by omega
  simp [hj,this]
theorem FU(T:Nat→Bool)(id x:Nat)(h:∀ j,x.testBit j=(decide (j<64) && ((word T (id / 64)).testBit j && !(2 ^ (id % 64)).testBit j))):x=word (lE T id false) (id / 64):=by
 apply dX
 intro j;rw [h,dN,dN,Nat.testBit_two_pow];by_cases hj:j<64
 ·by_cases he:64*(id / 64)+j=id
  ·rw [he,CN];have:id % 64=j:=by omega
   simp [hj,this]
  ·rw [F7 _ _ _ _ he];have:¬ id % 64=j:=by omega
   simp [hj,this]
 ·simp [hj]
theorem Fj(x i:Nat):x &&& 2 ^ i=if x.testBit i then 2 ^ i else 0:=by
 apply dX
 intro j;rw [Nat.testBit_and,Nat.testBit_two_pow];by_cases h:i=j
 ·subst h;cases hx:x.testBit i <;> simp
 ·split <;> simp [h]
theorem JZ(T:Nat→Bool)(id:Nat):(word T (id / 64) &&& 2 ^ (id % 64)=0)↔T id=false:=by
 rw [Fj,dN];have h1:id % 64<64:=by omega
 have h2:64*(id / 64)+id % 64=id:=by omega
 have hp:0<2 ^ (id % 64):=Nat.two_pow_pos _;rw [h2];cases T id <;> simp [h1]
def tr(f:Nat→Bool):Nat→Nat
 | 0=>0
 | n+1=>tr f n+(if f n then 1 else 0)
theorem qY{f g:Nat→Bool}:∀ {n:Nat},(∀ j,j<n→f j=g j)→tr f n=tr g n
 | 0,_=>rfl
 | n+1,h=>by rw [tr,tr,qY (fun j hj=>h j (by omega)),h n (by omega)]
theorem CT(f:Nat→Bool):∀ n,tr f n≤n
 | 0=>aj _
 | n+1=>by have:=CT f n;rw [tr];split <;> omega
theorem F9(f:Nat→Bool)(m:Nat):∀ n,tr f (m+n)=tr f m+tr (fun j=>f (m+j)) n
 | 0=>by simp [tr]
 | n+1=>by rw [← dt,tr,tr,F9 f m n];omega
theorem Sf(T:Nat→Bool)(i:Nat):tr T (64*(i+1))=tr T (64*i)+tr (word T i).testBit 64:=by
 rw [show 64*(i+1)=64*i+64 by omega,F9]
 congr 1
 exact qY fun j hj=>by rw [dN];simp [hj]
def fr(f:Nat→Bool)(n:Nat):Nat:=n - tr f n
def dU(f:Nat→Bool):Nat→List Nat
 | 0=>[]
 | n+1=>dU f n++(if f n then [] else [n])
theorem vU(f:Nat→Bool):∀ n,(dU f n).length=fr f n
 | 0=>by simp [dU,fr,tr]
 | n+1=>by
  have h:=vU f n;have h2:=CT f n;unfold fr at h ⊢;rw [dU,ae,h,tr];split <;> simp <;> omega
theorem rU{f:Nat→Bool}{m:Nat}:∀ n,(∀ j,m≤j→j<m+n→f j=true)→dU f (m+n)=dU f m
 | 0,_=>rfl
 | n+1,h=>by rw [← dt,dU,rU n (fun j h1 h2=>h j h1 (by omega)),h (m+n) (by omega) (by omega)];simp
theorem Jz(f:Nat→Bool){m n:Nat}(h:m≤n):∃ r,dU f n=dU f m++r:=by
 obtain ⟨d,rfl⟩ : ∃ d,n=m+d:=⟨n - m,by omega⟩
 clear h;induction d with
 | zero=>exact ⟨[],by simp⟩
 | succ d ih =>
  obtain ⟨r,hr⟩:=ih;exact ⟨r++(if f (m+d) then [] else [m+d]),by rw [← dt,dU,hr,ay]⟩
theorem js(f:Nat→Bool):∀ {n j:Nat},j ∈ dU f n↔j<n∧f j=false
 | 0,j=>by simp [dU]
 | n+1,j=>by
  rw [dU,cu,js f];by_cases hj:j=n
  ·subst hj;cases h:f j <;> simp
  ·cases h:f n <;> simp [hj] <;> omega
def zw(T:Nat→Bool)(i k:Nat):Nat:=wd (fun j=>decide (k≤j) && !T (64*i+j)) 64
theorem UG(T:Nat→Bool)(i k:Nat):zw T i k<18446744073709551616:=Nv 64 _
theorem iG(T:Nat→Bool)(i k j:Nat):(zw T i k).testBit j=(decide (j<64) && (decide (k≤j) && !T (64*i+j))):=qi 64 _ j
theorem Sb{T:Nat→Bool}{i k:Nat}(h:zw T i k=0):∀ j,k≤j→j<64→T (64*i+j)=true:=by
 intro j h1 h2;have:=iG T i k j;rw [h] at this;simpa [h1,h2] using this
theorem Mg(t m j:Nat):((2 ^ t*(2*m+1)) &&& (2 ^ t*(2*m+1) - 1)).testBit j=((2 ^ t*(2*m+1)).testBit j && !decide (j=t)):=by
 have hp:0<2 ^ t:=Nat.two_pow_pos t;have e:2 ^ t*(2*m+1) - 1=2 ^ t*(2*m)+(2 ^ t - 1):=by
  rw [Nat.mul_add,Nat.mul_one];omega
 rw [Nat.testBit_and,e];by_cases hj:j<t
 ·have h0:(2 ^ t*(2*m+1)).testBit j=false:=by
   rw [kJ];simp;omega
  rw [h0];simp
 ·have h1:(2 ^ t*(2*m)+(2 ^ t - 1)).testBit j=(2*m).testBit (j - t):=by
   rw [Nat.testBit_two_pow_mul_add _ (by omega)]
   simp [hj]
  have h2:(2 ^ t*(2*m+1)).testBit j=(2*m+1).testBit (j - t):=by
   rw [kJ];simp [show t≤j by omega]
  rw [h1,h2];by_cases he:j=t
  ·subst he;rw [dR,Nat.testBit_zero,Nat.testBit_zero];simp
  ·obtain ⟨d,hd⟩ : ∃ d,j - t=d+1:=⟨j - t - 1,by omega⟩
   rw [hd,Nat.testBit_succ,Nat.testBit_succ,show (2*m+1) / 2=m by omega,show 2*m / 2=m by omega]
   simp [he]
theorem Sa{T:Nat→Bool}{i k:Nat}(h:zw T i k≠0):∃ t,Lib.ctz 64 (zw T i k)=t∧k≤t∧t<64∧T (64*i+t)=false∧(∀ j,k≤j→j<t→T (64*i+j)=true)∧zw T i k &&& (zw T i k - 1)=zw T i (t+1):=by
 obtain ⟨m,hm,hk⟩:=Lib.ctzFrom_spec 64 (zw T i k) (by omega) (UG T i k)
 have e:Lib.ctz 64 (zw T i k)=Lib.ctzFrom 64 (zw T i k):=by simp [Lib.ctz,h]
 generalize ht:Lib.ctzFrom 64 (zw T i k)=t at hm hk;rw [ht] at e;have hb:∀ j,(zw T i k).testBit j=(2 ^ t*(2*m+1)).testBit j:=fun j=>by rw [← hm]
 have h1:(zw T i k).testBit t=true:=by
  rw [hb,kJ];simp [Nat.testBit_zero]
 have h2:∀ j,j<t→(zw T i k).testBit j=false:=fun j hj=>by
  rw [hb,kJ];simp;omega
 rw [iG] at h1;simp only [hk,decide_true,Bool.true_and,bU,decide_eq_true_eq,Bool.not_eq_true'] at h1;refine ⟨t,e,h1.1,hk,h1.2,fun j a b=>?_,?_⟩
 ·have:=h2 j b;rw [iG] at this;simpa [show j<64 by omega,a] using this
 ·apply dX
  intro j;have hc:=Mg t m j;rw [← hm] at hc;rw [hc,iG,iG];by_cases hj:j<64
  ·by_cases h3:j<t
   ·have h4:=h2 j h3;rw [iG] at h4;rw [h4];simp [show ¬ t+1≤j by omega]
   ·by_cases h4:j=t
    ·subst h4;simp;intro _ h;omega
    ·simp [hj,h4,show k≤j by omega,show t+1≤j by omega]
  ·simp [hj]
def rep(c:Nat):Nat→Nat
 | 0=>0
 | k+1=>c+256*rep c k
theorem wZ(c k:Nat):rep c (k+1)=c+256*rep c k:=rfl
theorem si(a c p q:Nat)(ha:a<256)(hc:c<256):(a+256*p) &&& (c+256*q)=(a &&& c)+256*(p &&& q):=by
 have h1:=Nat.and_mod_two_pow (a:=a+256*p) (b:=c+256*q) (n:=8);have h2:=Nat.and_div_two_pow (a:=a+256*p) (b:=c+256*q) (n:=8);rw [show (a+256*p) % 2 ^ 8=a by omega,show (c+256*q) % 2 ^ 8=c by omega] at h1
 rw [show (a+256*p) / 2 ^ 8=p by omega,show (c+256*q) / 2 ^ 8=q by omega] at h2
 omega
def g1(b:Nat):Nat:=((b / 2) &&& 85)+(b &&& 85)
def g2(b:Nat):Nat:=((b / 4) &&& 51)+(b &&& 51)
def g3(b:Nat):Nat:=b / 16+b % 16
def S1(k x:Nat):Nat:=((x / 2) &&& rep 85 k)+(x &&& rep 85 k)
def S2(k x:Nat):Nat:=((x / 4) &&& rep 51 k)+(x &&& rep 51 k)
def S3(k x:Nat):Nat:=(x / 16+x) &&& rep 15 k
theorem d85:∀ b:Fin 128,∀ t:Fin 2,(b.val+128*t.val) &&& 85=b.val &&& 85:=by decide +kernel
theorem d51:∀ b:Fin 64,∀ t:Fin 4,(b.val+64*t.val) &&& 51=b.val &&& 51:=by decide +kernel
theorem Um(k x:Nat):S1 (k+1) x=g1 (x % 256)+256*S1 k (x / 256):=by
 unfold S1 g1;rw [wZ];have e1:x / 2=(x % 256 / 2+128*(x / 256 % 2))+256*(x / 256 / 2):=by omega
 have e2:x=x % 256+256*(x / 256):=by omega
 have a1:(x / 2) &&& (85+256*rep 85 k)=((x % 256 / 2) &&& 85)+256*((x / 256 / 2) &&& rep 85 k):=by
  rw [e1,si _ _ _ _ (by omega) (by decide),d85 ⟨x % 256 / 2,by omega⟩ ⟨x / 256 % 2,by omega⟩]
 have a2:x &&& (85+256*rep 85 k)=((x % 256) &&& 85)+256*((x / 256) &&& rep 85 k):=by
  have:=si (x % 256) 85 (x / 256) (rep 85 k) (by omega) (by decide)
  rw [← e2] at this;exact this
 rw [a1,a2];omega
theorem Ul(k x:Nat):S2 (k+1) x=g2 (x % 256)+256*S2 k (x / 256):=by
 unfold S2 g2;rw [wZ];have e1:x / 4=(x % 256 / 4+64*(x / 256 % 4))+256*(x / 256 / 4):=by omega
 have e2:x=x % 256+256*(x / 256):=by omega
 have a1:(x / 4) &&& (51+256*rep 51 k)=((x % 256 / 4) &&& 51)+256*((x / 256 / 4) &&& rep 51 k):=by
  rw [e1,si _ _ _ _ (by omega) (by decide),d51 ⟨x % 256 / 4,by omega⟩ ⟨x / 256 % 4,by omega⟩]
 have a2:x &&& (51+256*rep 51 k)=((x % 256) &&& 51)+256*((x / 256) &&& rep 51 k):=by
  have:=si (x % 256) 51 (x / 256) (rep 51 k) (by omega) (by decide)
  rw [← e2] at this;exact this
 rw [a1,a2];omega
def Nb:Nat→Nat→Prop
 | 0,x=>x=0
 | k+1,x=>x % 256 % 16≤4∧x % 256 / 16≤4∧Nb k (x / 256)
theorem Nb.low:∀ {k x:Nat},Nb k x→x % 16≤4
 | 0,x,h=>by rw [show x=0 from h];decide
 | k+1,x,h=>by have:=h.1;omega
theorem Uk(k x:Nat)(h:Nb (k+1) x):S3 (k+1) x=g3 (x % 256)+256*S3 k (x / 256):=by
 obtain ⟨h1,h2,h3⟩:=h;have h4:=h3.low;unfold S3 g3;rw [wZ];have e1:x / 16+x=(x % 256 / 16+x % 256+16*(x / 256 % 16))+256*(x / 256 / 16+x / 256):=by omega
 rw [e1,si _ _ _ _ (by omega) (by decide)]
 have:(x % 256 / 16+x % 256+16*(x / 256 % 16)) &&& 15=x % 256 / 16+x % 256 % 16:=by
  rw [show (15:Nat)=2 ^ 4 - 1 by decide,Nat.and_two_pow_sub_one_eq_mod]
  omega
 rw [this]
theorem d1:∀ b:Fin 256,g1 b.val<256∧g2 (g1 b.val)<256∧g2 (g1 b.val) % 16≤4∧g2 (g1 b.val) / 16≤4∧g3 (g2 (g1 b.val))=tr b.val.testBit 8:=by decide +kernel
theorem Fm(k x:Nat):S2 (k+1) (S1 (k+1) x)=g2 (g1 (x % 256))+256*S2 k (S1 k (x / 256)):=by
 have h:=d1 ⟨x % 256,by omega⟩
 simp only at h;rw [Ul,Um,show (g1 (x % 256)+256*S1 k (x / 256)) % 256=g1 (x % 256) by omega,show (g1 (x % 256)+256*S1 k (x / 256)) / 256=S1 k (x / 256) by omega]
theorem Rb:∀ (k x:Nat),Nb k (S2 k (S1 k x))
 | 0,x=>by show S2 0 (S1 0 x)=0;simp [S2,S1,rep]
 | k+1,x=>by
  have h:=d1 ⟨x % 256,by omega⟩
  simp only at h;have ih:=Rb k (x / 256);rw [Fm];refine ⟨by omega,by omega,?_⟩
  rw [show (g2 (g1 (x % 256))+256*S2 k (S1 k (x / 256))) / 256=S2 k (S1 k (x / 256)) by omega]
  exact ih
theorem iX(k x:Nat):S3 (k+1) (S2 (k+1) (S1 (k+1) x))=tr (x % 256).testBit 8+256*S3 k (S2 k (S1 k (x / 256))):=by
 have h:=d1 ⟨x % 256,by omega⟩
 simp only at h;rw [Uk _ _ (Rb (k+1) x),Fm,show (g2 (g1 (x % 256))+256*S2 k (S1 k (x / 256))) % 256=g2 (g1 (x % 256)) by omega,show (g2 (g1 (x % 256))+256*S2 k (S1 k (x / 256))) / 256=S2 k (S1 k (x / 256)) by omega,h.2.2.2.2]
theorem lJ(k x:Nat):tr x.testBit (8*(k+1))=tr (x % 256).testBit 8+tr (x / 256).testBit (8*k):=by
 rw [show 8*(k+1)=8+8*k by omega,F9]
 congr 1
 ·exact qY fun j hj=>by rw [show (256:Nat)=2 ^ 8 by decide,Nat.testBit_mod_two_pow];simp [hj]
 ·exact qY fun j hj=>by rw [show (256:Nat)=2 ^ 8 by decide,Nat.testBit_div_two_pow,Nat.add_comm]
theorem acM(y e0 e1 e2 e3 e4 e5 e6 e7:Nat)(h0:e0≤8)(h1:e1≤8)(h2:e2≤8)(h3:e3≤8)(h4:e4≤8)(h5:e5≤8)(h6:e6≤8)(h7:e7≤8)(hy:y=e0+256*(e1+256*(e2+256*(e3+256*(e4+256*(e5+256*(e6+256*e7))))))):∃ s4 s5 s6,y<1152921504606846976∧y+y / 256=s4∧s4+s4 / 65536=s5∧s5+s5 / 4294967296=s6∧s4<2305843009213693952∧s5<2305843009213693952∧s6<2305843009213693952∧s6 % 128=e0+e1+e2+e3+e4+e5+e6+e7:=by
 obtain ⟨r4,MY⟩ : ∃ r,r=e4+256*(e5+256*(e6+256*e7)):=⟨_,rfl⟩;obtain ⟨r5,hr5⟩ : ∃ r,r=e5+256*(e6+256*e7):=⟨_,rfl⟩;obtain ⟨r6,hr6⟩ : ∃ r,r=e6+256*e7:=⟨_,rfl⟩;obtain ⟨r2,iF⟩ : ∃ r,r=e2+256*(e3+256*r4):=⟨_,rfl⟩;obtain ⟨r1,fU⟩ : ∃ r,r=e1+256*r2:=⟨_,rfl⟩;obtain ⟨r3,pM⟩ : ∃ r,r=e3+256*r4:=⟨_,rfl⟩;have y1:y=e0+256*r1:=by omega
 have q1:y / 256=r1:=by omega
 have q4:(y+r1) / 65536=r2+r3:=by omega
 have q5:(y+r1+(r2+r3)) / 4294967296=r4+r5+r6+e7:=by omega
 have b4:r4≤134744072:=by omega
 have b3:r3≤34494482440:=by omega
 have b2:r2≤8830587504648:=by omega
 have b1:r1≤2260630401189896:=by omega
 have b0:y≤578721382704613384:=by omega
 refine ⟨y+r1,y+r1+(r2+r3),y+r1+(r2+r3)+(r4+r5+r6+e7),by omega,by rw [q1],by rw [q4],by rw [q5],by omega,by omega,by omega,by omega⟩
theorem Oo(x:Nat)(_hx:x<18446744073709551616):∃ s1 s2 s3 s4 s5 s6,((x / 2) &&& 6148914691236517205)+(x &&& 6148914691236517205)=s1∧((s1 / 4) &&& 3689348814741910323)+(s1 &&& 3689348814741910323)=s2∧(s2 / 16+s2) &&& 1085102592571150095=s3∧s3+s3 / 256=s4∧s4+s4 / 65536=s5∧s5+s5 / 4294967296=s6∧s6 % 128=tr x.testBit 64∧s3<1152921504606846976∧s4<2305843009213693952∧s5<2305843009213693952∧s6<2305843009213693952:=by
 have m1:rep 85 8=6148914691236517205:=by decide
 have m2:rep 51 8=3689348814741910323:=by decide
 have m3:rep 15 8=1085102592571150095:=by decide
 have H:∃ x1 x2 x3 x4 x5 x6 x7,S3 8 (S2 8 (S1 8 x))=tr (x % 256).testBit 8+256*(tr (x1 % 256).testBit 8+256*(tr (x2 % 256).testBit 8+256*(tr (x3 % 256).testBit 8+256*(tr (x4 % 256).testBit 8+256*(tr (x5 % 256).testBit 8+256*(tr (x6 % 256).testBit 8+256*(tr (x7 % 256).testBit 8))))))) ∧
   tr x.testBit 64=tr (x % 256).testBit 8+tr (x1 % 256).testBit 8+tr (x2 % 256).testBit 8+tr (x3 % 256).testBit 8+tr (x4 % 256).testBit 8+tr (x5 % 256).testBit 8+tr (x6 % 256).testBit 8+tr (x7 % 256).testBit 8:=by
  refine ⟨x / 256,x / 256 / 256,x / 256 / 256 / 256,x / 256 / 256 / 256 / 256,x / 256 / 256 / 256 / 256 / 256,x / 256 / 256 / 256 / 256 / 256 / 256,x / 256 / 256 / 256 / 256 / 256 / 256 / 256,?_,?_⟩
  ·rw [iX 7,iX 6,iX 5,iX 4,iX 3,iX 2,iX 1,iX 0];have:∀ z,S3 0 (S2 0 (S1 0 z))=0:=fun z=>by simp [S3,rep]
   rw [this];simp only [Nat.mul_zero,Nat.add_zero]
  ·have t7:tr (x).testBit 64=tr (x % 256).testBit 8+tr (x / 256).testBit 56:=lJ 7 _;have t6:tr (x / 256).testBit 56=tr (x / 256 % 256).testBit 8+tr (x / 256 / 256).testBit 48:=lJ 6 _;have t5:tr (x / 256 / 256).testBit 48=tr (x / 256 / 256 % 256).testBit 8+tr (x / 256 / 256 / 256).testBit 40:=lJ 5 _;have t4:tr (x / 256 / 256 / 256).testBit 40=tr (x / 256 / 256 / 256 % 256).testBit 8+tr (x / 256 / 256 / 256 / 256).testBit 32:=lJ 4 _;have t3:tr (x / 256 / 256 / 256 / 256).testBit 32=tr (x / 256 / 256 / 256 / 256 % 256).testBit 8+tr (x / 256 / 256 / 256 / 256 / 256).testBit 24:=lJ 3 _;have t2:tr (x / 256 / 256 / 256 / 256 / 256).testBit 24=tr (x / 256 / 256 / 256 / 256 / 256 % 256).testBit 8+tr (x / 256 / 256 / 256 / 256 / 256 / 256).testBit 16:=lJ 2 _;have t1:tr (x / 256 / 256 / 256 / 256 / 256 / 256).testBit 16=tr (x / 256 / 256 / 256 / 256 / 256 / 256 % 256).testBit 8+tr (x / 256 / 256 / 256 / 256 / 256 / 256 / 256).testBit 8:=lJ 1 _;have t0:tr (x / 256 / 256 / 256 / 256 / 256 / 256 / 256).testBit 8=tr (x / 256 / 256 / 256 / 256 / 256 / 256 / 256 % 256).testBit 8+tr (x / 256 / 256 / 256 / 256 / 256 / 256 / 256 / 256).testBit 0:=lJ 0 _;have t:tr (x / 256 / 256 / 256 / 256 / 256 / 256 / 256 / 256).testBit 0=0:=rfl;omega
 obtain ⟨x1,x2,x3,x4,x5,x6,x7,hs,ht⟩:=H;have hb:∀ z,tr (z % 256).testBit 8≤8:=fun z=>CT _ 8
 obtain ⟨s4,s5,s6,a0,a1,a2,a3,b4,b5,b6,a4⟩:=acM _ _ _ _ _ _ _ _ _ (hb x) (hb x1) (hb x2) (hb x3) (hb x4) (hb x5) (hb x6) (hb x7) hs;unfold S3 S2 S1 at hs a0 a1;rw [m1,m2,m3] at a0 a1;exact ⟨_,_,_,s4,s5,s6,rfl,rfl,rfl,a1,a2,a3,by rw [a4,ht],a0,b4,b5,b6⟩
def nW(P:Nat):Nat:=(P+63) / 64
def fj(T:Nat→Bool)(n:Nat):List Value:=(List.range n).map fun i=>.int .u64 (word T i:Int)
theorem cz(T:Nat→Bool)(n:Nat):(fj T n).length=n:=by simp [fj]
theorem gQ(T:Nat→Bool)(n i:Nat)(h:i<n):(fj T n)[i]?=some (.int .u64 (word T i:Int)):=by simp [fj,h]
theorem FX(T:Nat→Bool)(n id:Nat)(x:Bool):(fj T n).set (id / 64) (.int .u64 (word (lE T id x) (id / 64):Int))=fj (lE T id x) n:=by
 apply qd
 intro i;by_cases hi:i<n
 ·by_cases he:i=id / 64
  ·subst he;rw [List.getElem?_set_self (by rw [cz];exact hi),gQ _ _ _ hi]
  ·rw [List.getElem?_set_ne (fun h=>he h.symm),gQ _ _ _ hi,gQ _ _ _ hi,CH _ _ _ _ he]
 ·rw [bB (by rw [cx,cz];omega),bB (by rw [cz];omega)]
structure dj(w:World)(b g P:Nat)(T:Nat→Bool):Prop where
 dF:w.heap[b]?=some (.cells #[.int .i64 P,.slice (some ⟨g,0,none⟩) (nW P) (nW P)] 131 (0,0))
 Nu:w.ownsRow 0 40 1 (.slice (some ⟨g,0,none⟩) (nW P) (nW P)) (nW P) (fj T (nW P))
 hi:P≤1048576
theorem lt_of_heap{w:World}{b:Nat}{o:Obj}(h:w.heap[b]?=some o):b<w.heap.size:=(Array.getElem?_eq_some_iff.1 h).1
theorem dj.SW{w:World}{b g P:Nat}{T:Nat→Bool}(h:dj w b g P T):b<w.heap.size:=lt_of_heap h.dF
theorem dj.Rz{w:World}{b g P:Nat}{T:Nat→Bool}(h:dj w b g P T):g<w.heap.size:=(eD h.Nu g rfl).2.1
theorem dj.ne{w:World}{b g P:Nat}{T:Nat→Bool}(h:dj w b g P T):b≠g:=fun e=>by
 obtain ⟨cur,hc⟩:=(eD h.Nu g rfl).2.2;have:=h.dF;rw [e,hc] at this;simp at this
theorem dj.c0{w:World}{b g P:Nat}{T:Nat→Bool}(h:dj w b g P T):w.cell? ⟨b,0,none⟩=some (.int .i64 P):=cell_of_row w b 0 _ _ _ h.dF
theorem dj.c1{w:World}{b g P:Nat}{T:Nat→Bool}(h:dj w b g P T):w.cell? ⟨b,1,none⟩=some (.slice (some ⟨g,0,none⟩) (nW P) (nW P)):=cell_of_row w b 1 _ _ _ h.dF
theorem dj.cw{w:World}{b g P:Nat}{T:Nat→Bool}(h:dj w b g P T)(i:Nat)(hi:i<nW P):w.cell? ⟨g,i,none⟩=some (.int .u64 (word T i:Int)):=by
 rw [h.Nu.cellAt i (by omega)];exact gQ _ _ _ hi
theorem dj.only{F:Nat→Prop}{w w':World}{b g P:Nat}{T:Nat→Bool}(h:dj w b g P T)(ho:eF F w w')(hb:¬ F b)(hg:¬ F g):dj w' b g P T :=
 ⟨(ho.block b h.SW hb).trans h.dF,Ar h.Nu ho (fun k hk=>by cases hk;exact hg),h.hi⟩
theorem dj.below{w w':World}{b g P:Nat}{T:Nat→Bool}(h:dj w b g P T)(hb:Below w.heap.size w w'):dj w' b g P T :=
 h.only (eF.bo (F:=fun _=>False) hb) id id
theorem dj.stored{w:World}{b g P:Nat}{T:Nat→Bool}(h:dj w b g P T)(id:Nat)(x:Bool):dj (w.setCell ⟨g,id / 64,none⟩ (.int .u64 (word (lE T id x) (id / 64):Int))) b g P (lE T id x) :=
 ⟨(Below.heap_setCell w ⟨g,id / 64,none⟩ _ b h.ne).trans h.dF,by have:=(h.Nu.stored (id / 64) (.int .u64 (word (lE T id x) (id / 64):Int))).1;rw [FX] at this;exact this,h.hi⟩
theorem xJ{P:Nat}(h:P≤1048576):nW P≤16384:=by unfold nW;omega
theorem xI(P:Nat):P≤64*nW P:=by unfold nW;omega
theorem vp(T:Nat→Bool)(id:Nat):bits .andNot .u64 ((word T (id / 64):Nat):Int) ((2 ^ (id % 64):Nat):Int)=((word (lE T id false) (id / 64):Nat):Int):=by
 have ha:=word_lt T (id / 64);have hb:=mY id;generalize hA:word T (id / 64)=a at ha;generalize hB:2 ^ (id % 64)=c at hb;have h1:(BitVec.ofInt 64 (a:Int)).toNat=a:=by
  rw [BitVec.ofInt_natCast,BitVec.toNat_ofNat];exact Nat.mod_eq_of_lt (by omega)
 have h2:(BitVec.ofInt 64 (c:Int)).toNat=c:=by
  rw [BitVec.ofInt_natCast,BitVec.toNat_ofNat];exact Nat.mod_eq_of_lt (by omega)
 have hx:(BitVec.ofInt 64 (a:Int) &&& ~~~BitVec.ofInt 64 (c:Int)).toNat=word (lE T id false) (id / 64):=by
  apply FU
  intro j;rw [hA,hB,BitVec.testBit_toNat,BitVec.getLsbD_and,BitVec.getLsbD_not,← BitVec.testBit_toNat,← BitVec.testBit_toNat,h1,h2];by_cases hj:j<64
  ·simp [hj]
  ·simp [hj]
 show IntKind.u64.wrap ((BitVec.ofInt 64 (a:Int) &&& ~~~BitVec.ofInt 64 (c:Int)).toNat:Int)=_
 rw [hx,IntKind.wrap_u64];have:=word_lt (lE T id false) (id / 64);omega
theorem tL(a:Nat)(ha:a<9223372036854775808):bits .and .i64 ((a:Nat):Int) 127=((a % 128:Nat):Int):=by
 have h1:(BitVec.ofInt 64 (a:Int)).toNat=a:=by
  rw [BitVec.ofInt_natCast,BitVec.toNat_ofNat];exact Nat.mod_eq_of_lt (by omega)
 show IntKind.i64.wrap ((BitVec.ofInt 64 (a:Int) &&& BitVec.ofInt 64 127).toNat:Int)=_
 rw [BitVec.toNat_and,h1,show (BitVec.ofInt 64 127).toNat=2 ^ 7 - 1 by decide,Nat.and_two_pow_sub_one_eq_mod,IntKind.wrap_i64]
 omega
theorem UK(a b:Nat)(h:a=b)(hb:b<18446744073709551616):IntKind.u64.wrap ((a:Nat):Int)=(b:Int):=by
 rw [IntKind.wrap_u64,h];omega
theorem Ed(a m:Nat)(M:Int)(hM:M=(m:Int))(A:Int)(hA:A=(a:Int))(ha:a<18446744073709551616)(hm:m<18446744073709551616):bits .and .u64 A M=((a &&& m:Nat):Int):=by
 rw [hM,hA];exact bits_and_u64_nat a m ha hm
theorem OD(x:Nat)(hx:x<18446744073709551616)(w:World):Calls prog 74 #[.int .u64 x] w fun e w'=>e = .returned (.int .i64 (tr x.testBit 64:Nat))∧w=w':=by
 obtain ⟨s1,s2,s3,s4,s5,s6,h1,h2,h3,h4,h5,h6,h7,b3,b4,b5,b6⟩:=Oo x hx;have la:∀ a m:Nat,a &&& m≤m:=fun a m=>Nat.and_le_right
 have c1:s1≤12297829382473034410:=by
  have:=la (x / 2) 6148914691236517205;have:=la x 6148914691236517205;omega
 have c2:s2≤7378697629483820646:=by
  have:=la (s1 / 4) 3689348814741910323;have:=la s1 3689348814741910323;omega
 have W1:IntKind.u64.wrap (bits .and .u64 ((x:Int) / 2) 6148914691236517205+bits .and .u64 (x:Int) 6148914691236517205)=(s1:Int):=by
  rw [Ed (x / 2) 6148914691236517205 6148914691236517205 (by rfl) ((x:Int) / 2) (by omega) (by omega) (by decide),Ed x 6148914691236517205 6148914691236517205 (by rfl) (x:Int) rfl hx (by decide),← eA]
  exact UK _ _ h1 (by omega)
 have W2:IntKind.u64.wrap (bits .and .u64 ((s1:Int) / 4) 3689348814741910323+bits .and .u64 (s1:Int) 3689348814741910323)=(s2:Int):=by
  rw [Ed (s1 / 4) 3689348814741910323 3689348814741910323 (by rfl) ((s1:Int) / 4) (by omega) (by omega) (by decide),Ed s1 3689348814741910323 3689348814741910323 (by rfl) (s1:Int) rfl (by omega) (by decide),← eA]
  exact UK _ _ h2 (by omega)
 have W3:bits .and .u64 (IntKind.u64.wrap ((s2:Int) / 16+(s2:Int))) 1085102592571150095=(s3:Int):=by
  rw [Ed (s2 / 16+s2) 1085102592571150095 1085102592571150095 (by rfl) (IntKind.u64.wrap ((s2:Int) / 16+(s2:Int))) (by rw [IntKind.wrap_u64];omega) (by omega) (by decide),h3]
 have W4:IntKind.u64.wrap ((s3:Int)+(s3:Int) / 256)=(s4:Int):=by rw [IntKind.wrap_u64];omega
 have W5:IntKind.u64.wrap ((s4:Int)+(s4:Int) / 65536)=(s5:Int):=by rw [IntKind.wrap_u64];omega
 have W6:IntKind.u64.wrap ((s5:Int)+(s5:Int) / 4294967296)=(s6:Int):=by rw [IntKind.wrap_u64];omega
 have W7:IntKind.i64.wrap (s6:Int)=(s6:Int):=by rw [IntKind.wrap_i64];omega
 have W8:bits .and .i64 (s6:Int) 127=((tr x.testBit 64:Nat):Int):=by rw [tL s6 (by omega),h7]
 clear h1 h2 h3 h4 h5 h6 h7 b3 b4 b5 b6 c1 c2 la;generalize tr x.testBit 64=res at *;go_enter func74,ntmps74;go_wp2_with (fail)
 go_ret;exact ⟨rfl,rfl⟩
theorem Ns(id:Nat):IntKind.u64.wrap (2 ^ (id % 64))=((2 ^ (id % 64):Nat):Int):=by
 have h:=mY id;rw [IntKind.wrap_u64,show (2:Int) ^ (id % 64)=((2 ^ (id % 64):Nat):Int) by simp]
 generalize 2 ^ (id % 64)=p at *;omega
theorem tM(id:Nat)(hx:id<1125899906842624)(w:World):Calls prog 148 #[.int .i64 id] w fun e w'=>e = .returned (.tuple #[.int .i64 (id / 64:Nat),.int .u64 (2 ^ (id % 64):Nat)])∧Below w.heap.size w w':=by
 have hp:=Ns id;go_enter func148,ntmps148;go_wp2_with fail;go_quiet (fail)
 have hb:Below w.heap.size w (w.drewN nq):=⟨rfl,rfl,rfl,aj _,fun _ _=>rfl⟩
 go_wp2_with fail;go_ret2;refine ⟨?_,hb⟩;rw [hp];simp
def tY(w:World):Prop:=∀ j,j<64→w.cell? ⟨13,j,none⟩=some (.int .u8 (Lib.deBruijn64tab.getD j 0))
theorem NC(x a:Nat)(hx:x<18446744073709551616)(RC:x≠0)(vl:x &&& (18446744073709551616 - x)=a):IntKind.u64.wrap (bits BinOp.and IntKind.u64 (x:Int) (IntKind.u64.wrap (-(x:Int)))*285870213051353865) / 288230376151711744=((a*285870213051353865 % 18446744073709551616 / 288230376151711744:Nat):Int):=by
 have e1:IntKind.u64.wrap (-(x:Int))=((18446744073709551616 - x:Nat):Int):=by rw [IntKind.wrap_u64];omega
 rw [e1,bits_and_u64_nat x _ hx (by omega),vl,IntKind.wrap_u64]
 omega
theorem Se(x k idx:Nat)(w:World)(RC:((x:Int) == 0)=false)(key:IntKind.u64.wrap (bits BinOp.and IntKind.u64 (x:Int) (IntKind.u64.wrap (-(x:Int)))*285870213051353865) / 288230376151711744=(idx:Int))(hi:idx<64)(hk:k<64)(bm:w.cell? ⟨13,idx,none⟩=some (.int .u8 k)):Calls prog 147 #[.int .u64 x] w fun e w'=>e = .returned (.int .i64 k)∧w=w':=by
 go_enter func147,ntmps147;go_wp2_with (simp only [key])
 go_ret;exact ⟨rfl,rfl⟩
theorem VP(x:Nat)(hx:x<18446744073709551616)(RC:x≠0)(w:World)(hT:tY w):Calls prog 147 #[.int .u64 x] w fun e w'=>e = .returned (.int .i64 (Lib.ctz 64 x))∧w=w':=by
 obtain ⟨vl,hk⟩:=Lib.lowest_bit 64 x RC hx;obtain ⟨hi,Tm⟩:=Lib.deBruijn64_at _ hk;have bm:=hT _ hi;rw [Tm] at bm;exact Se x _ _ w (by simp;omega) (NC x _ hx RC vl) hi hk bm
theorem tY.below{w w':World}(h:tY w)(hb:Below w.heap.size w w'):tY w':=fun j hj=>(hb.cell (p:=⟨13,j,none⟩) (World.block_lt_of_cell? w _ (h j hj))).trans (h j hj)
structure Env(base:Nat)(A:Nat→Addr)(w:World):Prop where
 errs:dy 13 eV A w
 tab:tY w
 lo:∀ i,i<13→eV i<base∧(A i).block<base
 lt:13<base
 size:base≤w.heap.size
theorem Env.keep{base:Nat}{A:Nat→Addr}{w w':World}(h:Env base A w)(hb:Below base w w'):Env base A w':=by
 refine ⟨⟨fun i hi=>?_,h.errs.2⟩,fun j hj=>?_,h.lo,h.lt,ar h.size hb.size⟩
 ·obtain ⟨h1,c,t,h2⟩:=h.errs.1 i hi;obtain ⟨l1,l2⟩:=h.lo i hi;exact ⟨(World.cell?_of_block (a:=⟨eV i,0,none⟩) (hb.block _ l1)).trans h1,c,t,(hb.block _ l2).trans h2⟩
 ·exact (World.cell?_of_block (a:=⟨13,j,none⟩) (hb.block _ h.lt)).trans (h.tab j hj)
theorem Env.up{base:Nat}{A:Nat→Addr}{w w':World}(h:Env base A w)(hb:Below w.heap.size w w'):Env base A w':=h.keep (hb.mono h.size)
theorem Env.e{base:Nat}{A:Nat→Addr}{w:World}(h:Env base A w)(i:Nat)(hi:i<13):w.cell? ⟨eV i,0,none⟩=some (.iface 360 (.pointer (some (A i)))):=(h.errs.1 i hi).1
def kG(P:Nat)(id:Int):Bool:=decide (2≤id) && decide (id<P)
theorem CS(b g P:Nat)(T:Nat→Bool)(id:Int)(w:World)(h:dj w b g P T):Calls prog 109 #[.pointer (some ⟨b,0,none⟩),.int .i64 id] w fun e w'=>e = .returned (.bool (kG P id))∧w=w':=by
 have c0:=h.c0;clear h;by_cases h2:2≤id
 ·by_cases h3:id<P
  ·go_enter func109,ntmps109;go_wp2;go_ret;exact ⟨by simp [kG,h2,h3],rfl⟩
  ·go_enter func109,ntmps109;go_wp2;go_ret;exact ⟨by simp [kG,h3],rfl⟩
 ·go_enter func109,ntmps109;go_wp2;go_ret;exact ⟨by simp [kG];omega,rfl⟩
theorem Bu(b g P:Nat)(T:Nat→Bool)(id:Nat)(w:World)(h:dj w b g P T)(hid:id<64*nW P):Calls prog 108 #[.pointer (some ⟨b,0,none⟩),.int .i64 id] w fun e w'=>e = .returned (.tuple #[])∧dj w' b g P (lE T id true)∧eF (fun k=>k=g) w w':=by
 have hn:=xJ h.hi;have HB:=ab (tM id (by omega) w)
 have H:=ab h;clear h;go_enter func108,ntmps108;go_wp2_with fail;refine HB.out.mono ?_
 rintro e w1 ⟨rfl,hb⟩;have h1:=H.out.below hb;have c1:=h1.c1;have hq:id / 64<nW P:=by omega
 have cw:=h1.cw (id / 64) hq;have cf:=h1.Nu.frozenAt (id / 64);have X4:bits .or .u64 ((word T (id / 64):Nat):Int) ((2 ^ (id % 64):Nat):Int)=((word (lE T id true) (id / 64):Nat):Int):=by
  rw [bits_or_u64_nat _ _ (word_lt _ _) (mY id),Nt]
 have eK:Hid (dj (w1.setCell ⟨g,id / 64,none⟩ (.int .u64 (word (lE T id true) (id / 64):Int))) b g P (lE T id true)∧eF (fun k=>k=g) w (w1.setCell ⟨g,id / 64,none⟩ (.int .u64 (word (lE T id true) (id / 64):Int)))) :=
  ⟨h1.stored id true,(eF.bo hb).trans (eF.set (F:=fun k=>k=g) rfl _ _ _)⟩
 generalize word (lE T id true) (id / 64)=x' at *;generalize word T (id / 64)=x at *;generalize 2 ^ (id % 64)=p at *;generalize id / 64=q at *;generalize nW P=n at *;clear h1 hb H HB;go_wp2;go_end0
 exact ⟨rfl,eK.out⟩
theorem J7(b g P:Nat)(T:Nat→Bool)(id:Nat)(w:World)(h:dj w b g P T)(hid:id<64*nW P):Calls prog 111 #[.pointer (some ⟨b,0,none⟩),.int .i64 id] w fun e w'=>e = .returned (.tuple #[])∧dj w' b g P (lE T id false)∧eF (fun k=>k=g) w w':=by
 have hn:=xJ h.hi;have HB:=ab (tM id (by omega) w)
 have H:=ab h;clear h;go_enter func111,ntmps111;go_wp2_with fail;refine HB.out.mono ?_
 rintro e w1 ⟨rfl,hb⟩;have h1:=H.out.below hb;have c1:=h1.c1;have hq:id / 64<nW P:=by omega
 have cw:=h1.cw (id / 64) hq;have cf:=h1.Nu.frozenAt (id / 64);have X4:=vp T id;have eK:Hid (dj (w1.setCell ⟨g,id / 64,none⟩ (.int .u64 (word (lE T id false) (id / 64):Int))) b g P (lE T id false)∧eF (fun k=>k=g) w (w1.setCell ⟨g,id / 64,none⟩ (.int .u64 (word (lE T id false) (id / 64):Int)))) :=
  ⟨h1.stored id false,(eF.bo hb).trans (eF.set (F:=fun k=>k=g) rfl _ _ _)⟩
 generalize word (lE T id false) (id / 64)=x' at *;generalize word T (id / 64)=x at *;generalize 2 ^ (id % 64)=p at *;generalize id / 64=q at *;generalize nW P=n at *;clear h1 hb H HB;go_wp2;go_end0
 exact ⟨rfl,eK.out⟩
def gl(T:Nat→Bool)(l:List Nat):Nat→Bool:=fun j=>T j || l.contains j
theorem Nz(T:Nat→Bool):gl T []=T:=by funext j;simp [gl]
theorem J6(T:Nat→Bool)(l:List Nat)(id:Nat):lE (gl T l) id true=gl T (l++[id]):=by
 funext j
 unfold lE gl;by_cases h:j=id
 ·simp [h]
 ·simp [h]
def CO(T:Nat→Bool)(a b:Nat):Nat→Bool:=fun j=>T j || (decide (a≤j) && decide (j<b))
theorem Ny(T:Nat→Bool)(a:Nat):CO T a a=T:=by
 funext j
 have:¬ (a≤j∧j<a):=by omega
 simp [CO];intro h1;omega
theorem J5(T:Nat→Bool)(a b:Nat)(h:a≤b):lE (CO T a b) b true=CO T a (b+1):=by
 funext j
 unfold lE CO;by_cases hj:j=b
 ·subst hj;simp [h]
 ·by_cases h2:j<b
  ·simp [hj,h2,show j<b+1 by omega]
  ·simp [hj,h2,show ¬ j<b+1 by omega]
theorem wQ(b g P:Nat)(T:Nat→Bool)(lo hi:Nat)(w:World)(h:dj w b g P T)(hle:lo≤hi)(hid:hi≤64*nW P):Calls prog 78 #[.pointer (some ⟨b,0,none⟩),.int .i64 lo,.int .i64 hi] w fun e w'=>e = .returned (.tuple #[])∧dj w' b g P (CO T lo hi)∧eF (fun k=>k=g) w w':=by
 have hn:=xJ h.hi;have H:=ab h;clear h;go_enter func78,ntmps78;go_wp2_with fail;go_loopw [6] (fun i wr=>∃ k:Nat,lo≤k∧k≤hi∧i = .int .i64 k∧dj wr b g P (CO T lo k)∧eF (fun k=>k=g) w wr) (fun i _=>hi - (intOf i).toNat)
 case atStart=>exact ⟨lo,aj _,hle,rfl,by rw [Ny];exact H.out,eF.refl _ _⟩
 case round =>
  obtain ⟨k,jx,p9,rfl,hm,ho⟩:=hrel;by_cases bK:k<hi
  ·have HS:=ab (Bu b g P _ k wr hm (by omega))
   have HO:=ab ho;have WH:k<2000000:=by omega
   clear hm ho hid hle;generalize nW P=nn at *;go_wp2_with fail;refine HS.out.mono ?_
   rintro e w1 ⟨rfl,h1,o1⟩;rw [J5 _ _ _ jx] at h1;have H1:=ab h1;have O1:=ab (HO.out.trans o1);clear h1 o1 HS HO;go_wp2;go_roundw
   case rel=>exact ⟨k+1,by omega,by omega,by go_num,H1.out,O1.out⟩
   case measure=>simp [intOf];omega
  ·have he:k=hi:=by omega
   have H1:=ab hm;have O1:=ab ho;clear hm ho;go_wp2;go_end0
   rw [← he];exact ⟨rfl,H1.out,O1.out⟩
structure kn(P:Nat)(T:Nat→Bool):Prop where
 lo:4≤P
 hi:P≤1048576
 t0:T 0=true
 t1:T 1=true
 up:∀ j,P≤j→T j=true
def nH(P:Nat)(T:Nat→Bool)(id:Int):Bool:=decide (0≤id) && (decide (id<P) && T id.toNat)
theorem CM(b g P:Nat)(T:Nat→Bool)(id:Int)(w:World)(h:dj w b g P T):Calls prog 110 #[.pointer (some ⟨b,0,none⟩),.int .i64 id] w fun e w'=>e = .returned (.bool (nH P T id))∧Below w.heap.size w w':=by
 have c0:=h.c0;have H:=ab h;clear h;by_cases h2:0≤id
 ·by_cases h3:id<P
  ·obtain ⟨n,rfl⟩ : ∃ n:Nat,id=n:=⟨id.toNat,by omega⟩
   have hP:=H.out.hi;have hnW:=xI P;have HB:=ab (tM n (by omega) w)
   have hn:n<P:=by omega
   have hq:n / 64<nW P:=by omega
   have hu:=JZ T n;have HUB:Hid (nH P T n=T n):=by show nH P T n=T n;simp [nH];omega
   rw [HUB.out];clear hnW;go_enter func110,ntmps110;go_wp2_with fail;refine HB.out.mono ?_
   rintro e w1 ⟨rfl,hb⟩;have h1:=H.out.below hb;have c1:=h1.c1;have cw:=h1.cw (n / 64) hq;have hand:bits .and .u64 ((word T (n / 64):Nat):Int) ((2 ^ (n % 64):Nat):Int)=((word T (n / 64) &&& 2 ^ (n % 64):Nat):Int):=bits_and_u64_nat _ _ (word_lt _ _) (mY n);generalize hR:word T (n / 64) &&& 2 ^ (n % 64)=r at *;generalize word T (n / 64)=x at *;generalize 2 ^ (n % 64)=p at *;generalize n / 64=q at *;generalize nW P=nn at *;have lI:=ab hb;have HU:=ab hu;clear h1 hb H HB hR hu;cases hT:T n with
   | true =>
    have hr:((r:Int) != 0)=true:=by
     have:¬ r=0:=fun h=>by have:=HU.out.1 h;rw [hT] at this;cases this
     simp;omega
    have HT:=ab hT;clear hT;go_wp2;go_ret;exact ⟨by rw [HT.out];rfl,lI.out⟩
   | false =>
    have hr:r=0:=HU.out.2 hT;subst hr;have HT:=ab hT;clear hT;go_wp2;go_ret;exact ⟨by rw [HT.out];rfl,lI.out⟩
  ·have HUB:Hid (nH P T id=false):=by show nH P T id=false;simp [nH];omega
   rw [HUB.out];go_enter func110,ntmps110;go_wp2;go_ret;exact ⟨rfl,Below.refl _ _⟩
 ·have HUB:Hid (nH P T id=false):=by show nH P T id=false;simp [nH];omega
  rw [HUB.out];go_enter func110,ntmps110;go_wp2;go_ret;exact ⟨rfl,Below.refl _ _⟩
theorem wG{P:Nat}{T:Nat→Bool}{id:Int}(h:kG P id=true):nH P T id=T id.toNat:=by
 simp only [kG,bU,decide_eq_true_eq] at h;simp [nH,show (0:Int)≤id by omega,h.2]
def DP(P:Nat)(T:Nat→Bool)(id:Int):Option Nat × (Nat→Bool):=if kG P id then (if T id.toNat then (some 4,T) else (none,lE T id.toNat true)) else (some 0,T)
def tJ(P:Nat)(T:Nat→Bool)(id:Int):Option Nat × (Nat→Bool):=if kG P id then (if T id.toNat then (none,lE T id.toNat false) else (some 5,T)) else (some 0,T)
theorem OU(base:Nat)(A:Nat→Addr)(b g P:Nat)(T:Nat→Bool)(id:Int)(w:World)(h:dj w b g P T)(hE:Env base A w):Calls prog 102 #[.pointer (some ⟨b,0,none⟩),.int .i64 id] w fun e w'=>e = .returned (gC A (DP P T id).1)∧dj w' b g P (DP P T id).2∧eF (fun k=>k=g) w w':=by
 have MG:=ab (CS b g P T id w h);have vu:=ab (CM b g P T id w h);have H:=ab h;have HE:=ab hE;unfold DP;cases ht:kG P id with
 | false =>
  rw [if_neg (by simp)]
  rw [ht] at MG;have c:w.cell? ⟨0,0,none⟩=some (.iface 360 (.pointer (some (A 0)))):=hE.e 0 (by decide)
  clear ht h hE;go_enter func102,ntmps102;go_wp2_with fail;refine MG.out.mono ?_
  rintro e w1 ⟨rfl,rfl⟩;go_wp2;go_ret;exact ⟨rfl,H.out,eF.refl _ _⟩
 | true =>
  rw [if_pos rfl];rw [ht] at MG;rw [wG ht] at vu;have hb:=ht;simp only [kG,bU,decide_eq_true_eq] at hb;obtain ⟨n,rfl⟩ : ∃ n:Nat,id=n:=⟨id.toNat,by omega⟩
  rw [aW] at *;have bK:n<64*nW P:=by have:=xI P;omega
  have XA:=ab bK;clear ht h hb bK hE;cases hT:T n with
  | true =>
   rw [hT] at vu;rw [if_pos rfl];clear hT;go_enter func102,ntmps102;go_wp2_with fail;refine MG.out.mono ?_
   rintro e w1 ⟨rfl,rfl⟩;go_wp2_with fail;refine vu.out.mono ?_
   rintro e w1 ⟨rfl,hb⟩;have c:w1.cell? ⟨4,0,none⟩=some (.iface 360 (.pointer (some (A 4)))):=(HE.out.up hb).e 4 (by decide)
   have lI:=ab hb;clear hb;go_wp2;go_ret;exact ⟨rfl,H.out.below lI.out,eF.bo lI.out⟩
  | false =>
   rw [hT] at vu;rw [if_neg (by simp)]
   clear hT;go_enter func102,ntmps102;go_wp2_with fail;refine MG.out.mono ?_
   rintro e w1 ⟨rfl,rfl⟩;go_wp2_with fail;refine vu.out.mono ?_
   rintro e w1 ⟨rfl,hb⟩;have HS:=ab (Bu b g P T n w1 (H.out.below hb) XA.out);have lI:=ab hb;clear hb;go_wp2_with fail;refine HS.out.mono ?_
   rintro e w2 ⟨rfl,h2,o2⟩;have H2:=ab h2;have O2:=ab ((eF.bo lI.out).trans o2);clear h2 o2;go_wp2;go_ret;exact ⟨rfl,H2.out,O2.out⟩
theorem Mh(base:Nat)(A:Nat→Addr)(b g P:Nat)(T:Nat→Bool)(id:Int)(w:World)(h:dj w b g P T)(hE:Env base A w):Calls prog 71 #[.pointer (some ⟨b,0,none⟩),.int .i64 id] w fun e w'=>e = .returned (gC A (tJ P T id).1)∧dj w' b g P (tJ P T id).2∧eF (fun k=>k=g) w w':=by
 have MG:=ab (CS b g P T id w h);have vu:=ab (CM b g P T id w h);have H:=ab h;have HE:=ab hE;unfold tJ;cases ht:kG P id with
 | false =>
  rw [if_neg (by simp)]
  rw [ht] at MG;have c:w.cell? ⟨0,0,none⟩=some (.iface 360 (.pointer (some (A 0)))):=hE.e 0 (by decide)
  clear ht h hE;go_enter func71,ntmps71;go_wp2_with fail;refine MG.out.mono ?_
  rintro e w1 ⟨rfl,rfl⟩;go_wp2;go_ret;exact ⟨rfl,H.out,eF.refl _ _⟩
 | true =>
  rw [if_pos rfl];rw [ht] at MG;rw [wG ht] at vu;have hb:=ht;simp only [kG,bU,decide_eq_true_eq] at hb;obtain ⟨n,rfl⟩ : ∃ n:Nat,id=n:=⟨id.toNat,by omega⟩
  rw [aW] at *;have bK:n<64*nW P:=by have:=xI P;omega
  have XA:=ab bK;clear ht h hb bK hE;cases hT:T n with
  | false =>
   rw [hT] at vu;rw [if_neg (by simp)]
   clear hT;go_enter func71,ntmps71;go_wp2_with fail;refine MG.out.mono ?_
   rintro e w1 ⟨rfl,rfl⟩;go_wp2_with fail;refine vu.out.mono ?_
   rintro e w1 ⟨rfl,hb⟩;have c:w1.cell? ⟨5,0,none⟩=some (.iface 360 (.pointer (some (A 5)))):=(HE.out.up hb).e 5 (by decide)
   have lI:=ab hb;clear hb;go_wp2;go_ret;exact ⟨rfl,H.out.below lI.out,eF.bo lI.out⟩
  | true =>
   rw [hT] at vu;rw [if_pos rfl];clear hT;go_enter func71,ntmps71;go_wp2_with fail;refine MG.out.mono ?_
   rintro e w1 ⟨rfl,rfl⟩;go_wp2_with fail;refine vu.out.mono ?_
   rintro e w1 ⟨rfl,hb⟩;have HS:=ab (J7 b g P T n w1 (H.out.below hb) XA.out);have lI:=ab hb;clear hb;go_wp2_with fail;refine HS.out.mono ?_
   rintro e w2 ⟨rfl,h2,o2⟩;have H2:=ab h2;have O2:=ab ((eF.bo lI.out).trans o2);clear h2 o2;go_wp2;go_ret;exact ⟨rfl,H2.out,O2.out⟩
end Q
end Go.Proofs.YtihmgigfkmofnaaGreatDoor
