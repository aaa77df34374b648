import Derived.Deep.QuietTactic
import Derived.Lib.TrailingZeros
import Derived.Laws.Bits64b
import Derived.Test.YtihmgigfkmofnaaGreatDoorG05
import Derived.Laws.OwnMore
import Derived.Laws.Tables
set_option maxHeartbeats 2000000
set_option maxRecDepth 100000
open Go.Proofs.Tryz
namespace Go.Proofs.YtihmgigfkmofnaaGreatDoor
namespace Q
open Go.RowKit
structure gl(F:Nat→Prop)(w w':World):Prop where
 os:w'.os=w.os
 tape:w'.tape=w.tape
 output:w'.output=w.output
 size:w.heap.size≤w'.heap.size
 block:∀ k,k<w.heap.size→¬ F k→w'.heap[k]?=w.heap[k]?
theorem gl.refl(F:Nat→Prop)(w:World):gl F w w:=⟨rfl,rfl,rfl,aj _,fun _ _ _=>rfl⟩
theorem gl.trans{F:Nat→Prop}{a b c:World}(h:gl F a b)(k:gl F b c):gl F a c :=
 ⟨k.os.trans h.os,k.tape.trans h.tape,k.output.trans h.output,ar h.size k.size,fun i hi hn=>(k.block i (aq hi h.size) hn).trans (h.block i hi hn)⟩
theorem gl.bw{F:Nat→Prop}{w w':World}(h:Below w.heap.size w w'):gl F w w':=⟨h.os,h.tape,h.output,h.size,fun k hk _=>h.block k hk⟩
theorem gl.set{F:Nat→Prop}{g:Nat}(hF:F g)(o:Nat)(w:World)(u:Value):gl F w (w.setCell ⟨g,o,none⟩ u) :=
 ⟨rfl,rfl,rfl,by simp [World.setCell],fun k _ hn=>Below.heap_setCell w ⟨g,o,none⟩ u k (fun e=>hn (by rw [e];exact hF))⟩
theorem gl.cell{F:Nat→Prop}{w w':World}(h:gl F w w'){a:Addr}{v:Value}(hc:w.cell? a=some v)(hn:¬ F a.block):w'.cell? a=some v :=
 (World.cell?_of_block (a:=a) (h.block a.block (World.block_lt_of_cell? w a hc) hn)).trans hc
theorem gl.below{F:Nat→Prop}{w w':World}{base:Nat}(h:gl F w w')(hF:∀ k,F k→base≤k)(hb:base≤w.heap.size):Below base w w' :=
 ⟨h.os,h.tape,h.output,h.size,fun k hk=>h.block k (aq hk hb) (fun hf=>by have:=hF k hf;omega)⟩
theorem eJ{w:World}{base e size n:Nat}{v:Value}{xs:List Value}(h:w.ownsRow base e size v n xs)(k:Nat)(hk:v.ownBlock=some k):base≤k∧k<w.heap.size∧∃ cur,w.heap[k]?=some (.cells cur e (0,0)):=by
 rcases h.2 with ⟨h',_⟩ | ⟨g,cap,cur,h',hb,hg,_⟩
 ·rw [h'] at hk;simp [Value.ownBlock] at hk
 ·rw [h'] at hk;simp only [Value.ownBlock,Option.some.injEq] at hk;subst hk;exact ⟨hb,(Array.getElem?_eq_some_iff.1 hg).1,cur,hg⟩
theorem ff{w w':World}{b e size n:Nat}{v:Value}{xs:List Value}(ho:w.ownsRow b e size v n xs)(hb:∀ g,v.ownBlock=some g→w'.heap[g]?=w.heap[g]?):w'.ownsRow b e size v n xs:=by
 refine ⟨ho.1,?_⟩;rcases ho.2 with h' | ⟨g,cap,cur,h',h1,hg,hr⟩
 ·exact .inl h'
 ·exact .inr ⟨g,cap,cur,h',h1,(hb g (by rw [h'];rfl)).trans hg,hr⟩
theorem zV{F:Nat→Prop}{w w':World}{b e size n:Nat}{v:Value}{xs:List Value}(ho:w.ownsRow b e size v n xs)(h:gl F w w')(hn:∀ g,v.ownBlock=some g→¬ F g):w'.ownsRow b e size v n xs :=
 ff ho fun g hg=>h.block g (eJ ho g hg).2.1 (hn g hg)
theorem Gc{w w':World}{b e size n:Nat}{v:Value}{xs:List Value}(ho:w.ownsRow b e size v n xs)(h:Below w.heap.size w w'):w'.ownsRow b e size v n xs :=
 ff ho fun g hg=>h.block g (eJ ho g hg).2.1
theorem gX{w:World}{base e size n:Nat}{v:Value}{xs:List Value}(h:w.ownsRow base e size v n xs):∃ a c,v = .slice a n c∧(0<n→∃ g,a=some ⟨g,0,none⟩):=by
 rcases h.2 with ⟨h',h0⟩ | ⟨g,cap,cur,h',_⟩
 ·exact ⟨none,0,by rw [h',h0],fun h=>by omega⟩
 ·exact ⟨_,cap,h',fun _=>⟨g,rfl⟩⟩
theorem Kp{w:World}{base UR e size n:Nat}{v:Value}{xs:List Value}(h:w.ownsRow base e size v n xs)(hb:UR≤base):w.ownsRow UR e size v n xs:=by
 refine ⟨h.1,?_⟩;rcases h.2 with h' | ⟨g,cap,cur,h',h1,hr⟩
 ·exact .inl h'
 ·exact .inr ⟨g,cap,cur,h',by omega,hr⟩
def wd:(Nat→Bool)→Nat→Nat
 | _,0=>0
 | f,n+1=>(if f 0 then 1 else 0)+2*wd (fun j=>f (j+1)) n
theorem p8:∀ (n:Nat) (f:Nat→Bool) (j:Nat),(wd f n).testBit j=(decide (j<n) && f j)
 | 0,f,j=>by simp [wd]
 | n+1,f,0=>by
  rw [Nat.testBit_zero,wd];cases h:f 0 <;> simp <;> omega
 | n+1,f,j+1=>by
  have ih:=p8 n (fun j=>f (j+1)) j
  rw [Nat.testBit_succ,wd];have e:((if f 0=true then 1 else 0)+2*wd (fun j=>f (j+1)) n) / 2=wd (fun j=>f (j+1)) n:=by split <;> omega
  rw [e,ih];simp
theorem M0:∀ (n:Nat) (f:Nat→Bool),wd f n<2 ^ n
 | 0,f=>by simp [wd]
 | n+1,f=>by
  have ih:=M0 n (fun j=>f (j+1))
  rw [wd,Nat.pow_succ];split <;> omega
def word(T:Nat→Bool)(i:Nat):Nat:=wd (fun j=>T (64*i+j)) 64
theorem word_lt(T:Nat→Bool)(i:Nat):word T i<18446744073709551616:=M0 64 _
theorem eX(T:Nat→Bool)(i j:Nat):(word T i).testBit j=(decide (j<64) && T (64*i+j)):=p8 64 _ j
def nJ(T:Nat→Bool)(id:Nat)(b:Bool):Nat→Bool:=fun j=>if j=id then b else T j
theorem M3(T:Nat→Bool)(id:Nat)(b:Bool):nJ T id b id=b:=by simp [nJ]
theorem M6(T:Nat→Bool)(id j:Nat)(b:Bool)(h:j≠id):nJ T id b j=T j:=by simp [nJ,h]
theorem Cl(T:Nat→Bool)(id:Nat)(b:Bool)(i:Nat)(h:i≠id / 64):word (nJ T id b) i=word T i:=by
 apply eQ
 intro j;rw [eX,eX];by_cases hj:j<64
 ·rw [M6 _ _ _ _ (by omega)]
 ·simp [hj]
theorem pZ(id:Nat):2 ^ (id % 64)<18446744073709551616:=Nat.pow_lt_pow_right (by decide) (by omega:id % 64<64)
theorem MZ(T:Nat→Bool)(id:Nat):word T (id / 64) ||| 2 ^ (id % 64)=word (nJ T id true) (id / 64):=by
 apply eQ
 intro j;rw [Nat.testBit_or,eX,eX,Nat.testBit_two_pow];by_cases hj:j<64
 ·by_cases he:64*(id / 64)+j=id
  ·rw [he,M3];have:id % 64=j:=by omega
   simp [hj,this]
  ·rw [M6 _ _ _ _ he];have:¬ id % 64=j:=by omega
   simp [hj,this]
 ·have:¬ id % 64=j:=by omega
  simp [hj,this]
theorem EV(x i:Nat):x &&& 2 ^ i=if x.testBit i then 2 ^ i else 0:=by
 apply eQ
 intro j;rw [Nat.testBit_and,Nat.testBit_two_pow];by_cases h:i=j
 ·subst h;cases hx:x.testBit i <;> simp
 ·split <;> simp [h]
theorem JG(T:Nat→Bool)(id:Nat):(word T (id / 64) &&& 2 ^ (id % 64)=0)↔T id=false:=by
 rw [EV,eX];have h1:id % 64<64:=by omega
 have h2:64*(id / 64)+id % 64=id:=by omega
 have hp:0<2 ^ (id % 64):=Nat.two_pow_pos _;rw [h2];cases T id <;> simp [h1]
def tr(f:Nat→Bool):Nat→Nat
 | 0=>0
 | n+1=>tr f n+(if f n then 1 else 0)
theorem Ua(f:Nat→Bool):∀ n,tr f n≤n
 | 0=>aj _
 | n+1=>by have:=Ua f n;rw [tr];split <;> omega
def fr(f:Nat→Bool)(n:Nat):Nat:=n - tr f n
def gv(f:Nat→Bool):Nat→List Nat
 | 0=>[]
 | n+1=>gv f n++(if f n then [] else [n])
theorem Ji(f:Nat→Bool):∀ n,(gv f n).length=fr f n
 | 0=>by simp [gv,fr,tr]
 | n+1=>by
  have h:=Ji f n;have h2:=Ua f n;unfold fr at h ⊢;rw [gv,ae,h,tr];split <;> simp <;> omega
theorem rL{f:Nat→Bool}{m:Nat}:∀ n,(∀ j,m≤j→j<m+n→f j=true)→gv f (m+n)=gv f m
 | 0,_=>rfl
 | n+1,h=>by rw [← dJ,gv,rL n (fun j h1 h2=>h j h1 (by omega)),h (m+n) (by omega) (by omega)];simp
theorem Jh(f:Nat→Bool){m n:Nat}(h:m≤n):∃ r,gv f n=gv f m++r:=by
 obtain ⟨d,rfl⟩ : ∃ d,n=m+d:=⟨n - m,by omega⟩
 clear h;induction d with
 | zero=>exact ⟨[],by simp⟩
 | succ d ih =>
  obtain ⟨r,hr⟩:=ih;exact ⟨r++(if f (m+d) then [] else [m+d]),by rw [← dJ,gv,hr,ax]⟩
theorem BE(f:Nat→Bool):∀ {n j:Nat},j ∈ gv f n↔j<n∧f j=false
 | 0,j=>by simp [gv]
 | n+1,j=>by
  rw [gv,cu,BE f];by_cases hj:j=n
  ·subst hj;cases h:f j <;> simp
  ·cases h:f n <;> simp [hj] <;> omega
def zw(T:Nat→Bool)(i k:Nat):Nat:=wd (fun j=>decide (k≤j) && !T (64*i+j)) 64
theorem T6(T:Nat→Bool)(i k:Nat):zw T i k<18446744073709551616:=M0 64 _
theorem iA(T:Nat→Bool)(i k j:Nat):(zw T i k).testBit j=(decide (j<64) && (decide (k≤j) && !T (64*i+j))):=p8 64 _ j
theorem RI{T:Nat→Bool}{i k:Nat}(h:zw T i k=0):∀ j,k≤j→j<64→T (64*i+j)=true:=by
 intro j h1 h2;have:=iA T i k j;rw [h] at this;simpa [h1,h2] using this
theorem LZ(t m j:Nat):((2 ^ t*(2*m+1)) &&& (2 ^ t*(2*m+1) - 1)).testBit j=((2 ^ t*(2*m+1)).testBit j && !decide (j=t)):=by
 have hp:0<2 ^ t:=Nat.two_pow_pos t;have e:2 ^ t*(2*m+1) - 1=2 ^ t*(2*m)+(2 ^ t - 1):=by
  rw [Nat.mul_add,Nat.mul_one];omega
 rw [Nat.testBit_and,e];by_cases hj:j<t
 ·have h0:(2 ^ t*(2*m+1)).testBit j=false:=by
   rw [ky];simp;omega
  rw [h0];simp
 ·have h1:(2 ^ t*(2*m)+(2 ^ t - 1)).testBit j=(2*m).testBit (j - t):=by
   rw [Nat.testBit_two_pow_mul_add _ (by omega)]
   simp [hj]
  have h2:(2 ^ t*(2*m+1)).testBit j=(2*m+1).testBit (j - t):=by
   rw [ky];simp [show t≤j by omega]
  rw [h1,h2];by_cases he:j=t
  ·subst he;rw [dL,Nat.testBit_zero,Nat.testBit_zero];simp
  ·obtain ⟨d,hd⟩ : ∃ d,j - t=d+1:=⟨j - t - 1,by omega⟩
   rw [hd,Nat.testBit_succ,Nat.testBit_succ,show (2*m+1) / 2=m by omega,show 2*m / 2=m by omega]
   simp [he]
theorem RH{T:Nat→Bool}{i k:Nat}(h:zw T i k≠0):∃ t,Lib.ctz 64 (zw T i k)=t∧k≤t∧t<64∧T (64*i+t)=false∧(∀ j,k≤j→j<t→T (64*i+j)=true)∧zw T i k &&& (zw T i k - 1)=zw T i (t+1):=by
 obtain ⟨m,hm,hk⟩:=Lib.ctzFrom_spec 64 (zw T i k) (by omega) (T6 T i k)
 have e:Lib.ctz 64 (zw T i k)=Lib.ctzFrom 64 (zw T i k):=by simp [Lib.ctz,h]
 generalize ht:Lib.ctzFrom 64 (zw T i k)=t at hm hk;rw [ht] at e;have hb:∀ j,(zw T i k).testBit j=(2 ^ t*(2*m+1)).testBit j:=fun j=>by rw [← hm]
 have h1:(zw T i k).testBit t=true:=by
  rw [hb,ky];simp [Nat.testBit_zero]
 have h2:∀ j,j<t→(zw T i k).testBit j=false:=fun j hj=>by
  rw [hb,ky];simp;omega
 rw [iA] at h1;simp only [hk,decide_true,Bool.true_and,cz,decide_eq_true_eq,Bool.not_eq_true'] at h1;refine ⟨t,e,h1.1,hk,h1.2,fun j a b=>?_,?_⟩
 ·have:=h2 j b;rw [iA] at this;simpa [show j<64 by omega,a] using this
 ·apply eQ
  intro j;have hc:=LZ t m j;rw [← hm] at hc;rw [hc,iA,iA];by_cases hj:j<64
  ·by_cases h3:j<t
   ·have h4:=h2 j h3;rw [iA] at h4;rw [h4];simp [show ¬ t+1≤j by omega]
   ·by_cases h4:j=t
    ·subst h4;simp;intro _ h;omega
    ·simp [hj,h4,show k≤j by omega,show t+1≤j by omega]
  ·simp [hj]
def nW(P:Nat):Nat:=(P+63) / 64
def kh(T:Nat→Bool)(n:Nat):List Value:=(List.range n).map fun i=>.int .u64 (word T i:Int)
theorem gr(T:Nat→Bool)(n:Nat):(kh T n).length=n:=by simp [kh]
theorem iz(T:Nat→Bool)(n i:Nat)(h:i<n):(kh T n)[i]?=some (.int .u64 (word T i:Int)):=by simp [kh,h]
theorem FB(T:Nat→Bool)(n id:Nat)(x:Bool):(kh T n).set (id / 64) (.int .u64 (word (nJ T id x) (id / 64):Int))=kh (nJ T id x) n:=by
 apply pV
 intro i;by_cases hi:i<n
 ·by_cases he:i=id / 64
  ·subst he;rw [List.getElem?_set_self (by rw [gr];exact hi),iz _ _ _ hi]
  ·rw [List.getElem?_set_ne (fun h=>he h.symm),iz _ _ _ hi,iz _ _ _ hi,Cl _ _ _ _ he]
 ·rw [bD (by rw [cx,gr];omega),bD (by rw [gr];omega)]
structure eT(w:World)(b g P:Nat)(T:Nat→Bool):Prop where
 dr:w.heap[b]?=some (.cells #[.int .i64 P,.slice (some ⟨g,0,none⟩) (nW P) (nW P)] 131 (0,0))
 QZ:w.ownsRow 0 40 1 (.slice (some ⟨g,0,none⟩) (nW P) (nW P)) (nW P) (kh T (nW P))
 hi:P≤1048576
theorem lt_of_heap{w:World}{b:Nat}{o:Obj}(h:w.heap[b]?=some o):b<w.heap.size:=(Array.getElem?_eq_some_iff.1 h).1
theorem eT.Q3{w:World}{b g P:Nat}{T:Nat→Bool}(h:eT w b g P T):b<w.heap.size:=lt_of_heap h.dr
theorem eT.Q2{w:World}{b g P:Nat}{T:Nat→Bool}(h:eT w b g P T):g<w.heap.size:=(eJ h.QZ g rfl).2.1
theorem eT.ne{w:World}{b g P:Nat}{T:Nat→Bool}(h:eT w b g P T):b≠g:=fun e=>by
 obtain ⟨cur,hc⟩:=(eJ h.QZ g rfl).2.2;have:=h.dr;rw [e,hc] at this;simp at this
theorem eT.c0{w:World}{b g P:Nat}{T:Nat→Bool}(h:eT w b g P T):w.cell? ⟨b,0,none⟩=some (.int .i64 P):=cell_of_row w b 0 _ _ _ h.dr
theorem eT.c1{w:World}{b g P:Nat}{T:Nat→Bool}(h:eT w b g P T):w.cell? ⟨b,1,none⟩=some (.slice (some ⟨g,0,none⟩) (nW P) (nW P)):=cell_of_row w b 1 _ _ _ h.dr
theorem eT.cw{w:World}{b g P:Nat}{T:Nat→Bool}(h:eT w b g P T)(i:Nat)(hi:i<nW P):w.cell? ⟨g,i,none⟩=some (.int .u64 (word T i:Int)):=by
 rw [h.QZ.cellAt i (by omega)];exact iz _ _ _ hi
theorem eT.only{F:Nat→Prop}{w w':World}{b g P:Nat}{T:Nat→Bool}(h:eT w b g P T)(ho:gl F w w')(hb:¬ F b)(hg:¬ F g):eT w' b g P T :=
 ⟨(ho.block b h.Q3 hb).trans h.dr,zV h.QZ ho (fun k hk=>by cases hk;exact hg),h.hi⟩
theorem eT.below{w w':World}{b g P:Nat}{T:Nat→Bool}(h:eT w b g P T)(hb:Below w.heap.size w w'):eT w' b g P T :=
 h.only (gl.bw (F:=fun _=>False) hb) id id
theorem eT.stored{w:World}{b g P:Nat}{T:Nat→Bool}(h:eT w b g P T)(id:Nat)(x:Bool):eT (w.setCell ⟨g,id / 64,none⟩ (.int .u64 (word (nJ T id x) (id / 64):Int))) b g P (nJ T id x) :=
 ⟨(Below.heap_setCell w ⟨g,id / 64,none⟩ _ b h.ne).trans h.dr,by have:=(h.QZ.stored (id / 64) (.int .u64 (word (nJ T id x) (id / 64):Int))).1;rw [FB] at this;exact this,h.hi⟩
theorem IV{P:Nat}(h:P≤1048576):nW P≤16384:=by unfold nW;omega
theorem Dm(P:Nat):P≤64*nW P:=by unfold nW;omega
theorem MY(id:Nat):IntKind.u64.wrap (2 ^ (id % 64))=((2 ^ (id % 64):Nat):Int):=by
 have h:=pZ id;rw [IntKind.wrap_u64,show (2:Int) ^ (id % 64)=((2 ^ (id % 64):Nat):Int) by simp]
 generalize 2 ^ (id % 64)=p at *;omega
theorem AI(id:Nat)(hx:id<1125899906842624)(w:World):Calls prog 148 #[.int .i64 id] w fun e w'=>e = .returned (.tuple #[.int .i64 (id / 64:Nat),.int .u64 (2 ^ (id % 64):Nat)])∧Below w.heap.size w w':=by
 have hp:=MY id;go_enter func148,ntmps148;go_wp2_with fail;go_quiet (fail)
 have hb:Below w.heap.size w (w.drewN nq):=⟨rfl,rfl,rfl,aj _,fun _ _=>rfl⟩
 go_wp2_with fail;go_ret2;refine ⟨?_,hb⟩;rw [hp];simp
def tJ(w:World):Prop:=∀ j,j<64→w.cell? ⟨13,j,none⟩=some (.int .u8 (Lib.deBruijn64tab.getD j 0))
theorem Nb(x a:Nat)(hx:x<18446744073709551616)(Q4:x≠0)(Bt:x &&& (18446744073709551616 - x)=a):IntKind.u64.wrap (bits BinOp.and IntKind.u64 (x:Int) (IntKind.u64.wrap (-(x:Int)))*285870213051353865) / 288230376151711744=((a*285870213051353865 % 18446744073709551616 / 288230376151711744:Nat):Int):=by
 have e1:IntKind.u64.wrap (-(x:Int))=((18446744073709551616 - x:Nat):Int):=by rw [IntKind.wrap_u64];omega
 rw [e1,bits_and_u64_nat x _ hx (by omega),Bt,IntKind.wrap_u64]
 omega
theorem RL(x k idx:Nat)(w:World)(Q4:((x:Int) == 0)=false)(key:IntKind.u64.wrap (bits BinOp.and IntKind.u64 (x:Int) (IntKind.u64.wrap (-(x:Int)))*285870213051353865) / 288230376151711744=(idx:Int))(hi:idx<64)(hk:k<64)(bh:w.cell? ⟨13,idx,none⟩=some (.int .u8 k)):Calls prog 147 #[.int .u64 x] w fun e w'=>e = .returned (.int .i64 k)∧w=w':=by
 go_enter func147,ntmps147;go_wp2_with (simp only [key])
 go_ret;exact ⟨rfl,rfl⟩
theorem Vj(x:Nat)(hx:x<18446744073709551616)(Q4:x≠0)(w:World)(hT:tJ w):Calls prog 147 #[.int .u64 x] w fun e w'=>e = .returned (.int .i64 (Lib.ctz 64 x))∧w=w':=by
 obtain ⟨Bt,hk⟩:=Lib.lowest_bit 64 x Q4 hx;obtain ⟨hi,SI⟩:=Lib.deBruijn64_at _ hk;have bh:=hT _ hi;rw [SI] at bh;exact RL x _ _ w (by simp;omega) (Nb x _ hx Q4 Bt) hi hk bh
theorem tJ.below{w w':World}(h:tJ w)(hb:Below w.heap.size w w'):tJ w':=fun j hj=>(hb.cell (p:=⟨13,j,none⟩) (World.block_lt_of_cell? w _ (h j hj))).trans (h j hj)
structure Env(base:Nat)(A:Nat→Addr)(w:World):Prop where
 errs:dA 13 eR A w
 tab:tJ w
 lo:∀ i,i<13→eR i<base∧(A i).block<base
 lt:13<base
 size:base≤w.heap.size
theorem Env.keep{base:Nat}{A:Nat→Addr}{w w':World}(h:Env base A w)(hb:Below base w w'):Env base A w':=by
 refine ⟨⟨fun i hi=>?_,h.errs.2⟩,fun j hj=>?_,h.lo,h.lt,ar h.size hb.size⟩
 ·obtain ⟨h1,c,t,h2⟩:=h.errs.1 i hi;obtain ⟨l1,l2⟩:=h.lo i hi;exact ⟨(World.cell?_of_block (a:=⟨eR i,0,none⟩) (hb.block _ l1)).trans h1,c,t,(hb.block _ l2).trans h2⟩
 ·exact (World.cell?_of_block (a:=⟨13,j,none⟩) (hb.block _ h.lt)).trans (h.tab j hj)
theorem Env.up{base:Nat}{A:Nat→Addr}{w w':World}(h:Env base A w)(hb:Below w.heap.size w w'):Env base A w':=h.keep (hb.mono h.size)
theorem Env.e{base:Nat}{A:Nat→Addr}{w:World}(h:Env base A w)(i:Nat)(hi:i<13):w.cell? ⟨eR i,0,none⟩=some (.iface 360 (.pointer (some (A i)))):=(h.errs.1 i hi).1
def nT(P:Nat)(id:Int):Bool:=decide (2≤id) && decide (id<P)
theorem Nj(b g P:Nat)(T:Nat→Bool)(id:Int)(w:World)(h:eT w b g P T):Calls prog 109 #[.pointer (some ⟨b,0,none⟩),.int .i64 id] w fun e w'=>e = .returned (.bool (nT P id))∧w=w':=by
 have c0:=h.c0;clear h;by_cases h2:2≤id
 ·by_cases h3:id<P
  ·go_enter func109,ntmps109;go_wp2;go_ret;exact ⟨by simp [nT,h2,h3],rfl⟩
  ·go_enter func109,ntmps109;go_wp2;go_ret;exact ⟨by simp [nT,h3],rfl⟩
 ·go_enter func109,ntmps109;go_wp2;go_ret;exact ⟨by simp [nT];omega,rfl⟩
theorem A5(b g P:Nat)(T:Nat→Bool)(id:Nat)(w:World)(h:eT w b g P T)(hid:id<64*nW P):Calls prog 108 #[.pointer (some ⟨b,0,none⟩),.int .i64 id] w fun e w'=>e = .returned (.tuple #[])∧eT w' b g P (nJ T id true)∧gl (fun k=>k=g) w w':=by
 have hn:=IV h.hi;have HB:=ab (AI id (by omega) w)
 have H:=ab h;clear h;go_enter func108,ntmps108;go_wp2_with fail;refine HB.out.mono ?_
 rintro e w1 ⟨rfl,hb⟩;have h1:=H.out.below hb;have c1:=h1.c1;have hq:id / 64<nW P:=by omega
 have cw:=h1.cw (id / 64) hq;have cf:=h1.QZ.frozenAt (id / 64);have Y3:bits .or .u64 ((word T (id / 64):Nat):Int) ((2 ^ (id % 64):Nat):Int)=((word (nJ T id true) (id / 64):Nat):Int):=by
  rw [bits_or_u64_nat _ _ (word_lt _ _) (pZ id),MZ]
 have fj:Hid (eT (w1.setCell ⟨g,id / 64,none⟩ (.int .u64 (word (nJ T id true) (id / 64):Int))) b g P (nJ T id true)∧gl (fun k=>k=g) w (w1.setCell ⟨g,id / 64,none⟩ (.int .u64 (word (nJ T id true) (id / 64):Int)))) :=
  ⟨h1.stored id true,(gl.bw hb).trans (gl.set (F:=fun k=>k=g) rfl _ _ _)⟩
 generalize word (nJ T id true) (id / 64)=x' at *;generalize word T (id / 64)=x at *;generalize 2 ^ (id % 64)=p at *;generalize id / 64=q at *;generalize nW P=n at *;clear h1 hb H HB;go_wp2;go_end0
 exact ⟨rfl,fj.out⟩
def kC(T:Nat→Bool)(l:List Nat):Nat→Bool:=fun j=>T j || l.contains j
theorem M8(T:Nat→Bool):kC T []=T:=by funext j;simp [kC]
theorem JN(T:Nat→Bool)(l:List Nat)(id:Nat):nJ (kC T l) id true=kC T (l++[id]):=by
 funext j
 unfold nJ kC;by_cases h:j=id
 ·simp [h]
 ·simp [h]
def Cq(T:Nat→Bool)(a b:Nat):Nat→Bool:=fun j=>T j || (decide (a≤j) && decide (j<b))
theorem M7(T:Nat→Bool)(a:Nat):Cq T a a=T:=by
 funext j
 have:¬ (a≤j∧j<a):=by omega
 simp [Cq];intro h1;omega
theorem JM(T:Nat→Bool)(a b:Nat)(h:a≤b):nJ (Cq T a b) b true=Cq T a (b+1):=by
 funext j
 unfold nJ Cq;by_cases hj:j=b
 ·subst hj;simp [h]
 ·by_cases h2:j<b
  ·simp [hj,h2,show j<b+1 by omega]
  ·simp [hj,h2,show ¬ j<b+1 by omega]
theorem we(b g P:Nat)(T:Nat→Bool)(lo hi:Nat)(w:World)(h:eT w b g P T)(hle:lo≤hi)(hid:hi≤64*nW P):Calls prog 78 #[.pointer (some ⟨b,0,none⟩),.int .i64 lo,.int .i64 hi] w fun e w'=>e = .returned (.tuple #[])∧eT w' b g P (Cq T lo hi)∧gl (fun k=>k=g) w w':=by
 have hn:=IV h.hi;have H:=ab h;clear h;go_enter func78,ntmps78;go_wp2_with fail;go_loopw [6] (fun i wr=>∃ k:Nat,lo≤k∧k≤hi∧i = .int .i64 k∧eT wr b g P (Cq T lo k)∧gl (fun k=>k=g) w wr) (fun i _=>hi - (intOf i).toNat)
 case atStart=>exact ⟨lo,aj _,hle,rfl,by rw [M7];exact H.out,gl.refl _ _⟩
 case round =>
  obtain ⟨k,jv,qM,rfl,hm,ho⟩:=hrel;by_cases bN:k<hi
  ·have HS:=ab (A5 b g P _ k wr hm (by omega))
   have HO:=ab ho;have Rj:k<2000000:=by omega
   clear hm ho hid hle;generalize nW P=nn at *;go_wp2_with fail;refine HS.out.mono ?_
   rintro e w1 ⟨rfl,h1,o1⟩;rw [JM _ _ _ jv] at h1;have H1:=ab h1;have O1:=ab (HO.out.trans o1);clear h1 o1 HS HO;go_wp2;go_roundw
   case rel=>exact ⟨k+1,by omega,by omega,by go_num,H1.out,O1.out⟩
   case measure=>simp [intOf];omega
  ·have he:k=hi:=by omega
   have H1:=ab hm;have O1:=ab ho;clear hm ho;go_wp2;go_end0
   rw [← he];exact ⟨rfl,H1.out,O1.out⟩
structure pU(P:Nat)(T:Nat→Bool):Prop where
 lo:4≤P
 hi:P≤1048576
 t0:T 0=true
 t1:T 1=true
 up:∀ j,P≤j→T j=true
def nk(P:Nat)(T:Nat→Bool)(id:Int):Bool:=decide (0≤id) && (decide (id<P) && T id.toNat)
theorem M1(b g P:Nat)(T:Nat→Bool)(id:Int)(w:World)(h:eT w b g P T):Calls prog 110 #[.pointer (some ⟨b,0,none⟩),.int .i64 id] w fun e w'=>e = .returned (.bool (nk P T id))∧Below w.heap.size w w':=by
 have c0:=h.c0;have H:=ab h;clear h;by_cases h2:0≤id
 ·by_cases h3:id<P
  ·obtain ⟨n,rfl⟩ : ∃ n:Nat,id=n:=⟨id.toNat,by omega⟩
   have hP:=H.out.hi;have hnW:=Dm P;have HB:=ab (AI n (by omega) w)
   have hn:n<P:=by omega
   have hq:n / 64<nW P:=by omega
   have hu:=JG T n;have HUB:Hid (nk P T n=T n):=by show nk P T n=T n;simp [nk];omega
   rw [HUB.out];clear hnW;go_enter func110,ntmps110;go_wp2_with fail;refine HB.out.mono ?_
   rintro e w1 ⟨rfl,hb⟩;have h1:=H.out.below hb;have c1:=h1.c1;have cw:=h1.cw (n / 64) hq;have hand:bits .and .u64 ((word T (n / 64):Nat):Int) ((2 ^ (n % 64):Nat):Int)=((word T (n / 64) &&& 2 ^ (n % 64):Nat):Int):=bits_and_u64_nat _ _ (word_lt _ _) (pZ n);generalize hR:word T (n / 64) &&& 2 ^ (n % 64)=r at *;generalize word T (n / 64)=x at *;generalize 2 ^ (n % 64)=p at *;generalize n / 64=q at *;generalize nW P=nn at *;have mJ:=ab hb;have HU:=ab hu;clear h1 hb H HB hR hu;cases hT:T n with
   | true =>
    have hr:((r:Int) != 0)=true:=by
     have:¬ r=0:=fun h=>by have:=HU.out.1 h;rw [hT] at this;cases this
     simp;omega
    have HT:=ab hT;clear hT;go_wp2;go_ret;exact ⟨by rw [HT.out];rfl,mJ.out⟩
   | false =>
    have hr:r=0:=HU.out.2 hT;subst hr;have HT:=ab hT;clear hT;go_wp2;go_ret;exact ⟨by rw [HT.out];rfl,mJ.out⟩
  ·have HUB:Hid (nk P T id=false):=by show nk P T id=false;simp [nk];omega
   rw [HUB.out];go_enter func110,ntmps110;go_wp2;go_ret;exact ⟨rfl,Below.refl _ _⟩
 ·have HUB:Hid (nk P T id=false):=by show nk P T id=false;simp [nk];omega
  rw [HUB.out];go_enter func110,ntmps110;go_wp2;go_ret;exact ⟨rfl,Below.refl _ _⟩
theorem FF{P:Nat}{T:Nat→Bool}{id:Int}(h:nT P id=true):nk P T id=T id.toNat:=by
 simp only [nT,cz,decide_eq_true_eq] at h;simp [nk,show (0:Int)≤id by omega,h.2]
def Ds(P:Nat)(T:Nat→Bool)(id:Int):Option Nat × (Nat→Bool):=if nT P id then (if T id.toNat then (some 4,T) else (none,nJ T id.toNat true)) else (some 0,T)
theorem Oo(base:Nat)(A:Nat→Addr)(b g P:Nat)(T:Nat→Bool)(id:Int)(w:World)(h:eT w b g P T)(hE:Env base A w):Calls prog 102 #[.pointer (some ⟨b,0,none⟩),.int .i64 id] w fun e w'=>e = .returned (ig A (Ds P T id).1)∧eT w' b g P (Ds P T id).2∧gl (fun k=>k=g) w w':=by
 have WB:=ab (Nj b g P T id w h);have BV:=ab (M1 b g P T id w h);have H:=ab h;have HE:=ab hE;unfold Ds;cases ht:nT P id with
 | false =>
  rw [if_neg (by simp)]
  rw [ht] at WB;have c:w.cell? ⟨0,0,none⟩=some (.iface 360 (.pointer (some (A 0)))):=hE.e 0 (by decide)
  clear ht h hE;go_enter func102,ntmps102;go_wp2_with fail;refine WB.out.mono ?_
  rintro e w1 ⟨rfl,rfl⟩;go_wp2;go_ret;exact ⟨rfl,H.out,gl.refl _ _⟩
 | true =>
  rw [if_pos rfl];rw [ht] at WB;rw [FF ht] at BV;have hb:=ht;simp only [nT,cz,decide_eq_true_eq] at hb;obtain ⟨n,rfl⟩ : ∃ n:Nat,id=n:=⟨id.toNat,by omega⟩
  rw [bm] at *;have bN:n<64*nW P:=by have:=Dm P;omega
  have HLT:=ab bN;clear ht h hb bN hE;cases hT:T n with
  | true =>
   rw [hT] at BV;rw [if_pos rfl];clear hT;go_enter func102,ntmps102;go_wp2_with fail;refine WB.out.mono ?_
   rintro e w1 ⟨rfl,rfl⟩;go_wp2_with fail;refine BV.out.mono ?_
   rintro e w1 ⟨rfl,hb⟩;have c:w1.cell? ⟨4,0,none⟩=some (.iface 360 (.pointer (some (A 4)))):=(HE.out.up hb).e 4 (by decide)
   have mJ:=ab hb;clear hb;go_wp2;go_ret;exact ⟨rfl,H.out.below mJ.out,gl.bw mJ.out⟩
  | false =>
   rw [hT] at BV;rw [if_neg (by simp)]
   clear hT;go_enter func102,ntmps102;go_wp2_with fail;refine WB.out.mono ?_
   rintro e w1 ⟨rfl,rfl⟩;go_wp2_with fail;refine BV.out.mono ?_
   rintro e w1 ⟨rfl,hb⟩;have HS:=ab (A5 b g P T n w1 (H.out.below hb) HLT.out);have mJ:=ab hb;clear hb;go_wp2_with fail;refine HS.out.mono ?_
   rintro e w2 ⟨rfl,h2,o2⟩;have H2:=ab h2;have O2:=ab ((gl.bw mJ.out).trans o2);clear h2 o2;go_wp2;go_ret;exact ⟨rfl,H2.out,O2.out⟩
theorem aai{P:Nat}{T:Nat→Bool}(h:∀ j,P≤j→T j=true)(n:Nat)(hn:P≤n):gv T n=gv T P:=by
 obtain ⟨d,rfl⟩ : ∃ d,n=P+d:=⟨n - P,by omega⟩
 exact rL d (fun j h1 _=>h j h1)
def kE(l:List Nat):List Value:=l.map fun (n:Nat)=>Value.int .i64 (n:Int)
theorem tR(a b:List Nat):kE (a++b)=kE a++kE b:=by simp [kE]
theorem Of(l:List Nat)(j:Nat)(h:j<l.length):(kE l)[j]?=some (.int .i64 (l[j] : Int)):=by simp [kE,h]
theorem PS(T:Nat→Bool)(n:Nat):(gv T n).length≤n:=by rw [Ji];unfold fr;omega
theorem X4(T:Nat→Bool)(i:Nat):bits .xor .u64 IntKind.u64.max ((word T i:Nat):Int)=((zw T i 0:Nat):Int):=by
 have h:=bits_xor_u64_nat 18446744073709551615 (word T i) (by decide) (word_lt T i)
 rw [show IntKind.u64.max=((18446744073709551615:Nat):Int) by decide,h]
 refine congrArg (fun x:Nat=>(x:Int)) ?_
 apply eQ
 intro j;rw [Nat.testBit_xor,show 18446744073709551615=2 ^ 64 - 1 by decide,Nat.testBit_two_pow_sub_one,eX,iA]
 by_cases hj:j<64 <;> simp [hj]
def fh(T:Nat→Bool)(P N:Nat):List Nat:=(gv T P).take N
theorem Td{T:Nat→Bool}{m t:Nat}(h1:∀ j,m≤j→j<m+t→T j=true)(h2:T (m+t)=false):gv T (m+t+1)=gv T m++[m+t]:=by
 rw [gv,rL t h1,h2];rfl
theorem Sq(b g P:Nat)(T:Nat→Bool)(N:Nat)(w:World)(h:eT w b g P T)(hk:pU P T)(SI:tJ w):Calls prog 107 #[.pointer (some ⟨b,0,none⟩),.int .i64 N] w fun e w'=>∃ v,e = .returned v∧w'.ownsRow w.heap.size 3 1 v (fh T P N).length (kE (fh T P N))∧Below w.heap.size w w':=by
 obtain ⟨i0,hi,nK,mG,o7⟩:=info_parts info3;have hn:=IV h.hi;have HF:Hid (gv T (64*nW P)=gv T P):=aai hk.up _ (Dm P);have H:=ab h;have Cf:=ab SI;clear h hk SI;obtain ⟨n,hN⟩ : ∃ n,n=nW P:=⟨_,rfl⟩;rw [← hN] at hn HF;have HN:=ab hN;have c1:Hid (∀ wr,Below w.heap.size w wr→wr.cell? ⟨b,1,none⟩=some (.slice (some ⟨g,0,none⟩) n n)):=fun wr hb=>by
  have:=(H.out.below hb).c1;rw [← HN.out] at this;exact this
 have cw:Hid (∀ wr,Below w.heap.size w wr→∀ k,k<n→wr.cell? ⟨g,k,none⟩=some (.int .u64 (word T k:Int))):=fun wr hb k hk=>(H.out.below hb).cw k (by rw [← HN.out];exact hk)
 clear hN H;go_enter func107,ntmps107;go_wp2_with fail;go_loopw [5,6] (fun v i wr=>∃ k m:Nat,k≤n∧m≤64*k∧i = .int .i64 k∧(m=64*k∨(gv T m).length=N)∧(gv T m).length≤N∧wr.ownsRow w.heap.size 3 1 v (gv T m).length (kE (gv T m))∧Below w.heap.size w wr) (fun _ i _=>n - (intOf i).toNat)
 case atStart=>exact ⟨0,0,aD _,aj _,rfl,.inl rfl,aD _,World.ownsRow_nil _ _ _ _,Below.refl _ _⟩
 case round =>
  obtain ⟨k,m,hk,hm,rfl,Y3,hle,aE,bO⟩:=hrel;have cc:=c1.out wr bO;obtain ⟨a,c,rfl,-⟩:=gX aE;by_cases bN:k<n
  ·have cwk:=cw.out wr bO k bN;have hkI:(k:Int)<(n:Int):=by omega
   by_cases I8:(gv T m).length<N
   ·have hme:m=64*k:=by omega
    obtain ⟨z0,hz⟩ : ∃ z0,z0=zw T k 0:=⟨_,rfl⟩;have hx:=X4 T k;rw [← hz] at hx;have Zt:((gv T m).length:Int)<(N:Int):=by omega
    have qO:=ab aE;have jQ:=ab bO;have HME:=ab hme;have HZ:=ab hz;clear aE bO Y3 hme hz;generalize hL:(gv T m).length=L at *;have HL:=ab hL;clear hL hm;generalize word T k=x at *;generalize wr=W1 at *;go_wp2_with fail;clear Zt I8 hx cc cwk;go_loopw [5,7] (fun v z wr=>∃ q zz:Nat,q≤64∧Hid (zz=zw T k q)∧z = .int .u64 (zz:Int)∧Hid ((gv T (64*k+q)).length≤N)∧wr.ownsRow w.heap.size 3 1 v (gv T (64*k+q)).length (kE (gv T (64*k+q)))∧Below w.heap.size w wr) (fun _ z _=>(intOf z).toNat)
    case atStart =>
     refine ⟨0,z0,aD _,HZ.out,rfl,?_,?_,jQ.out⟩
     ·show _≤_
      rw [Nat.add_zero,← HME.out,HL.out];exact hle
     ·rw [Nat.add_zero,← HME.out,HL.out];exact qO.out
    case round =>
     clear qO jQ HME HL HZ;obtain ⟨q,zz,hq,HZ,rfl,qI,aE,bO⟩:=hrel;obtain ⟨a2,c2,rfl,-⟩:=gX aE;have GP:(gv T (64*k+q)).length≤64*k+q:=PS _ _;by_cases hz:zz=0
     ·have Ps:gv T (64*(k+1))=gv T (64*k+q):=by
       have h0:=HZ.out;rw [hz] at h0;have:=RI h0.symm;rw [show 64*(k+1)=64*k+q+(64 - q) by omega]
       exact rL _ (fun j h1 h2=>by have:=this (j - 64*k) (by omega) (by omega);rw [show 64*k+(j - 64*k)=j by omega] at this;exact this)
      subst hz;have mB:=ab Ps;have qO:=ab aE;have jQ:=ab bO;clear aE bO Ps GP;generalize hL:(gv T (64*k+q)).length=L2 at *;have HL:=ab hL;clear hL;go_wp2;go_roundw
      case rel =>
       refine ⟨k+1,64*(k+1),by omega,by omega,by go_num,.inl rfl,?_,?_,jQ.out⟩
       ·rw [mB.out,HL.out];exact qI.out
       ·rw [mB.out,HL.out];exact qO.out
      case measure=>simp [intOf];omega
     ·by_cases I8:(gv T (64*k+q)).length<N
      ·have VG:=hz;rw [HZ.out] at VG;obtain ⟨t,h1,h2,h3,h4,h5,h6⟩:=RH VG;have Yu:zz<18446744073709551616:=by have:=T6 T k q;have:=HZ.out;omega
       have HT:=ab (Vj zz Yu hz wr (Cf.out.below bO));have Xz:Lib.ctz 64 zz=t:=by rw [HZ.out];exact h1
       rw [Xz] at HT;have hzI:((zz:Int) != 0)=true:=by simp;omega
       have Zt:((gv T (64*k+q)).length:Int)<(N:Int):=by omega
       obtain ⟨z2,SB⟩ : ∃ z2,z2=zw T k (t+1):=⟨_,rfl⟩;have hand:bits .and .u64 (zz:Int) ((zz:Int) - 1)=(z2:Int):=by
        rw [show (zz:Int) - 1=((zz - 1:Nat):Int) by omega,bits_and_u64_nat _ _ Yu (by omega),SB,← h6,HZ.out]
       have afn:z2<zz:=by
        have hle:z2≤zz - 1:=by rw [SB,← h6,← HZ.out];exact Nat.and_le_right
        omega
       have pI:Hid (gv T (64*k+(t+1))=gv T (64*k+q)++[64*k+t]):=by
        show _=_
        have:=Td (T:=T) (m:=64*k+q) (t:=t - q) (fun j a b=>by have:=h5 (j - 64*k) (by omega) (by omega);rw [show 64*k+(j - 64*k)=j by omega] at this;exact this) (by rw [show 64*k+q+(t - q)=64*k+t by omega];exact h4)
        rw [show 64*k+q+(t - q)=64*k+t by omega] at this
        exact this
       have HZ2:=ab SB;obtain ⟨p,hp⟩ : ∃ p,p=64*k+t:=⟨_,rfl⟩;have GK:IntKind.i64.wrap ((k:Int)*64+(t:Int))=(p:Int):=by rw [IntKind.wrap_i64];omega
       have Fh:p<2000000:=by omega
       rw [← hp] at pI;have jQ:=ab bO;clear Xz h1 h4 h5 h6 VG bO SB hz;generalize hL:(gv T (64*k+q)).length=L2 at *;have HL:=ab hL;have GZ:L2≤1048640:=by omega
       have ahN:t<64:=h3;have qO:=ab aE;clear hL GP h2 h3 hp aE;go_wp2_with fail;refine HT.out.mono ?_
       rintro e w1 ⟨rfl,rfl⟩;clear HT;go_wp2_with (first
        | (at_builtin;refine wpList_append_lies _ rfl _ _ 69 rfl w.heap.size 3 i0 (.int .i64 0) 1 8 underlying69 hi nK mG o7 rfl (by decide) _ _ _ rfl (qO.out.alloc _) ⟨wr.heap.size,0,none⟩ 1 1 [.int .i64 (p:Int)] rfl rfl ?c1 ?c2 ?c3 ?c4 ?c5 ?c6 (wr.heap.size+1) ?c7 ?_))
       case c1 =>
        intro j u hj;match j,hj with
        | 0,hj=>simp at hj;subst hj;simp [Addr.add]
       case c2=>intro u hu;simp at hu;subst hu;rfl
       case c3=>decide
       case c4=>unfold maxLen;omega
       case c5=>omega
       case c6=>have:=jQ.out.size;simp;omega
       case c7=>simp
       intro g' cap w1 gi D9 rG hlg;have bP:Hid (Below w.heap.size w w1):=(jQ.out.alloc (by have:=jQ.out.size;omega) _).grown D9 (by have:=jQ.out.size;simp;omega) (fun j hj=>(qO.out.lt j hj).1)
       have jP:Hid (w1.ownsRow w.heap.size 3 1 (.slice (some ⟨g',0,none⟩) (L2+1) cap) (L2+1) (kE (gv T (64*k+(t+1))))):=by
        show World.ownsRow _ _ _ _ _ _ _
        rw [pI.out,tR];exact gi
       have yq:Hid ((gv T (64*k+(t+1))).length=L2+1):=by
        show _=_
        rw [pI.out,ae,HL.out];rfl
       clear gi D9 rG hlg qO jQ GK;go_wp2;go_roundw
       case rel=>exact ⟨t+1,z2,by omega,HZ2,rfl,by show _≤_;rw [yq.out];omega,by rw [yq.out];exact jP.out,bP.out⟩
       case measure=>simp [intOf];omega
      ·have Zt:¬ ((gv T (64*k+q)).length:Int)<(N:Int):=by omega
       have hzI:((zz:Int) != 0)=true:=by simp;omega
       have acX:=qI.out;have heq:(gv T (64*k+q)).length=N:=by omega
       have HEQ:=ab heq;have qO:=ab aE;have jQ:=ab bO;clear aE bO heq acX GP;generalize hL:(gv T (64*k+q)).length=L2 at *;have HL:=ab hL;clear hL;go_wp2;go_roundw
       case rel =>
        refine ⟨k+1,64*k+q,by omega,by omega,by go_num,.inr ?_,?_,?_,jQ.out⟩
        ·rw [HL.out];exact HEQ.out
        ·rw [HL.out];exact qI.out
        ·rw [HL.out];exact qO.out
       case measure=>simp [intOf];omega
   ·have heq:(gv T m).length=N:=by omega
    have Zt:¬ ((gv T m).length:Int)<(N:Int):=by omega
    have b8:Hid (fh T P N=gv T m):=by
     show (gv T P).take N=_
     rw [← HF.out];obtain ⟨r,hr⟩:=Jh T (show m≤64*n by omega)
     rw [hr,← heq,ee]
    have qO:=ab aE;have jQ:=ab bO;clear aE bO heq Y3;generalize hL:(gv T m).length=L at *;have HL:=ab hL;clear hL;go_wp2;go_ret;exact ⟨_,rfl,by rw [b8.out,HL.out];exact qO.out,jQ.out⟩
  ·have nM:k=n:=by omega
   have hkI:¬ (k:Int)<(n:Int):=by omega
   have b8:Hid (fh T P N=gv T m):=by
    show (gv T P).take N=_
    rw [← HF.out];rcases Y3 with h | h
    ·rw [← nM,← h,al hle]
    ·obtain ⟨r,hr⟩:=Jh T (show m≤64*n by omega)
     rw [hr,← h,ee]
   have qO:=ab aE;have jQ:=ab bO;clear aE bO Y3 nM hm;generalize hL:(gv T m).length=L at *;have HL:=ab hL;clear hL;go_wp2;go_ret;exact ⟨_,rfl,by rw [b8.out,HL.out];exact qO.out,jQ.out⟩
def kR(P:Nat)(T:Nat→Bool)(n:Int):Option Nat × List Nat × (Nat→Bool) :=
 if n<0 then (some 0,[],T) else if (gv T P).length<n.toNat then (some 6,[],T) else (none,fh T P n.toNat,kC T (fh T P n.toNat))
theorem rr{T:Nat→Bool}{P N j:Nat}(h:j ∈ fh T P N):j<P∧T j=false:=(BE T).1 (bF h)
theorem xf(T:Nat→Bool)(P N:Nat):(fh T P N).length=min N (gv T P).length:=by unfold fh;rw [ag]
theorem Nl(base:Nat)(A:Nat→Addr)(b g P:Nat)(T:Nat→Bool)(n:Int)(w:World)(h:eT w b g P T)(hk:pU P T)(hE:Env base A w):Calls prog 70 #[.pointer (some ⟨b,0,none⟩),.int .i64 n] w fun e w'=>∃ v,e = .returned (.tuple #[v,ig A (kR P T n).1])∧w'.ownsRow w.heap.size 3 1 v (kR P T n).2.1.length (kE (kR P T n).2.1)∧eT w' b g P (kR P T n).2.2∧gl (fun k=>k=g) w w':=by
 by_cases Rg:n<0
 ·have HD:Hid (kR P T n=(some 0,[],T)):=by show kR P T n=_;simp [kR,Rg]
  rw [HD.out];have c:w.cell? ⟨0,0,none⟩=some (.iface 360 (.pointer (some (A 0)))):=hE.e 0 (by decide)
  have H:=ab h;clear h hk hE;go_enter func70,ntmps70;go_wp2_with fail;go_quiet (fail)
  have hb:Below w.heap.size w (w.drewN nq):=⟨rfl,rfl,rfl,aj _,fun _ _=>rfl⟩
  have HB:=ab hb;clear hb;go_wp2_with fail;go_ret2;exact ⟨_,rfl,World.ownsRow_nil _ _ _ _,H.out.below HB.out,gl.bw HB.out⟩
 ·obtain ⟨N,rfl⟩ : ∃ N:Nat,n=N:=⟨n.toNat,by omega⟩
  have HL:=ab (Sq b g P T N w h hk hE.tab);have H:=ab h;have HE:=ab hE;have hP:=h.hi;have xH:=h.Q2;have HG:=ab xH;clear h xH hE;by_cases hf:(gv T P).length<N
  ·have HD:Hid (kR P T (N:Int)=(some 6,[],T)):=by show kR P T (N:Int)=_;simp [kR,hf]
   rw [HD.out];have hlen:(fh T P N).length<N:=by rw [xf];omega
   have Zt:((fh T P N).length:Int)<(N:Int):=by omega
   clear hk hf;generalize fh T P N=l at *;go_enter func70,ntmps70;go_wp2_with fail;refine HL.out.mono ?_
   rintro e w1 ⟨v,rfl,aE,hb⟩;obtain ⟨a,c,rfl,-⟩:=gX aE;have c6:w1.cell? ⟨6,0,none⟩=some (.iface 360 (.pointer (some (A 6)))):=(HE.out.up hb).e 6 (by decide)
   have HB:=ab hb;clear hb aE HL;go_wp2_with fail;go_quiet (fail)
   have bH:Hid (Below w.heap.size w (w1.drewN nq)):=⟨HB.out.os,HB.out.tape,HB.out.output,HB.out.size,HB.out.block⟩;go_wp2_with fail;go_ret2;exact ⟨_,rfl,World.ownsRow_nil _ _ _ _,H.out.below bH.out,gl.bw bH.out⟩
  ·have HD:Hid (kR P T (N:Int)=(none,fh T P N,kC T (fh T P N))):=by show kR P T (N:Int)=_;simp [kR,hf]
   rw [HD.out];have hlen:(fh T P N).length=N:=by rw [xf];omega
   have HLT:Hid (∀ j ∈ fh T P N,j<P):=fun j hj=>(rr hj).1
   have hNP:N≤1048576:=by have:=PS T P;omega
   clear hk hf;generalize fh T P N=l at *;subst hlen;go_enter func70,ntmps70;go_wp2_with fail;refine HL.out.mono ?_
   rintro e w1 ⟨v,rfl,aE,hb⟩;obtain ⟨a,c,rfl,Up⟩:=gX aE;have HB:=ab hb;have qO:=ab aE;have XJ:=ab Up;clear hb aE Up HL;obtain ⟨N,hN⟩ : ∃ N,N=l.length:=⟨_,rfl⟩;rw [← hN] at hNP qO XJ ⊢;have HN:=ab hN;clear hN;go_wp2_with fail;go_loopw [22] (fun i wr=>∃ k:Nat,k≤N∧i = .int .i64 k∧eT wr b g P (kC T (l.take k))∧gl (fun k=>k=g) w1 wr) (fun i _=>N - (intOf i).toNat)
   case atStart=>exact ⟨0,aD _,rfl,by rw [List.take_zero,M8];exact H.out.below HB.out,gl.refl _ _⟩
   case round =>
    obtain ⟨k,hk,rfl,hm,ho⟩:=hrel;by_cases bN:k<N
    ·obtain ⟨g2,rfl⟩:=XJ.out (by omega)
     have mf:k<l.length:=by rw [← HN.out];exact bN
     have hgg:g2≠g:=by have:=(eJ qO.out g2 rfl).1;have:=HG.out;omega
     have ce:w1.cell? ⟨g2,k,none⟩=some (.int .i64 (l[k] : Int)):=by rw [qO.out.cellAt k (by omega)];exact Of l k mf
     have ce2:wr.cell? ⟨g2,k,none⟩=some (.int .i64 (l[k] : Int)):=ho.cell ce hgg;have hlP:=HLT.out l[k] (aG mf);have HS:=ab (A5 b g P _ l[k] wr hm (by have:=Dm P;omega))
     have HSN:Hid (nJ (kC T (l.take k)) l[k] true=kC T (l.take (k+1))):=by
      show _=_
      rw [JN,ay mf]
     rw [HSN.out] at HS;generalize l[k]=x at *;have HO:=ab ho;have hkI:(k:Int)<(N:Int):=by omega
     clear hm ho ce mf;go_wp2_with fail;refine HS.out.mono ?_
     rintro e w2 ⟨rfl,h2,o2⟩;have H2:=ab h2;have O2:=ab (HO.out.trans o2);clear h2 o2 HS HO ce2;go_wp2;go_roundw
     case rel=>exact ⟨k+1,by omega,by go_num,H2.out,O2.out⟩
     case measure=>simp [intOf];omega
    ·have he:k=N:=by omega
     have hkI:¬ (k:Int)<(N:Int):=by omega
     have H1:Hid (eT wr b g P (kC T l)):=by
      rw [he,HN.out,List.take_length] at hm;exact hm
     have O1:=ab ho;clear hm ho;go_wp2;go_ret2;refine ⟨_,rfl,?_,H1.out,(gl.bw HB.out).trans O1.out⟩;refine zV ?_ O1.out (fun k Rm=>?_)
     ·show w1.ownsRow _ _ _ _ _ _
      rw [← HN.out];exact qO.out
     ·have:=(eJ qO.out k Rm).1;have:=HG.out;show ¬ k=g
      omega
theorem info68:(prog.info? 40).map (fun i=>(i.zero,i.size,i.bytes))=some (some (.int .u64 0),1,8):=by kernel_rfl
theorem Ie:∀ n,wd (fun _=>false) n=0
 | 0=>rfl
 | n+1=>by rw [wd,Ie n];rfl
theorem Gt(n:Nat):(madeCells (Value.int .u64 0).cells (n*1)).toList=kh (fun _=>false) n:=by
 apply pV
 intro i;by_cases hi:i<n
 ·rw [iz _ _ _ hi];simp [madeCells,Value.cells,hi,word,Ie,Nat.mod_one]
 ·rw [bD (by simp [madeCells];omega),bD (by rw [gr];omega)]
theorem Gr(w:World)(n:Nat)(hn:n≤16384):∃ w',(Instr.makeSlice 129 (.int .i64 (n:Int)) (.int .i64 (n:Int))).run prog w = .ok (.slice (some ⟨w.heap.size,0,none⟩) n n) w'∧w'.ownsRow w.heap.size 40 1 (.slice (some ⟨w.heap.size,0,none⟩) n n) n (kh (fun _=>false) n)∧Below w.heap.size w w'∧w.heap.size<w'.heap.size:=by
 obtain ⟨i0,hi,hz,b7,kF⟩:=info_parts info68;obtain ⟨w',hr,ho,hg⟩:=run_makeSlice_full (P:=prog) w w.heap.size 129 40 i0 _ 1 underlying129 hi hz b7   .i64 .i64 n (by omega) (by rw [kF];omega) (by unfold maxLen;omega) (aj _)
 rw [Gt] at ho;exact ⟨w',hr,ho,(Below.refl _ _).grown hg (aj _) (fun j h=>by cases h),(eJ ho _ rfl).2.1⟩
def T0(P:Nat):Nat→Bool:=fun j=>decide (j<2) || decide (P≤j)
theorem Ub{P:Nat}(h1:4≤P)(h2:P≤1048576):pU P (T0 P):=⟨h1,h2,by simp [T0],by simp [T0],fun j hj=>by simp [T0,hj]⟩
theorem Fz{T T':Nat→Bool}{n i:Nat}(h:∀ j,j<64*n→T j=T' j)(hi:i<n):word T i=word T' i:=by
 apply eQ
 intro j;rw [eX,eX];by_cases hj:j<64
 ·rw [h _ (by omega)]
 ·simp [hj]
theorem AS{T T':Nat→Bool}{n:Nat}(h:∀ j,j<64*n→T j=T' j):kh T n=kh T' n:=by
 apply pV
 intro i;by_cases hi:i<n
 ·rw [iz _ _ _ hi,iz _ _ _ hi,Fz h hi]
 ·rw [bD (by rw [gr];omega),bD (by rw [gr];omega)]
theorem eT.congr{w:World}{b g P:Nat}{T T':Nat→Bool}(h:eT w b g P T)(he:∀ j,j<64*nW P→T j=T' j):eT w b g P T' :=
 ⟨h.dr,by rw [← AS he];exact h.QZ,h.hi⟩
theorem vo(P:Nat)(w:World)(h4:4≤P)(hP:P≤1048576):Calls prog 39 #[.int .i64 (P:Int)] w fun e w'=>∃ b g,e = .returned (.tuple #[.pointer (some ⟨b,0,none⟩),.nilIface])∧w.heap.size≤b∧w.heap.size≤g∧eT w' b g P (T0 P)∧Below w.heap.size w w':=by
 have hn:=IV hP;have o8:=Dm P;obtain ⟨w1,pC,lp,aL,kn⟩:=Gr w (nW P) hn;have fK:eT (w1.alloc (.cells #[.int .i64 P,.slice (some ⟨w.heap.size,0,none⟩) (nW P) (nW P)] 131)) w1.heap.size w.heap.size P (fun _=>false) :=
  ⟨heap_alloc_new _ _,Kp (Gc lp (ai _ _)) (aD _),hP⟩
 have HS:=ab (we w1.heap.size w.heap.size P _ 0 2 _ fK (by omega) (by omega))
 have bP:Hid (Below w.heap.size w (w1.alloc (.cells #[.int .i64 P,.slice (some ⟨w.heap.size,0,none⟩) (nW P) (nW P)] 131))):=aL.alloc aL.size _;have lT:=ab kn;have GW:((P:Int)+63) / 64=(nW P:Int):=by unfold nW;omega
 have hq:((P:Int)+64 - 1) / 64=(nW P:Int):=by unfold nW;omega
 have HNW:Hid (P≤64*nW P):=o8;clear lp aL kn fK o8;obtain ⟨n,hN⟩ : ∃ n,n=nW P:=⟨_,rfl⟩;rw [← hN] at hn pC HS bP GW hq;have HN:=ab hN;clear hN;go_enter func39,ntmps39;go_wp2_with fail;refine HS.out.mono ?_
 rintro e w2 ⟨rfl,h2,o2⟩;have ll:=ab (we w1.heap.size w.heap.size P _ P (64*nW P) _ h2 HNW.out (aj _));have c1:=h2.c1;rw [← HN.out] at c1 ll;have bH:Hid (Below w.heap.size w w2):=by
  have hb:Below w.heap.size (w1.alloc (.cells #[.int .i64 P,.slice (some ⟨w.heap.size,0,none⟩) n n] 131)) w2:=o2.below (fun k hk=>by show w.heap.size≤k;rw [show k=w.heap.size from hk];exact aj _) bP.out.size
  exact bP.out.trans hb
 clear h2 o2 HS;generalize hW:w1.heap.size=b1 at *;have HWB:=ab hW;clear hW pC;have h64:IntKind.i64.wrap ((n:Int)*64)=((64*n:Nat):Int):=by rw [IntKind.wrap_i64];omega
 obtain ⟨m,hm⟩ : ∃ m,m=64*n:=⟨_,rfl⟩;rw [← hm] at h64 ll;have HM:=ab hm;have hmI:(n:Int)*64=(m:Int):=by omega
 clear hm;go_wp2_with fail;refine ll.out.mono ?_
 rintro e w3 ⟨rfl,h3,o3⟩;have Wp:=h3.congr (T':=T0 P) (fun j hj=>by
  unfold Cq T0;have hm:=HM.out;rw [HN.out] at hm;have:j<m:=by omega
  simp [this])
 have H3:=ab Wp;have eG:Hid (Below w.heap.size w w3):=bH.out.trans (o3.below (fun k hk=>by show w.heap.size≤k;rw [show k=w.heap.size from hk];exact aj _) bH.out.size)
 clear h3 Wp o3 ll;go_wp2_with fail;go_ret2;exact ⟨_,_,rfl,by have:=HWB.out;have:=lT.out;omega,aj _,H3.out,eG.out⟩
end Q
end Go.Proofs.YtihmgigfkmofnaaGreatDoor
