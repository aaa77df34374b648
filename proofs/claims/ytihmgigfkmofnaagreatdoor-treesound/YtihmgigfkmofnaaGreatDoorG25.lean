import Derived.Deep.QuietTactic
import Derived.Lib.TrailingZeros
import Derived.Laws.Bits64b
import Derived.Test.YtihmgigfkmofnaaGreatDoorG05
import Derived.Laws.OwnMore
import Derived.Laws.Tables
set_option maxHeartbeats 2000000
set_option maxRecDepth 100000
open Go.Proofs.Tryz
namespace Go.Proofs.YtihmgigfkmofnaaGreatDoor
namespace Q
open Go.RowKit
variable {F:Nat→Prop} {w w':World} {base:Nat} {v:Value} {xs:List Value} {n b:Nat}
structure gv(F:Nat→Prop)(w w':World):Prop where
 os:w'.os=w.os
 tape:w'.tape=w.tape
 output:w'.output=w.output
 size:w.heap.size≤w'.heap.size
 block:∀ k,k<w.heap.size→¬ F k→w'.heap[k]?=w.heap[k]?
theorem gv.refl(F:Nat→Prop)(w:World):gv F w w:=⟨rfl,rfl,rfl,aj _,fun _ _ _=>rfl⟩
theorem gv.trans{F:Nat→Prop}{a b c:World}(h:gv F a b)(k:gv F b c):gv F a c :=
 ⟨k.os.trans h.os,k.tape.trans h.tape,k.output.trans h.output,ar h.size k.size,fun i hi hn=>(k.block i (aq hi h.size) hn).trans (h.block i hi hn)⟩
theorem gv.bD(h:Below w.heap.size w w'):gv F w w':=⟨h.os,h.tape,h.output,h.size,fun k hk _=>h.block k hk⟩
theorem gv.set{g:Nat}(hF:F g)(o:Nat)(w:World)(u:Value):gv F w (w.setCell ⟨g,o,none⟩ u) :=
 ⟨rfl,rfl,rfl,by simp [World.setCell],fun k _ hn=>Below.heap_setCell w ⟨g,o,none⟩ u k (fun e=>hn (by rw [e];exact hF))⟩
theorem gv.cell{F:Nat→Prop}{w w':World}(h:gv F w w'){a:Addr}{v:Value}(hc:w.cell? a=some v)(hn:¬ F a.block):w'.cell? a=some v :=
 (World.cell?_of_block (a:=a) (h.block a.block (World.block_lt_of_cell? w a hc) hn)).trans hc
theorem gv.below(h:gv F w w')(hF:∀ k,F k→base≤k)(hb:base≤w.heap.size):Below base w w' :=
 ⟨h.os,h.tape,h.output,h.size,fun k hk=>h.block k (aq hk hb) (fun hf=>by have:=hF k hf;omega)⟩
theorem eL{e size:Nat}(h:w.ownsRow base e size v n xs)(k:Nat)(hk:v.ownBlock=some k):base≤k∧k<w.heap.size∧∃ cur,w.heap[k]?=some (.cells cur e (0,0)):=by
 rcases h.2 with ⟨h',_⟩ | ⟨g,cap,cur,h',hb,hg,_⟩
 ·rw [h'] at hk;simp [Value.ownBlock] at hk
 ·rw [h'] at hk;simp only [Value.ownBlock,Option.some.injEq] at hk;subst hk;exact ⟨hb,(Array.getElem?_eq_some_iff.1 hg).1,cur,hg⟩
theorem fj{e size:Nat}(ho:w.ownsRow b e size v n xs)(hb:∀ g,v.ownBlock=some g→w'.heap[g]?=w.heap[g]?):w'.ownsRow b e size v n xs:=by
 refine ⟨ho.1,?_⟩;rcases ho.2 with h' | ⟨g,cap,cur,h',h1,hg,hr⟩
 ·exact .inl h'
 ·exact .inr ⟨g,cap,cur,h',h1,(hb g (by rw [h'];rfl)).trans hg,hr⟩
theorem AJ{e size:Nat}(ho:w.ownsRow b e size v n xs)(h:gv F w w')(hn:∀ g,v.ownBlock=some g→¬ F g):w'.ownsRow b e size v n xs :=
 fj ho fun g hg=>h.block g (eL ho g hg).2.1 (hn g hg)
theorem G4{e size:Nat}(ho:w.ownsRow b e size v n xs)(h:Below w.heap.size w w'):w'.ownsRow b e size v n xs :=
 fj ho fun g hg=>h.block g (eL ho g hg).2.1
theorem gY{e size:Nat}(h:w.ownsRow base e size v n xs):∃ a c,v = .slice a n c∧(0<n→∃ g,a=some ⟨g,0,none⟩):=by
 rcases h.2 with ⟨h',h0⟩ | ⟨g,cap,cur,h',_⟩
 ·exact ⟨none,0,by rw [h',h0],fun h=>by omega⟩
 ·exact ⟨_,cap,h',fun _=>⟨g,rfl⟩⟩
theorem Lu{We e size:Nat}(h:w.ownsRow base e size v n xs)(hb:We≤base):w.ownsRow We e size v n xs:=by
 refine ⟨h.1,?_⟩;rcases h.2 with h' | ⟨g,cap,cur,h',h1,hr⟩
 ·exact .inl h'
 ·exact .inr ⟨g,cap,cur,h',by omega,hr⟩
def wd:(Nat→Bool)→Nat→Nat
 | _,0=>0
 | f,n+1=>(if f 0 then 1 else 0)+2*wd (fun j=>f (j+1)) n
theorem qz:∀ (n:Nat) (f:Nat→Bool) (j:Nat),(wd f n).testBit j=(decide (j<n) && f j)
 | 0,f,j=>by simp [wd]
 | n+1,f,0=>by
  rw [Nat.testBit_zero,wd];cases h:f 0 <;> simp <;> omega
 | n+1,f,j+1=>by
  have ih:=qz n (fun j=>f (j+1)) j
  rw [Nat.testBit_succ,wd];have e:((if f 0=true then 1 else 0)+2*wd (fun j=>f (j+1)) n) / 2=wd (fun j=>f (j+1)) n:=by split <;> omega
  rw [e,ih];simp
theorem Ol:∀ (n:Nat) (f:Nat→Bool),wd f n<2 ^ n
 | 0,f=>by simp [wd]
 | n+1,f=>by
  have ih:=Ol n (fun j=>f (j+1))
  rw [wd,Nat.pow_succ];split <;> omega
def word(T:Nat→Bool)(i:Nat):Nat:=wd (fun j=>T (64*i+j)) 64
theorem word_lt(T:Nat→Bool)(i:Nat):word T i<18446744073709551616:=Ol 64 _
theorem eW(T:Nat→Bool)(i j:Nat):(word T i).testBit j=(decide (j<64) && T (64*i+j)):=qz 64 _ j
def nX(T:Nat→Bool)(id:Nat)(b:Bool):Nat→Bool:=fun j=>if j=id then b else T j
theorem On(T:Nat→Bool)(id:Nat)(b:Bool):nX T id b id=b:=by simp [nX]
theorem Oq(T:Nat→Bool)(id j:Nat)(b:Bool)(h:j≠id):nX T id b j=T j:=by simp [nX,h]
theorem C6(T:Nat→Bool)(id:Nat)(b:Bool)(i:Nat)(h:i≠id / 64):word (nX T id b) i=word T i:=by
 apply eR
 intro j;rw [eW,eW];by_cases hj:j<64
 ·rw [Oq _ _ _ _ (by omega)]
 ·simp [hj]
theorem qw(id:Nat):2 ^ (id % 64)<18446744073709551616:=Nat.pow_lt_pow_right (by decide) (by omega:id % 64<64)
theorem Oj(T:Nat→Bool)(id:Nat):word T (id / 64) ||| 2 ^ (id % 64)=word (nX T id true) (id / 64):=by
 apply eR
 intro j;rw [Nat.testBit_or,eW,eW,Nat.testBit_two_pow];by_cases hj:j<64
 ·by_cases he:64*(id / 64)+j=id
  ·rw [he,On];have:id % 64=j:=by omega
   simp [hj,this]
  ·rw [Oq _ _ _ _ he];have:¬ id % 64=j:=by omega
   simp [hj,this]
 ·have:¬ id % 64=j:=by omega
  simp [hj,this]
theorem FP(x i:Nat):x &&& 2 ^ i=if x.testBit i then 2 ^ i else 0:=by
 apply eR
 intro j;rw [Nat.testBit_and,Nat.testBit_two_pow];by_cases h:i=j
 ·subst h;cases hx:x.testBit i <;> simp
 ·split <;> simp [h]
theorem KC(T:Nat→Bool)(id:Nat):(word T (id / 64) &&& 2 ^ (id % 64)=0)↔T id=false:=by
 rw [FP,eW];have h1:id % 64<64:=by omega
 have h2:64*(id / 64)+id % 64=id:=by omega
 have hp:0<2 ^ (id % 64):=Nat.two_pow_pos _;rw [h2];cases T id <;> simp [h1]
def tr(f:Nat→Bool):Nat→Nat
 | 0=>0
 | n+1=>tr f n+(if f n then 1 else 0)
theorem Vy(f:Nat→Bool):∀ n,tr f n≤n
 | 0=>aj _
 | n+1=>by have:=Vy f n;rw [tr];split <;> omega
def fr(f:Nat→Bool)(n:Nat):Nat:=n - tr f n
def gB(f:Nat→Bool):Nat→List Nat
 | 0=>[]
 | n+1=>gB f n++(if f n then [] else [n])
theorem Kd(f:Nat→Bool):∀ n,(gB f n).length=fr f n
 | 0=>by simp [gB,fr,tr]
 | n+1=>by
  have h:=Kd f n;have h2:=Vy f n;unfold fr at h ⊢;rw [gB,ae,h,tr];split <;> simp <;> omega
theorem sF{f:Nat→Bool}{m:Nat}:∀ n,(∀ j,m≤j→j<m+n→f j=true)→gB f (m+n)=gB f m
 | 0,_=>rfl
 | n+1,h=>by rw [← dN,gB,sF n (fun j h1 h2=>h j h1 (by omega)),h (m+n) (by omega) (by omega)];simp
theorem Kc(f:Nat→Bool){m n:Nat}(h:m≤n):∃ r,gB f n=gB f m++r:=by
 obtain ⟨d,rfl⟩ : ∃ d,n=m+d:=⟨n - m,by omega⟩
 clear h;induction d with
 | zero=>exact ⟨[],by simp⟩
 | succ d ih =>
  obtain ⟨r,hr⟩:=ih;exact ⟨r++(if f (m+d) then [] else [m+d]),by rw [← dN,gB,hr,ay]⟩
theorem Cr(f:Nat→Bool):∀ {n j:Nat},j ∈ gB f n↔j<n∧f j=false
 | 0,j=>by simp [gB]
 | n+1,j=>by
  rw [gB,cA,Cr f];by_cases hj:j=n
  ·subst hj;cases h:f j <;> simp
  ·cases h:f n <;> simp [hj] <;> omega
def zw(T:Nat→Bool)(i k:Nat):Nat:=wd (fun j=>decide (k≤j) && !T (64*i+j)) 64
theorem Vu(T:Nat→Bool)(i k:Nat):zw T i k<18446744073709551616:=Ol 64 _
theorem iF(T:Nat→Bool)(i k j:Nat):(zw T i k).testBit j=(decide (j<64) && (decide (k≤j) && !T (64*i+j))):=qz 64 _ j
theorem S3{T:Nat→Bool}{i k:Nat}(h:zw T i k=0):∀ j,k≤j→j<64→T (64*i+j)=true:=by
 intro j h1 h2;have:=iF T i k j;rw [h] at this;simpa [h1,h2] using this
theorem M5(t m j:Nat):((2 ^ t*(2*m+1)) &&& (2 ^ t*(2*m+1) - 1)).testBit j=((2 ^ t*(2*m+1)).testBit j && !decide (j=t)):=by
 have hp:0<2 ^ t:=Nat.two_pow_pos t;have e:2 ^ t*(2*m+1) - 1=2 ^ t*(2*m)+(2 ^ t - 1):=by
  rw [Nat.mul_add,Nat.mul_one];omega
 rw [Nat.testBit_and,e];by_cases hj:j<t
 ·have h0:(2 ^ t*(2*m+1)).testBit j=false:=by
   rw [kI];simp;omega
  rw [h0];simp
 ·have h1:(2 ^ t*(2*m)+(2 ^ t - 1)).testBit j=(2*m).testBit (j - t):=by
   rw [Nat.testBit_two_pow_mul_add _ (by omega)]
   simp [hj]
  have h2:(2 ^ t*(2*m+1)).testBit j=(2*m+1).testBit (j - t):=by
   rw [kI];simp [show t≤j by omega]
  rw [h1,h2];by_cases he:j=t
  ·subst he;rw [de,Nat.testBit_zero,Nat.testBit_zero];simp
  ·obtain ⟨d,hd⟩ : ∃ d,j - t=d+1:=⟨j - t - 1,by omega⟩
   rw [hd,Nat.testBit_succ,Nat.testBit_succ,show (2*m+1) / 2=m by omega,show 2*m / 2=m by omega]
   simp [he]
theorem S2{T:Nat→Bool}{i k:Nat}(h:zw T i k≠0):∃ t,Lib.ctz 64 (zw T i k)=t∧k≤t∧t<64∧T (64*i+t)=false∧(∀ j,k≤j→j<t→T (64*i+j)=true)∧zw T i k &&& (zw T i k - 1)=zw T i (t+1):=by
 obtain ⟨m,hm,hk⟩:=Lib.ctzFrom_spec 64 (zw T i k) (by omega) (Vu T i k)
 have e:Lib.ctz 64 (zw T i k)=Lib.ctzFrom 64 (zw T i k):=by simp [Lib.ctz,h]
 generalize ht:Lib.ctzFrom 64 (zw T i k)=t at hm hk;rw [ht] at e;have hb:∀ j,(zw T i k).testBit j=(2 ^ t*(2*m+1)).testBit j:=fun j=>by rw [← hm]
 have h1:(zw T i k).testBit t=true:=by
  rw [hb,kI];simp [Nat.testBit_zero]
 have h2:∀ j,j<t→(zw T i k).testBit j=false:=fun j hj=>by
  rw [hb,kI];simp;omega
 rw [iF] at h1;simp only [hk,decide_true,Bool.true_and,bV,decide_eq_true_eq,Bool.not_eq_true'] at h1;refine ⟨t,e,h1.1,hk,h1.2,fun j a b=>?_,?_⟩
 ·have:=h2 j b;rw [iF] at this;simpa [show j<64 by omega,a] using this
 ·apply eR
  intro j;have hc:=M5 t m j;rw [← hm] at hc;rw [hc,iF,iF];by_cases hj:j<64
  ·by_cases h3:j<t
   ·have h4:=h2 j h3;rw [iF] at h4;rw [h4];simp [show ¬ t+1≤j by omega]
   ·by_cases h4:j=t
    ·subst h4;simp;intro _ h;omega
    ·simp [hj,h4,show k≤j by omega,show t+1≤j by omega]
  ·simp [hj]
variable {b:Nat} {w:World} {T:Nat→Bool} {P:Nat} {w':World}
def nW(P:Nat):Nat:=(P+63) / 64
def kD(T:Nat→Bool)(n:Nat):List Value:=(List.range n).map fun i=>.int .u64 (word T i:Int)
theorem gz(T:Nat→Bool)(n:Nat):(kD T n).length=n:=by simp [kD]
theorem iE(T:Nat→Bool)(n i:Nat)(h:i<n):(kD T n)[i]?=some (.int .u64 (word T i:Int)):=by simp [kD,h]
theorem Gv(T:Nat→Bool)(n id:Nat)(x:Bool):(kD T n).set (id / 64) (.int .u64 (word (nX T id x) (id / 64):Int))=kD (nX T id x) n:=by
 apply lC
 intro i;by_cases hi:i<n
 ·by_cases he:i=id / 64
  ·subst he;rw [List.getElem?_set_self (by rw [gz];exact hi),iE _ _ _ hi]
  ·rw [List.getElem?_set_ne (fun h=>he h.symm),iE _ _ _ hi,iE _ _ _ hi,C6 _ _ _ _ he]
 ·rw [bu (by rw [bI,gz];omega),bu (by rw [gz];omega)]
structure eU(w:World)(b g P:Nat)(T:Nat→Bool):Prop where
 dx:w.heap[b]?=some (.cells #[.int .i64 P,.slice (some ⟨g,0,none⟩) (nW P) (nW P)] 131 (0,0))
 St:w.ownsRow 0 40 1 (.slice (some ⟨g,0,none⟩) (nW P) (nW P)) (nW P) (kD T (nW P))
 hi:P≤1048576
theorem lt_of_heap{o:Obj}(h:w.heap[b]?=some o):b<w.heap.size:=(Array.getElem?_eq_some_iff.1 h).1
theorem eU.TO{g:Nat}(h:eU w b g P T):b<w.heap.size:=lt_of_heap h.dx
theorem eU.TN{g:Nat}(h:eU w b g P T):g<w.heap.size:=(eL h.St g rfl).2.1
theorem eU.ne{g:Nat}(h:eU w b g P T):b≠g:=fun e=>by
 obtain ⟨cur,hc⟩:=(eL h.St g rfl).2.2;have:=h.dx;rw [e,hc] at this;simp at this
theorem eU.c0{g:Nat}(h:eU w b g P T):w.cell? ⟨b,0,none⟩=some (.int .i64 P):=cell_of_row w b 0 _ _ _ h.dx
theorem eU.c1{g:Nat}(h:eU w b g P T):w.cell? ⟨b,1,none⟩=some (.slice (some ⟨g,0,none⟩) (nW P) (nW P)):=cell_of_row w b 1 _ _ _ h.dx
theorem eU.cw{g:Nat}(h:eU w b g P T)(i:Nat)(hi:i<nW P):w.cell? ⟨g,i,none⟩=some (.int .u64 (word T i:Int)):=by
 rw [h.St.cellAt i (by omega)];exact iE _ _ _ hi
theorem eU.only{F:Nat→Prop}{g:Nat}(h:eU w b g P T)(ho:gv F w w')(hb:¬ F b)(hg:¬ F g):eU w' b g P T :=
 ⟨(ho.block b h.TO hb).trans h.dx,AJ h.St ho (fun k hk=>by cases hk;exact hg),h.hi⟩
theorem eU.below{g:Nat}(h:eU w b g P T)(hb:Below w.heap.size w w'):eU w' b g P T :=
 h.only (gv.bD (F:=fun _=>False) hb) id id
theorem eU.stored{w:World}{b g P:Nat}{T:Nat→Bool}(h:eU w b g P T)(id:Nat)(x:Bool):eU (w.setCell ⟨g,id / 64,none⟩ (.int .u64 (word (nX T id x) (id / 64):Int))) b g P (nX T id x) :=
 ⟨(Below.heap_setCell w ⟨g,id / 64,none⟩ _ b h.ne).trans h.dx,by have:=(h.St.stored (id / 64) (.int .u64 (word (nX T id x) (id / 64):Int))).1;rw [Gv] at this;exact this,h.hi⟩
theorem JO(h:P≤1048576):nW P≤16384:=by unfold nW;omega
theorem Ed(P:Nat):P≤64*nW P:=by unfold nW;omega
theorem Oi(id:Nat):IntKind.u64.wrap (2 ^ (id % 64))=((2 ^ (id % 64):Nat):Int):=by
 have h:=qw id;rw [IntKind.wrap_u64,show (2:Int) ^ (id % 64)=((2 ^ (id % 64):Nat):Int) by simp]
 generalize 2 ^ (id % 64)=p at *;omega
theorem By(id:Nat)(hx:id<1125899906842624)(w:World):Calls prog 148 #[.int .i64 id] w fun e w'=>e = .returned (.tuple #[.int .i64 (id / 64:Nat),.int .u64 (2 ^ (id % 64):Nat)])∧Below w.heap.size w w':=by
 have hp:=Oi id;go_enter func148,ntmps148;go_wp2_with fail;go_quiet (fail)
 have hb:Below w.heap.size w (w.drewN nq):=⟨rfl,rfl,rfl,aj _,fun _ _=>rfl⟩
 go_wp2_with fail;go_ret2;refine ⟨?_,hb⟩;rw [hp];simp
def uO(w:World):Prop:=∀ j,j<64→w.cell? ⟨13,j,none⟩=some (.int .u8 (Lib.deBruijn64tab.getD j 0))
theorem Ox(x a:Nat)(hx:x<18446744073709551616)(Su:x≠0)(vT:x &&& (18446744073709551616 - x)=a):IntKind.u64.wrap (bits BinOp.and IntKind.u64 (x:Int) (IntKind.u64.wrap (-(x:Int)))*285870213051353865) / 288230376151711744=((a*285870213051353865 % 18446744073709551616 / 288230376151711744:Nat):Int):=by
 have e1:IntKind.u64.wrap (-(x:Int))=((18446744073709551616 - x:Nat):Int):=by rw [IntKind.wrap_u64];omega
 rw [e1,bits_and_u64_nat x _ hx (by omega),vT,IntKind.wrap_u64]
 omega
theorem S8(x k idx:Nat)(w:World)(Su:((x:Int) == 0)=false)(key:IntKind.u64.wrap (bits BinOp.and IntKind.u64 (x:Int) (IntKind.u64.wrap (-(x:Int)))*285870213051353865) / 288230376151711744=(idx:Int))(hi:idx<64)(hk:k<64)(bq:w.cell? ⟨13,idx,none⟩=some (.int .u8 k)):Calls prog 147 #[.int .u64 x] w fun e w'=>e = .returned (.int .i64 k)∧w=w':=by
 go_enter func147,ntmps147;go_wp2_with (simp only [key])
 go_ret;exact ⟨rfl,rfl⟩
theorem WN(x:Nat)(hx:x<18446744073709551616)(Su:x≠0)(w:World)(hT:uO w):Calls prog 147 #[.int .u64 x] w fun e w'=>e = .returned (.int .i64 (Lib.ctz 64 x))∧w=w':=by
 obtain ⟨vT,hk⟩:=Lib.lowest_bit 64 x Su hx;obtain ⟨hi,Uc⟩:=Lib.deBruijn64_at _ hk;have bq:=hT _ hi;rw [Uc] at bq;exact S8 x _ _ w (by simp;omega) (Ox x _ hx Su vT) hi hk bq
theorem uO.below{w w':World}(h:uO w)(hb:Below w.heap.size w w'):uO w':=fun j hj=>(hb.cell (p:=⟨13,j,none⟩) (World.block_lt_of_cell? w _ (h j hj))).trans (h j hj)
variable {w' w:World} {base:Nat} {A:Nat→Addr}
structure Env(base:Nat)(A:Nat→Addr)(w:World):Prop where
 errs:dI 13 fe A w
 tab:uO w
 lo:∀ i,i<13→fe i<base∧(A i).block<base
 lt:13<base
 size:base≤w.heap.size
theorem Env.keep(h:Env base A w)(hb:Below base w w'):Env base A w':=by
 refine ⟨⟨fun i hi=>?_,h.errs.2⟩,fun j hj=>?_,h.lo,h.lt,ar h.size hb.size⟩
 ·obtain ⟨h1,c,t,h2⟩:=h.errs.1 i hi;obtain ⟨l1,l2⟩:=h.lo i hi;exact ⟨(World.cell?_of_block (a:=⟨fe i,0,none⟩) (hb.block _ l1)).trans h1,c,t,(hb.block _ l2).trans h2⟩
 ·exact (World.cell?_of_block (a:=⟨13,j,none⟩) (hb.block _ h.lt)).trans (h.tab j hj)
theorem Env.up(h:Env base A w)(hb:Below w.heap.size w w'):Env base A w':=h.keep (hb.mono h.size)
theorem Env.e(h:Env base A w)(i:Nat)(hi:i<13):w.cell? ⟨fe i,0,none⟩=some (.iface 360 (.pointer (some (A i)))):=(h.errs.1 i hi).1
def oj(P:Nat)(id:Int):Bool:=decide (2≤id) && decide (id<P)
theorem OD(b g P:Nat)(T:Nat→Bool)(id:Int)(w:World)(h:eU w b g P T):Calls prog 109 #[.pointer (some ⟨b,0,none⟩),.int .i64 id] w fun e w'=>e = .returned (.bool (oj P id))∧w=w':=by
 have c0:=h.c0;clear h;by_cases h2:2≤id
 ·by_cases h3:id<P
  ·go_enter func109,ntmps109;go_wp2;go_ret;exact ⟨by simp [oj,h2,h3],rfl⟩
  ·go_enter func109,ntmps109;go_wp2;go_ret;exact ⟨by simp [oj,h3],rfl⟩
 ·go_enter func109,ntmps109;go_wp2;go_ret;exact ⟨by simp [oj];omega,rfl⟩
theorem BX(b g P:Nat)(T:Nat→Bool)(id:Nat)(w:World)(h:eU w b g P T)(hid:id<64*nW P):Calls prog 108 #[.pointer (some ⟨b,0,none⟩),.int .i64 id] w fun e w'=>e = .returned (.tuple #[])∧eU w' b g P (nX T id true)∧gv (fun k=>k=g) w w':=by
 have hn:=JO h.hi;have HB:=ab (By id (by omega) w)
 have H:=ab h;clear h;go_enter func108,ntmps108;go_wp2_with fail;refine HB.out.mono ?_
 rintro e w1 ⟨rfl,hb⟩;have h1:=H.out.below hb;have c1:=h1.c1;have hq:id / 64<nW P:=by omega
 have cw:=h1.cw (id / 64) hq;have cf:=h1.St.frozenAt (id / 64);have hor:bits .or .u64 ((word T (id / 64):Nat):Int) ((2 ^ (id % 64):Nat):Int)=((word (nX T id true) (id / 64):Nat):Int):=by
  rw [bits_or_u64_nat _ _ (word_lt _ _) (qw id),Oj]
 have eZ:Hid (eU (w1.setCell ⟨g,id / 64,none⟩ (.int .u64 (word (nX T id true) (id / 64):Int))) b g P (nX T id true)∧gv (fun k=>k=g) w (w1.setCell ⟨g,id / 64,none⟩ (.int .u64 (word (nX T id true) (id / 64):Int)))) :=
  ⟨h1.stored id true,(gv.bD hb).trans (gv.set (F:=fun k=>k=g) rfl _ _ _)⟩
 generalize word (nX T id true) (id / 64)=x' at *;generalize word T (id / 64)=x at *;generalize 2 ^ (id % 64)=p at *;generalize id / 64=q at *;generalize nW P=n at *;clear h1 hb H HB;go_wp2;go_end0
 exact ⟨rfl,eZ.out⟩
def kL(T:Nat→Bool)(l:List Nat):Nat→Bool:=fun j=>T j || l.contains j
theorem Ou(T:Nat→Bool):kL T []=T:=by funext j;simp [kL]
theorem KJ(T:Nat→Bool)(l:List Nat)(id:Nat):nX (kL T l) id true=kL T (l++[id]):=by
 funext j
 unfold nX kL;by_cases h:j=id
 ·simp [h]
 ·simp [h]
def Db(T:Nat→Bool)(a b:Nat):Nat→Bool:=fun j=>T j || (decide (a≤j) && decide (j<b))
theorem Ot(T:Nat→Bool)(a:Nat):Db T a a=T:=by
 funext j
 have:¬ (a≤j∧j<a):=by omega
 simp [Db];intro h1;omega
theorem KI(T:Nat→Bool)(a b:Nat)(h:a≤b):nX (Db T a b) b true=Db T a (b+1):=by
 funext j
 unfold nX Db;by_cases hj:j=b
 ·subst hj;simp [h]
 ·by_cases h2:j<b
  ·simp [hj,h2,show j<b+1 by omega]
  ·simp [hj,h2,show ¬ j<b+1 by omega]
theorem xu(b g P:Nat)(T:Nat→Bool)(lo hi:Nat)(w:World)(h:eU w b g P T)(hle:lo≤hi)(hid:hi≤64*nW P):Calls prog 78 #[.pointer (some ⟨b,0,none⟩),.int .i64 lo,.int .i64 hi] w fun e w'=>e = .returned (.tuple #[])∧eU w' b g P (Db T lo hi)∧gv (fun k=>k=g) w w':=by
 have hn:=JO h.hi;have H:=ab h;clear h;go_enter func78,ntmps78;go_wp2_with fail;go_loopw [6] (fun i wr=>∃ k:Nat,lo≤k∧k≤hi∧i = .int .i64 k∧eU wr b g P (Db T lo k)∧gv (fun k=>k=g) w wr) (fun i _=>hi - (intOf i).toNat)
 case atStart=>exact ⟨lo,aj _,hle,rfl,by rw [Ot];exact H.out,gv.refl _ _⟩
 case round =>
  obtain ⟨k,iV,qk,rfl,hm,ho⟩:=hrel;by_cases bO:k<hi
  ·have HS:=ab (BX b g P _ k wr hm (by omega))
   have HO:=ab ho;have XL:k<2000000:=by omega
   clear hm ho hid hle;generalize nW P=nn at *;go_wp2_with fail;refine HS.out.mono ?_
   rintro e w1 ⟨rfl,h1,o1⟩;rw [KI _ _ _ iV] at h1;have H1:=ab h1;have O1:=ab (HO.out.trans o1);clear h1 o1 HS HO;go_wp2;go_roundw
   case rel=>exact ⟨k+1,by omega,by omega,by go_num,H1.out,O1.out⟩
   case measure=>simp [intOf];omega
  ·have he:k=hi:=by omega
   have H1:=ab hm;have O1:=ab ho;clear hm ho;go_wp2;go_end0
   rw [← he];exact ⟨rfl,H1.out,O1.out⟩
structure qo(P:Nat)(T:Nat→Bool):Prop where
 lo:4≤P
 hi:P≤1048576
 t0:T 0=true
 t1:T 1=true
 up:∀ j,P≤j→T j=true
def nD(P:Nat)(T:Nat→Bool)(id:Int):Bool:=decide (0≤id) && (decide (id<P) && T id.toNat)
theorem Om(b g P:Nat)(T:Nat→Bool)(id:Int)(w:World)(h:eU w b g P T):Calls prog 110 #[.pointer (some ⟨b,0,none⟩),.int .i64 id] w fun e w'=>e = .returned (.bool (nD P T id))∧Below w.heap.size w w':=by
 have c0:=h.c0;have H:=ab h;clear h;by_cases h2:0≤id
 ·by_cases h3:id<P
  ·obtain ⟨n,rfl⟩ : ∃ n:Nat,id=n:=⟨id.toNat,by omega⟩
   have hP:=H.out.hi;have hnW:=Ed P;have HB:=ab (By n (by omega) w)
   have hn:n<P:=by omega
   have hq:n / 64<nW P:=by omega
   have hu:=KC T n;have HUB:Hid (nD P T n=T n):=by show nD P T n=T n;simp [nD];omega
   rw [HUB.out];clear hnW;go_enter func110,ntmps110;go_wp2_with fail;refine HB.out.mono ?_
   rintro e w1 ⟨rfl,hb⟩;have h1:=H.out.below hb;have c1:=h1.c1;have cw:=h1.cw (n / 64) hq;have hand:bits .and .u64 ((word T (n / 64):Nat):Int) ((2 ^ (n % 64):Nat):Int)=((word T (n / 64) &&& 2 ^ (n % 64):Nat):Int):=bits_and_u64_nat _ _ (word_lt _ _) (qw n);generalize hR:word T (n / 64) &&& 2 ^ (n % 64)=r at *;generalize word T (n / 64)=x at *;generalize 2 ^ (n % 64)=p at *;generalize n / 64=q at *;generalize nW P=nn at *;have mU:=ab hb;have HU:=ab hu;clear h1 hb H HB hR hu;cases hT:T n with
   | true =>
    have hr:((r:Int) != 0)=true:=by
     have:¬ r=0:=fun h=>by have:=HU.out.1 h;rw [hT] at this;cases this
     simp;omega
    have HT:=ab hT;clear hT;go_wp2;go_ret;exact ⟨by rw [HT.out];rfl,mU.out⟩
   | false =>
    have hr:r=0:=HU.out.2 hT;subst hr;have HT:=ab hT;clear hT;go_wp2;go_ret;exact ⟨by rw [HT.out];rfl,mU.out⟩
  ·have HUB:Hid (nD P T id=false):=by show nD P T id=false;simp [nD];omega
   rw [HUB.out];go_enter func110,ntmps110;go_wp2;go_ret;exact ⟨rfl,Below.refl _ _⟩
 ·have HUB:Hid (nD P T id=false):=by show nD P T id=false;simp [nD];omega
  rw [HUB.out];go_enter func110,ntmps110;go_wp2;go_ret;exact ⟨rfl,Below.refl _ _⟩
theorem Gz{P:Nat}{T:Nat→Bool}{id:Int}(h:oj P id=true):nD P T id=T id.toNat:=by
 simp only [oj,bV,decide_eq_true_eq] at h;simp [nD,show (0:Int)≤id by omega,h.2]
def Eh(P:Nat)(T:Nat→Bool)(id:Int):Option Nat × (Nat→Bool):=if oj P id then (if T id.toNat then (some 4,T) else (none,nX T id.toNat true)) else (some 0,T)
theorem PL(base:Nat)(A:Nat→Addr)(b g P:Nat)(T:Nat→Bool)(id:Int)(w:World)(h:eU w b g P T)(hE:Env base A w):Calls prog 102 #[.pointer (some ⟨b,0,none⟩),.int .i64 id] w fun e w'=>e = .returned (im A (Eh P T id).1)∧eU w' b g P (Eh P T id).2∧gv (fun k=>k=g) w w':=by
 have Yh:=ab (OD b g P T id w h);have CI:=ab (Om b g P T id w h);have H:=ab h;have HE:=ab hE;unfold Eh;cases ht:oj P id with
 | false =>
  rw [if_neg (by simp)]
  rw [ht] at Yh;have c:w.cell? ⟨0,0,none⟩=some (.iface 360 (.pointer (some (A 0)))):=hE.e 0 (by decide)
  clear ht h hE;go_enter func102,ntmps102;go_wp2_with fail;refine Yh.out.mono ?_
  rintro e w1 ⟨rfl,rfl⟩;go_wp2;go_ret;exact ⟨rfl,H.out,gv.refl _ _⟩
 | true =>
  rw [if_pos rfl];rw [ht] at Yh;rw [Gz ht] at CI;have hb:=ht;simp only [oj,bV,decide_eq_true_eq] at hb;obtain ⟨n,rfl⟩ : ∃ n:Nat,id=n:=⟨id.toNat,by omega⟩
  rw [bt] at *;have bO:n<64*nW P:=by have:=Ed P;omega
  have HLT:=ab bO;clear ht h hb bO hE;cases hT:T n with
  | true =>
   rw [hT] at CI;rw [if_pos rfl];clear hT;go_enter func102,ntmps102;go_wp2_with fail;refine Yh.out.mono ?_
   rintro e w1 ⟨rfl,rfl⟩;go_wp2_with fail;refine CI.out.mono ?_
   rintro e w1 ⟨rfl,hb⟩;have c:w1.cell? ⟨4,0,none⟩=some (.iface 360 (.pointer (some (A 4)))):=(HE.out.up hb).e 4 (by decide)
   have mU:=ab hb;clear hb;go_wp2;go_ret;exact ⟨rfl,H.out.below mU.out,gv.bD mU.out⟩
  | false =>
   rw [hT] at CI;rw [if_neg (by simp)]
   clear hT;go_enter func102,ntmps102;go_wp2_with fail;refine Yh.out.mono ?_
   rintro e w1 ⟨rfl,rfl⟩;go_wp2_with fail;refine CI.out.mono ?_
   rintro e w1 ⟨rfl,hb⟩;have HS:=ab (BX b g P T n w1 (H.out.below hb) HLT.out);have mU:=ab hb;clear hb;go_wp2_with fail;refine HS.out.mono ?_
   rintro e w2 ⟨rfl,h2,o2⟩;have H2:=ab h2;have O2:=ab ((gv.bD mU.out).trans o2);clear h2 o2;go_wp2;go_ret;exact ⟨rfl,H2.out,O2.out⟩
theorem acd{P:Nat}{T:Nat→Bool}(h:∀ j,P≤j→T j=true)(n:Nat)(hn:P≤n):gB T n=gB T P:=by
 obtain ⟨d,rfl⟩ : ∃ d,n=P+d:=⟨n - P,by omega⟩
 exact sF d (fun j h1 _=>h j h1)
def gZ(l:List Nat):List Value:=l.map fun (n:Nat)=>Value.int .i64 (n:Int)
theorem oF(a b:List Nat):gZ (a++b)=gZ a++gZ b:=by simp [gZ]
theorem PA(l:List Nat)(j:Nat)(h:j<l.length):(gZ l)[j]?=some (.int .i64 (l[j] : Int)):=by simp [gZ,h]
theorem Q5(T:Nat→Bool)(n:Nat):(gB T n).length≤n:=by rw [Kd];unfold fr;omega
theorem ZQ(T:Nat→Bool)(i:Nat):bits .xor .u64 IntKind.u64.max ((word T i:Nat):Int)=((zw T i 0:Nat):Int):=by
 have h:=bits_xor_u64_nat 18446744073709551615 (word T i) (by decide) (word_lt T i)
 rw [show IntKind.u64.max=((18446744073709551615:Nat):Int) by decide,h]
 refine congrArg (fun x:Nat=>(x:Int)) ?_
 apply eR
 intro j;rw [Nat.testBit_xor,show 18446744073709551615=2 ^ 64 - 1 by decide,Nat.testBit_two_pow_sub_one,eW,iF]
 by_cases hj:j<64 <;> simp [hj]
def fk(T:Nat→Bool)(P N:Nat):List Nat:=(gB T P).take N
theorem UE{T:Nat→Bool}{m t:Nat}(h1:∀ j,m≤j→j<m+t→T j=true)(h2:T (m+t)=false):gB T (m+t+1)=gB T m++[m+t]:=by
 rw [gB,sF t h1,h2];rfl
theorem TP(b g P:Nat)(T:Nat→Bool)(N:Nat)(w:World)(h:eU w b g P T)(hk:qo P T)(Uc:uO w):Calls prog 107 #[.pointer (some ⟨b,0,none⟩),.int .i64 N] w fun e w'=>∃ v,e = .returned v∧w'.ownsRow w.heap.size 3 1 v (fk T P N).length (gZ (fk T P N))∧Below w.heap.size w w':=by
 obtain ⟨i0,hi,nY,mR,pL⟩:=info_parts info3;have hn:=JO h.hi;have HF:Hid (gB T (64*nW P)=gB T P):=acd hk.up _ (Ed P);have H:=ab h;have CY:=ab Uc;clear h hk Uc;obtain ⟨n,hN⟩ : ∃ n,n=nW P:=⟨_,rfl⟩;rw [← hN] at hn HF;have HN:=ab hN;have c1:Hid (∀ wr,Below w.heap.size w wr→wr.cell? ⟨b,1,none⟩=some (.slice (some ⟨g,0,none⟩) n n)):=fun wr hb=>by
  have:=(H.out.below hb).c1;rw [← HN.out] at this;exact this
 have cw:Hid (∀ wr,Below w.heap.size w wr→∀ k,k<n→wr.cell? ⟨g,k,none⟩=some (.int .u64 (word T k:Int))):=fun wr hb k hk=>(H.out.below hb).cw k (by rw [← HN.out];exact hk)
 clear hN H;go_enter func107,ntmps107;go_wp2_with fail;go_loopw [5,6] (fun v i wr=>∃ k m:Nat,k≤n∧m≤64*k∧i = .int .i64 k∧(m=64*k∨(gB T m).length=N)∧(gB T m).length≤N∧wr.ownsRow w.heap.size 3 1 v (gB T m).length (gZ (gB T m))∧Below w.heap.size w wr) (fun _ i _=>n - (intOf i).toNat)
 case atStart=>exact ⟨0,0,aB _,aj _,rfl,.inl rfl,aB _,World.ownsRow_nil _ _ _ _,Below.refl _ _⟩
 case round =>
  obtain ⟨k,m,hk,hm,rfl,hor,hle,aE,bQ⟩:=hrel;have cc:=c1.out wr bQ;obtain ⟨a,c,rfl,-⟩:=gY aE;by_cases bO:k<n
  ·have cwk:=cw.out wr bQ k bO;have hkI:(k:Int)<(n:Int):=by omega
   by_cases Ba:(gB T m).length<N
   ·have hme:m=64*k:=by omega
    obtain ⟨z0,hz⟩ : ∃ z0,z0=zw T k 0:=⟨_,rfl⟩;have hx:=ZQ T k;rw [← hz] at hx;have hlI:((gB T m).length:Int)<(N:Int):=by omega
    have rz:=ab aE;have kB:=ab bQ;have HME:=ab hme;have HZ:=ab hz;clear aE bQ hor hme hz;generalize hL:(gB T m).length=L at *;have HL:=ab hL;clear hL hm;generalize word T k=x at *;generalize wr=W1 at *;go_wp2_with fail;clear hlI Ba hx cc cwk;go_loopw [5,7] (fun v z wr=>∃ q zz:Nat,q≤64∧Hid (zz=zw T k q)∧z = .int .u64 (zz:Int)∧Hid ((gB T (64*k+q)).length≤N)∧wr.ownsRow w.heap.size 3 1 v (gB T (64*k+q)).length (gZ (gB T (64*k+q)))∧Below w.heap.size w wr) (fun _ z _=>(intOf z).toNat)
    case atStart =>
     refine ⟨0,z0,aB _,HZ.out,rfl,?_,?_,kB.out⟩
     ·show _≤_
      rw [Nat.add_zero,← HME.out,HL.out];exact hle
     ·rw [Nat.add_zero,← HME.out,HL.out];exact rz.out
    case round =>
     clear rz kB HME HL HZ;obtain ⟨q,zz,hq,HZ,rfl,wR,aE,bQ⟩:=hrel;obtain ⟨a2,c2,rfl,-⟩:=gY aE;have Ic:(gB T (64*k+q)).length≤64*k+q:=Q5 _ _;by_cases hz:zz=0
     ·have abB:gB T (64*(k+1))=gB T (64*k+q):=by
       have h0:=HZ.out;rw [hz] at h0;have:=S3 h0.symm;rw [show 64*(k+1)=64*k+q+(64 - q) by omega]
       exact sF _ (fun j h1 h2=>by have:=this (j - 64*k) (by omega) (by omega);rw [show 64*k+(j - 64*k)=j by omega] at this;exact this)
      subst hz;have nV:=ab abB;have rz:=ab aE;have kB:=ab bQ;clear aE bQ abB Ic;generalize hL:(gB T (64*k+q)).length=L2 at *;have HL:=ab hL;clear hL;go_wp2;go_roundw
      case rel =>
       refine ⟨k+1,64*(k+1),by omega,by omega,by go_num,.inl rfl,?_,?_,kB.out⟩
       ·rw [nV.out,HL.out];exact wR.out
       ·rw [nV.out,HL.out];exact rz.out
      case measure=>simp [intOf];omega
     ·by_cases Ba:(gB T (64*k+q)).length<N
      ·have Xk:=hz;rw [HZ.out] at Xk;obtain ⟨t,h1,h2,h3,h4,h5,h6⟩:=S2 Xk;have aam:zz<18446744073709551616:=by have:=Vu T k q;have:=HZ.out;omega
       have HT:=ab (WN zz aam hz wr (CY.out.below bQ));have Zh:Lib.ctz 64 zz=t:=by rw [HZ.out];exact h1
       rw [Zh] at HT;have hzI:((zz:Int) != 0)=true:=by simp;omega
       have hlI:((gB T (64*k+q)).length:Int)<(N:Int):=by omega
       obtain ⟨z2,T2⟩ : ∃ z2,z2=zw T k (t+1):=⟨_,rfl⟩;have hand:bits .and .u64 (zz:Int) ((zz:Int) - 1)=(z2:Int):=by
        rw [show (zz:Int) - 1=((zz - 1:Nat):Int) by omega,bits_and_u64_nat _ _ aam (by omega),T2,← h6,HZ.out]
       have ahg:z2<zz:=by
        have hle:z2≤zz - 1:=by rw [T2,← h6,← HZ.out];exact Nat.and_le_right
        omega
       have nU:Hid (gB T (64*k+(t+1))=gB T (64*k+q)++[64*k+t]):=by
        show _=_
        have:=UE (T:=T) (m:=64*k+q) (t:=t - q) (fun j a b=>by have:=h5 (j - 64*k) (by omega) (by omega);rw [show 64*k+(j - 64*k)=j by omega] at this;exact this) (by rw [show 64*k+q+(t - q)=64*k+t by omega];exact h4)
        rw [show 64*k+q+(t - q)=64*k+t by omega] at this
        exact this
       have HZ2:=ab T2;obtain ⟨p,hp⟩ : ∃ p,p=64*k+t:=⟨_,rfl⟩;have H8:IntKind.i64.wrap ((k:Int)*64+(t:Int))=(p:Int):=by rw [IntKind.wrap_i64];omega
       have Gd:p<2000000:=by omega
       rw [← hp] at nU;have kB:=ab bQ;clear Zh h1 h4 h5 h6 Xk bQ T2 hz;generalize hL:(gB T (64*k+q)).length=L2 at *;have HL:=ab hL;have jR:L2≤1048640:=by omega
       have ajZ:t<64:=h3;have rz:=ab aE;clear hL Ic h2 h3 hp aE;go_wp2_with fail;refine HT.out.mono ?_
       rintro e w1 ⟨rfl,rfl⟩;clear HT;go_wp2_with (first
        | (at_builtin;refine wpList_append_lies _ rfl _ _ 69 rfl w.heap.size 3 i0 (.int .i64 0) 1 8 underlying69 hi nY mR pL rfl (by decide) _ _ _ rfl (rz.out.alloc _) ⟨wr.heap.size,0,none⟩ 1 1 [.int .i64 (p:Int)] rfl rfl ?c1 ?c2 ?c3 ?c4 ?c5 ?c6 (wr.heap.size+1) ?c7 ?_))
       case c1 =>
        intro j u hj;match j,hj with
        | 0,hj=>simp at hj;subst hj;simp [Addr.add]
       case c2=>intro u hu;simp at hu;subst hu;rfl
       case c3=>decide
       case c4=>unfold maxLen;omega
       case c5=>omega
       case c6=>have:=kB.out.size;simp;omega
       case c7=>simp
       intro g' cap w1 gr E0 sB hlg;have bT:Hid (Below w.heap.size w w1):=(kB.out.alloc (by have:=kB.out.size;omega) _).grown E0 (by have:=kB.out.size;simp;omega) (fun j hj=>(rz.out.lt j hj).1)
       have jx:Hid (w1.ownsRow w.heap.size 3 1 (.slice (some ⟨g',0,none⟩) (L2+1) cap) (L2+1) (gZ (gB T (64*k+(t+1))))):=by
        show World.ownsRow _ _ _ _ _ _ _
        rw [nU.out,oF];exact gr
       have zi:Hid ((gB T (64*k+(t+1))).length=L2+1):=by
        show _=_
        rw [nU.out,ae,HL.out];rfl
       clear gr E0 sB hlg rz kB H8;go_wp2;go_roundw
       case rel=>exact ⟨t+1,z2,by omega,HZ2,rfl,by show _≤_;rw [zi.out];omega,by rw [zi.out];exact jx.out,bT.out⟩
       case measure=>simp [intOf];omega
      ·have hlI:¬ ((gB T (64*k+q)).length:Int)<(N:Int):=by omega
       have hzI:((zz:Int) != 0)=true:=by simp;omega
       have aeU:=wR.out;have heq:(gB T (64*k+q)).length=N:=by omega
       have HEQ:=ab heq;have rz:=ab aE;have kB:=ab bQ;clear aE bQ heq aeU Ic;generalize hL:(gB T (64*k+q)).length=L2 at *;have HL:=ab hL;clear hL;go_wp2;go_roundw
       case rel =>
        refine ⟨k+1,64*k+q,by omega,by omega,by go_num,.inr ?_,?_,?_,kB.out⟩
        ·rw [HL.out];exact HEQ.out
        ·rw [HL.out];exact wR.out
        ·rw [HL.out];exact rz.out
       case measure=>simp [intOf];omega
   ·have heq:(gB T m).length=N:=by omega
    have hlI:¬ ((gB T m).length:Int)<(N:Int):=by omega
    have cz:Hid (fk T P N=gB T m):=by
     show (gB T P).take N=_
     rw [← HF.out];obtain ⟨r,hr⟩:=Kc T (show m≤64*n by omega)
     rw [hr,← heq,ep]
    have rz:=ab aE;have kB:=ab bQ;clear aE bQ heq hor;generalize hL:(gB T m).length=L at *;have HL:=ab hL;clear hL;go_wp2;go_ret;exact ⟨_,rfl,by rw [cz.out,HL.out];exact rz.out,kB.out⟩
  ·have nG:k=n:=by omega
   have hkI:¬ (k:Int)<(n:Int):=by omega
   have cz:Hid (fk T P N=gB T m):=by
    show (gB T P).take N=_
    rw [← HF.out];rcases hor with h | h
    ·rw [← nG,← h,ao hle]
    ·obtain ⟨r,hr⟩:=Kc T (show m≤64*n by omega)
     rw [hr,← h,ep]
   have rz:=ab aE;have kB:=ab bQ;clear aE bQ hor nG hm;generalize hL:(gB T m).length=L at *;have HL:=ab hL;clear hL;go_wp2;go_ret;exact ⟨_,rfl,by rw [cz.out,HL.out];exact rz.out,kB.out⟩
def ld(P:Nat)(T:Nat→Bool)(n:Int):Option Nat × List Nat × (Nat→Bool) :=
 if n<0 then (some 0,[],T) else if (gB T P).length<n.toNat then (some 6,[],T) else (none,fk T P n.toNat,kL T (fk T P n.toNat))
theorem se{T:Nat→Bool}{P N j:Nat}(h:j ∈ fk T P N):j<P∧T j=false:=(Cr T).1 (bJ h)
theorem yb(T:Nat→Bool)(P N:Nat):(fk T P N).length=min N (gB T P).length:=by unfold fk;rw [ag]
theorem OF(base:Nat)(A:Nat→Addr)(b g P:Nat)(T:Nat→Bool)(n:Int)(w:World)(h:eU w b g P T)(hk:qo P T)(hE:Env base A w):Calls prog 70 #[.pointer (some ⟨b,0,none⟩),.int .i64 n] w fun e w'=>∃ v,e = .returned (.tuple #[v,im A (ld P T n).1])∧w'.ownsRow w.heap.size 3 1 v (ld P T n).2.1.length (gZ (ld P T n).2.1)∧eU w' b g P (ld P T n).2.2∧gv (fun k=>k=g) w w':=by
 by_cases J4:n<0
 ·have HD:Hid (ld P T n=(some 0,[],T)):=by show ld P T n=_;simp [ld,J4]
  rw [HD.out];have c:w.cell? ⟨0,0,none⟩=some (.iface 360 (.pointer (some (A 0)))):=hE.e 0 (by decide)
  have H:=ab h;clear h hk hE;go_enter func70,ntmps70;go_wp2_with fail;go_quiet (fail)
  have hb:Below w.heap.size w (w.drewN nq):=⟨rfl,rfl,rfl,aj _,fun _ _=>rfl⟩
  have HB:=ab hb;clear hb;go_wp2_with fail;go_ret2;exact ⟨_,rfl,World.ownsRow_nil _ _ _ _,H.out.below HB.out,gv.bD HB.out⟩
 ·obtain ⟨N,rfl⟩ : ∃ N:Nat,n=N:=⟨n.toNat,by omega⟩
  have HL:=ab (TP b g P T N w h hk hE.tab);have H:=ab h;have HE:=ab hE;have hP:=h.hi;have yy:=h.TN;have HG:=ab yy;clear h yy hE;by_cases hf:(gB T P).length<N
  ·have HD:Hid (ld P T (N:Int)=(some 6,[],T)):=by show ld P T (N:Int)=_;simp [ld,hf]
   rw [HD.out];have hlen:(fk T P N).length<N:=by rw [yb];omega
   have hlI:((fk T P N).length:Int)<(N:Int):=by omega
   clear hk hf;generalize fk T P N=l at *;go_enter func70,ntmps70;go_wp2_with fail;refine HL.out.mono ?_
   rintro e w1 ⟨v,rfl,aE,hb⟩;obtain ⟨a,c,rfl,-⟩:=gY aE;have c6:w1.cell? ⟨6,0,none⟩=some (.iface 360 (.pointer (some (A 6)))):=(HE.out.up hb).e 6 (by decide)
   have HB:=ab hb;clear hb aE HL;go_wp2_with fail;go_quiet (fail)
   have bL:Hid (Below w.heap.size w (w1.drewN nq)):=⟨HB.out.os,HB.out.tape,HB.out.output,HB.out.size,HB.out.block⟩;go_wp2_with fail;go_ret2;exact ⟨_,rfl,World.ownsRow_nil _ _ _ _,H.out.below bL.out,gv.bD bL.out⟩
  ·have HD:Hid (ld P T (N:Int)=(none,fk T P N,kL T (fk T P N))):=by show ld P T (N:Int)=_;simp [ld,hf]
   rw [HD.out];have hlen:(fk T P N).length=N:=by rw [yb];omega
   have HLT:Hid (∀ j ∈ fk T P N,j<P):=fun j hj=>(se hj).1
   have hNP:N≤1048576:=by have:=Q5 T P;omega
   clear hk hf;generalize fk T P N=l at *;subst hlen;go_enter func70,ntmps70;go_wp2_with fail;refine HL.out.mono ?_
   rintro e w1 ⟨v,rfl,aE,hb⟩;obtain ⟨a,c,rfl,VJ⟩:=gY aE;have HB:=ab hb;have rz:=ab aE;have Zt:=ab VJ;clear hb aE VJ HL;obtain ⟨N,hN⟩ : ∃ N,N=l.length:=⟨_,rfl⟩;rw [← hN] at hNP rz Zt ⊢;have HN:=ab hN;clear hN;go_wp2_with fail;go_loopw [22] (fun i wr=>∃ k:Nat,k≤N∧i = .int .i64 k∧eU wr b g P (kL T (l.take k))∧gv (fun k=>k=g) w1 wr) (fun i _=>N - (intOf i).toNat)
   case atStart=>exact ⟨0,aB _,rfl,by rw [List.take_zero,Ou];exact H.out.below HB.out,gv.refl _ _⟩
   case round =>
    obtain ⟨k,hk,rfl,hm,ho⟩:=hrel;by_cases bO:k<N
    ·obtain ⟨g2,rfl⟩:=Zt.out (by omega)
     have lP:k<l.length:=by rw [← HN.out];exact bO
     have hgg:g2≠g:=by have:=(eL rz.out g2 rfl).1;have:=HG.out;omega
     have ce:w1.cell? ⟨g2,k,none⟩=some (.int .i64 (l[k] : Int)):=by rw [rz.out.cellAt k (by omega)];exact PA l k lP
     have ce2:wr.cell? ⟨g2,k,none⟩=some (.int .i64 (l[k] : Int)):=ho.cell ce hgg;have hlP:=HLT.out l[k] (aJ lP);have HS:=ab (BX b g P _ l[k] wr hm (by have:=Ed P;omega))
     have HSN:Hid (nX (kL T (l.take k)) l[k] true=kL T (l.take (k+1))):=by
      show _=_
      rw [KJ,ax lP]
     rw [HSN.out] at HS;generalize l[k]=x at *;have HO:=ab ho;have hkI:(k:Int)<(N:Int):=by omega
     clear hm ho ce lP;go_wp2_with fail;refine HS.out.mono ?_
     rintro e w2 ⟨rfl,h2,o2⟩;have H2:=ab h2;have O2:=ab (HO.out.trans o2);clear h2 o2 HS HO ce2;go_wp2;go_roundw
     case rel=>exact ⟨k+1,by omega,by go_num,H2.out,O2.out⟩
     case measure=>simp [intOf];omega
    ·have he:k=N:=by omega
     have hkI:¬ (k:Int)<(N:Int):=by omega
     have H1:Hid (eU wr b g P (kL T l)):=by
      rw [he,HN.out,List.take_length] at hm;exact hm
     have O1:=ab ho;clear hm ho;go_wp2;go_ret2;refine ⟨_,rfl,?_,H1.out,(gv.bD HB.out).trans O1.out⟩;refine AJ ?_ O1.out (fun k NT=>?_)
     ·show w1.ownsRow _ _ _ _ _ _
      rw [← HN.out];exact rz.out
     ·have:=(eL rz.out k NT).1;have:=HG.out;show ¬ k=g
      omega
theorem info68:(prog.info? 40).map (fun i=>(i.zero,i.size,i.bytes))=some (some (.int .u64 0),1,8):=by kernel_rfl
theorem I9:∀ n,wd (fun _=>false) n=0
 | 0=>rfl
 | n+1=>by rw [wd,I9 n];rfl
theorem Hl(n:Nat):(madeCells (Value.int .u64 0).cells (n*1)).toList=kD (fun _=>false) n:=by
 apply lC
 intro i;by_cases hi:i<n
 ·rw [iE _ _ _ hi];simp [madeCells,Value.cells,hi,word,I9,Nat.mod_one]
 ·rw [bu (by simp [madeCells];omega),bu (by rw [gz];omega)]
theorem Hk(w:World)(n:Nat)(hn:n≤16384):∃ w',(Instr.makeSlice 129 (.int .i64 (n:Int)) (.int .i64 (n:Int))).run prog w = .ok (.slice (some ⟨w.heap.size,0,none⟩) n n) w'∧w'.ownsRow w.heap.size 40 1 (.slice (some ⟨w.heap.size,0,none⟩) n n) n (kD (fun _=>false) n)∧Below w.heap.size w w'∧w.heap.size<w'.heap.size:=by
 obtain ⟨i0,hi,hz,b8,kQ⟩:=info_parts info68;obtain ⟨w',hr,ho,hg⟩:=run_makeSlice_full (P:=prog) w w.heap.size 129 40 i0 _ 1 underlying129 hi hz b8   .i64 .i64 n (by omega) (by rw [kQ];omega) (by unfold maxLen;omega) (aj _)
 rw [Hl] at ho;exact ⟨w',hr,ho,(Below.refl _ _).grown hg (aj _) (fun j h=>by cases h),(eL ho _ rfl).2.1⟩
def T0(P:Nat):Nat→Bool:=fun j=>decide (j<2) || decide (P≤j)
theorem Vz{P:Nat}(h1:4≤P)(h2:P≤1048576):qo P (T0 P):=⟨h1,h2,by simp [T0],by simp [T0],fun j hj=>by simp [T0,hj]⟩
theorem Gt{T T':Nat→Bool}{n i:Nat}(h:∀ j,j<64*n→T j=T' j)(hi:i<n):word T i=word T' i:=by
 apply eR
 intro j;rw [eW,eW];by_cases hj:j<64
 ·rw [h _ (by omega)]
 ·simp [hj]
theorem BK{T T':Nat→Bool}{n:Nat}(h:∀ j,j<64*n→T j=T' j):kD T n=kD T' n:=by
 apply lC
 intro i;by_cases hi:i<n
 ·rw [iE _ _ _ hi,iE _ _ _ hi,Gt h hi]
 ·rw [bu (by rw [gz];omega),bu (by rw [gz];omega)]
theorem eU.congr{w:World}{b g P:Nat}{T T':Nat→Bool}(h:eU w b g P T)(he:∀ j,j<64*nW P→T j=T' j):eU w b g P T' :=
 ⟨h.dx,by rw [← BK he];exact h.St,h.hi⟩
theorem wA(P:Nat)(w:World)(h4:4≤P)(hP:P≤1048576):Calls prog 39 #[.int .i64 (P:Int)] w fun e w'=>∃ b g,e = .returned (.tuple #[.pointer (some ⟨b,0,none⟩),.nilIface])∧w.heap.size≤b∧w.heap.size≤g∧eU w' b g P (T0 P)∧Below w.heap.size w w':=by
 have hn:=JO hP;have n7:=Ed P;obtain ⟨w1,nZ,kP,aO,ja⟩:=Hk w (nW P) hn;have fo:eU (w1.alloc (.cells #[.int .i64 P,.slice (some ⟨w.heap.size,0,none⟩) (nW P) (nW P)] 131)) w1.heap.size w.heap.size P (fun _=>false) :=
  ⟨heap_alloc_new _ _,Lu (G4 kP (ai _ _)) (aB _),hP⟩
 have HS:=ab (xu w1.heap.size w.heap.size P _ 0 2 _ fo (by omega) (by omega))
 have bT:Hid (Below w.heap.size w (w1.alloc (.cells #[.int .i64 P,.slice (some ⟨w.heap.size,0,none⟩) (nW P) (nW P)] 131))):=aO.alloc aO.size _;have mf:=ab ja;have Im:((P:Int)+63) / 64=(nW P:Int):=by unfold nW;omega
 have hq:((P:Int)+64 - 1) / 64=(nW P:Int):=by unfold nW;omega
 have HNW:Hid (P≤64*nW P):=n7;clear kP aO ja fo n7;obtain ⟨n,hN⟩ : ∃ n,n=nW P:=⟨_,rfl⟩;rw [← hN] at hn nZ HS bT Im hq;have HN:=ab hN;clear hN;go_enter func39,ntmps39;go_wp2_with fail;refine HS.out.mono ?_
 rintro e w2 ⟨rfl,h2,o2⟩;have lD:=ab (xu w1.heap.size w.heap.size P _ P (64*nW P) _ h2 HNW.out (aj _));have c1:=h2.c1;rw [← HN.out] at c1 lD;have bL:Hid (Below w.heap.size w w2):=by
  have hb:Below w.heap.size (w1.alloc (.cells #[.int .i64 P,.slice (some ⟨w.heap.size,0,none⟩) n n] 131)) w2:=o2.below (fun k hk=>by show w.heap.size≤k;rw [show k=w.heap.size from hk];exact aj _) bT.out.size
  exact bT.out.trans hb
 clear h2 o2 HS;generalize hW:w1.heap.size=b1 at *;have HWB:=ab hW;clear hW nZ;have h64:IntKind.i64.wrap ((n:Int)*64)=((64*n:Nat):Int):=by rw [IntKind.wrap_i64];omega
 obtain ⟨m,hm⟩ : ∃ m,m=64*n:=⟨_,rfl⟩;rw [← hm] at h64 lD;have HM:=ab hm;have hmI:(n:Int)*64=(m:Int):=by omega
 clear hm;go_wp2_with fail;refine lD.out.mono ?_
 rintro e w3 ⟨rfl,h3,o3⟩;have X2:=h3.congr (T':=T0 P) (fun j hj=>by
  unfold Db T0;have hm:=HM.out;rw [HN.out] at hm;have:j<m:=by omega
  simp [this])
 have H3:=ab X2;have eH:Hid (Below w.heap.size w w3):=bL.out.trans (o3.below (fun k hk=>by show w.heap.size≤k;rw [show k=w.heap.size from hk];exact aj _) bL.out.size)
 clear h3 X2 o3 lD;go_wp2_with fail;go_ret2;exact ⟨_,_,rfl,by have:=HWB.out;have:=mf.out;omega,aj _,H3.out,eH.out⟩
end Q
end Go.Proofs.YtihmgigfkmofnaaGreatDoor
