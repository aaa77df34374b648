import Derived.Deep.QuietTactic
import Derived.Lib.TrailingZeros
import Derived.Laws.Bits64b
import Derived.Test.YtihmgigfkmofnaaGreatDoorG05
import Derived.Laws.OwnMore
import Derived.Laws.Tables
set_option maxHeartbeats 2000000
set_option maxRecDepth 100000
open Go.Proofs.Tryz
namespace Go.Proofs.YtihmgigfkmofnaaGreatDoor
namespace Q
open Go.RowKit
structure gm(F:Nat→Prop)(w w':World):Prop where
 os:w'.os=w.os
 tape:w'.tape=w.tape
 output:w'.output=w.output
 size:w.heap.size≤w'.heap.size
 block:∀ k,k<w.heap.size→¬ F k→w'.heap[k]?=w.heap[k]?
theorem gm.refl(F:Nat→Prop)(w:World):gm F w w:=⟨rfl,rfl,rfl,aj _,fun _ _ _=>rfl⟩
theorem gm.trans{F:Nat→Prop}{a b c:World}(h:gm F a b)(k:gm F b c):gm F a c :=
 ⟨k.os.trans h.os,k.tape.trans h.tape,k.output.trans h.output,aq h.size k.size,fun i hi hn=>(k.block i (al hi h.size) hn).trans (h.block i hi hn)⟩
theorem gm.bx{F:Nat→Prop}{w w':World}(h:Below w.heap.size w w'):gm F w w':=⟨h.os,h.tape,h.output,h.size,fun k hk _=>h.block k hk⟩
theorem gm.set{F:Nat→Prop}{g:Nat}(hF:F g)(o:Nat)(w:World)(u:Value):gm F w (w.setCell ⟨g,o,none⟩ u) :=
 ⟨rfl,rfl,rfl,by simp [World.setCell],fun k _ hn=>Below.heap_setCell w ⟨g,o,none⟩ u k (fun e=>hn (by rw [e];exact hF))⟩
theorem gm.cell{F:Nat→Prop}{w w':World}(h:gm F w w'){a:Addr}{v:Value}(hc:w.cell? a=some v)(hn:¬ F a.block):w'.cell? a=some v :=
 (World.cell?_of_block (a:=a) (h.block a.block (World.block_lt_of_cell? w a hc) hn)).trans hc
theorem gm.below{F:Nat→Prop}{w w':World}{base:Nat}(h:gm F w w')(hF:∀ k,F k→base≤k)(hb:base≤w.heap.size):Below base w w' :=
 ⟨h.os,h.tape,h.output,h.size,fun k hk=>h.block k (al hk hb) (fun hf=>by have:=hF k hf;omega)⟩
theorem eA{w:World}{base e size n:Nat}{v:Value}{xs:List Value}(h:w.ownsRow base e size v n xs)(k:Nat)(hk:v.ownBlock=some k):base≤k∧k<w.heap.size∧∃ cur,w.heap[k]?=some (.cells cur e (0,0)):=by
 rcases h.2 with ⟨h',_⟩ | ⟨g,cap,cur,h',hb,hg,_⟩
 ·rw [h'] at hk;simp [Value.ownBlock] at hk
 ·rw [h'] at hk;simp only [Value.ownBlock,Option.some.injEq] at hk;subst hk;exact ⟨hb,(Array.getElem?_eq_some_iff.1 hg).1,cur,hg⟩
theorem eK{w w':World}{b e size n:Nat}{v:Value}{xs:List Value}(ho:w.ownsRow b e size v n xs)(hb:∀ g,v.ownBlock=some g→w'.heap[g]?=w.heap[g]?):w'.ownsRow b e size v n xs:=by
 refine ⟨ho.1,?_⟩;rcases ho.2 with h' | ⟨g,cap,cur,h',h1,hg,hr⟩
 ·exact .inl h'
 ·exact .inr ⟨g,cap,cur,h',h1,(hb g (by rw [h'];rfl)).trans hg,hr⟩
theorem Am{F:Nat→Prop}{w w':World}{b e size n:Nat}{v:Value}{xs:List Value}(ho:w.ownsRow b e size v n xs)(h:gm F w w')(hn:∀ g,v.ownBlock=some g→¬ F g):w'.ownsRow b e size v n xs :=
 eK ho fun g hg=>h.block g (eA ho g hg).2.1 (hn g hg)
theorem xo{w w':World}{b e size n:Nat}{v:Value}{xs:List Value}(ho:w.ownsRow b e size v n xs)(h:Below w.heap.size w w'):w'.ownsRow b e size v n xs :=
 eK ho fun g hg=>h.block g (eA ho g hg).2.1
theorem ia{w:World}{base e size n:Nat}{v:Value}{xs:List Value}(h:w.ownsRow base e size v n xs):∃ a c,v = .slice a n c∧(0<n→∃ g,a=some ⟨g,0,none⟩):=by
 rcases h.2 with ⟨h',h0⟩ | ⟨g,cap,cur,h',_⟩
 ·exact ⟨none,0,by rw [h',h0],fun h=>by omega⟩
 ·exact ⟨_,cap,h',fun _=>⟨g,rfl⟩⟩
theorem Ks{w:World}{base Uu e size n:Nat}{v:Value}{xs:List Value}(h:w.ownsRow base e size v n xs)(hb:Uu≤base):w.ownsRow Uu e size v n xs:=by
 refine ⟨h.1,?_⟩;rcases h.2 with h' | ⟨g,cap,cur,h',h1,hr⟩
 ·exact .inl h'
 ·exact .inr ⟨g,cap,cur,h',by omega,hr⟩
def wd:(Nat→Bool)→Nat→Nat
 | _,0=>0
 | f,n+1=>(if f 0 then 1 else 0)+2*wd (fun j=>f (j+1)) n
theorem qk:∀ (n:Nat) (f:Nat→Bool) (j:Nat),(wd f n).testBit j=(decide (j<n) && f j)
 | 0,f,j=>by simp [wd]
 | n+1,f,0=>by
  rw [Nat.testBit_zero,wd];cases h:f 0 <;> simp <;> omega
 | n+1,f,j+1=>by
  have ih:=qk n (fun j=>f (j+1)) j
  rw [Nat.testBit_succ,wd];have e:((if f 0=true then 1 else 0)+2*wd (fun j=>f (j+1)) n) / 2=wd (fun j=>f (j+1)) n:=by split <;> omega
  rw [e,ih];simp
theorem MP:∀ (n:Nat) (f:Nat→Bool),wd f n<2 ^ n
 | 0,f=>by simp [wd]
 | n+1,f=>by
  have ih:=MP n (fun j=>f (j+1))
  rw [wd,Nat.pow_succ];split <;> omega
def word(T:Nat→Bool)(i:Nat):Nat:=wd (fun j=>T (64*i+j)) 64
theorem word_lt(T:Nat→Bool)(i:Nat):word T i<18446744073709551616:=MP 64 _
theorem eY(T:Nat→Bool)(i j:Nat):(word T i).testBit j=(decide (j<64) && T (64*i+j)):=qk 64 _ j
def nO(T:Nat→Bool)(id:Nat)(b:Bool):Nat→Bool:=fun j=>if j=id then b else T j
theorem MS(T:Nat→Bool)(id:Nat)(b:Bool):nO T id b id=b:=by simp [nO]
theorem MU(T:Nat→Bool)(id j:Nat)(b:Bool)(h:j≠id):nO T id b j=T j:=by simp [nO,h]
theorem CL(T:Nat→Bool)(id:Nat)(b:Bool)(i:Nat)(h:i≠id / 64):word (nO T id b) i=word T i:=by
 apply eR
 intro j;rw [eY,eY];by_cases hj:j<64
 ·rw [MU _ _ _ _ (by omega)]
 ·simp [hj]
theorem qi(id:Nat):2 ^ (id % 64)<18446744073709551616:=Nat.pow_lt_pow_right (by decide) (by omega:id % 64<64)
theorem MO(T:Nat→Bool)(id:Nat):word T (id / 64) ||| 2 ^ (id % 64)=word (nO T id true) (id / 64):=by
 apply eR
 intro j;rw [Nat.testBit_or,eY,eY,Nat.testBit_two_pow];by_cases hj:j<64
 ·by_cases he:64*(id / 64)+j=id
  ·rw [he,MS];have:id % 64=j:=by omega
   simp [hj,this]
  ·rw [MU _ _ _ _ he];have:¬ id % 64=j:=by omega
   simp [hj,this]
 ·have:¬ id % 64=j:=by omega
  simp [hj,this]
theorem E5(x i:Nat):x &&& 2 ^ i=if x.testBit i then 2 ^ i else 0:=by
 apply eR
 intro j;rw [Nat.testBit_and,Nat.testBit_two_pow];by_cases h:i=j
 ·subst h;cases hx:x.testBit i <;> simp
 ·split <;> simp [h]
theorem JN(T:Nat→Bool)(id:Nat):(word T (id / 64) &&& 2 ^ (id % 64)=0)↔T id=false:=by
 rw [E5,eY];have h1:id % 64<64:=by omega
 have h2:64*(id / 64)+id % 64=id:=by omega
 have hp:0<2 ^ (id % 64):=Nat.two_pow_pos _;rw [h2];cases T id <;> simp [h1]
def tr(f:Nat→Bool):Nat→Nat
 | 0=>0
 | n+1=>tr f n+(if f n then 1 else 0)
theorem TL(f:Nat→Bool):∀ n,tr f n≤n
 | 0=>aj _
 | n+1=>by have:=TL f n;rw [tr];split <;> omega
def fr(f:Nat→Bool)(n:Nat):Nat:=n - tr f n
def fY(f:Nat→Bool):Nat→List Nat
 | 0=>[]
 | n+1=>fY f n++(if f n then [] else [n])
theorem Jp(f:Nat→Bool):∀ n,(fY f n).length=fr f n
 | 0=>by simp [fY,fr,tr]
 | n+1=>by
  have h:=Jp f n;have h2:=TL f n;unfold fr at h ⊢;rw [fY,ae,h,tr];split <;> simp <;> omega
theorem su{f:Nat→Bool}{m:Nat}:∀ n,(∀ j,m≤j→j<m+n→f j=true)→fY f (m+n)=fY f m
 | 0,_=>rfl
 | n+1,h=>by rw [← ed,fY,su n (fun j h1 h2=>h j h1 (by omega)),h (m+n) (by omega) (by omega)];simp
theorem Jo(f:Nat→Bool){m n:Nat}(h:m≤n):∃ r,fY f n=fY f m++r:=by
 obtain ⟨d,rfl⟩ : ∃ d,n=m+d:=⟨n - m,by omega⟩
 clear h;induction d with
 | zero=>exact ⟨[],by simp⟩
 | succ d ih =>
  obtain ⟨r,hr⟩:=ih;exact ⟨r++(if f (m+d) then [] else [m+d]),by rw [← ed,fY,hr,ax]⟩
theorem BZ(f:Nat→Bool):∀ {n j:Nat},j ∈ fY f n↔j<n∧f j=false
 | 0,j=>by simp [fY]
 | n+1,j=>by
  rw [fY,cN,BZ f];by_cases hj:j=n
  ·subst hj;cases h:f j <;> simp
  ·cases h:f n <;> simp [hj] <;> omega
def zw(T:Nat→Bool)(i k:Nat):Nat:=wd (fun j=>decide (k≤j) && !T (64*i+j)) 64
theorem TI(T:Nat→Bool)(i k:Nat):zw T i k<18446744073709551616:=MP 64 _
theorem iE(T:Nat→Bool)(i k j:Nat):(zw T i k).testBit j=(decide (j<64) && (decide (k≤j) && !T (64*i+j))):=qk 64 _ j
theorem Rk{T:Nat→Bool}{i k:Nat}(h:zw T i k=0):∀ j,k≤j→j<64→T (64*i+j)=true:=by
 intro j h1 h2;have:=iE T i k j;rw [h] at this;simpa [h1,h2] using this
theorem LK(t m j:Nat):((2 ^ t*(2*m+1)) &&& (2 ^ t*(2*m+1) - 1)).testBit j=((2 ^ t*(2*m+1)).testBit j && !decide (j=t)):=by
 have hp:0<2 ^ t:=Nat.two_pow_pos t;have e:2 ^ t*(2*m+1) - 1=2 ^ t*(2*m)+(2 ^ t - 1):=by
  rw [Nat.mul_add,Nat.mul_one];omega
 rw [Nat.testBit_and,e];by_cases hj:j<t
 ·have h0:(2 ^ t*(2*m+1)).testBit j=false:=by
   rw [j9];simp;omega
  rw [h0];simp
 ·have h1:(2 ^ t*(2*m)+(2 ^ t - 1)).testBit j=(2*m).testBit (j - t):=by
   rw [Nat.testBit_two_pow_mul_add _ (by omega)]
   simp [hj]
  have h2:(2 ^ t*(2*m+1)).testBit j=(2*m+1).testBit (j - t):=by
   rw [j9];simp [show t≤j by omega]
  rw [h1,h2];by_cases he:j=t
  ·subst he;rw [dI,Nat.testBit_zero,Nat.testBit_zero];simp
  ·obtain ⟨d,hd⟩ : ∃ d,j - t=d+1:=⟨j - t - 1,by omega⟩
   rw [hd,Nat.testBit_succ,Nat.testBit_succ,show (2*m+1) / 2=m by omega,show 2*m / 2=m by omega]
   simp [he]
theorem Rj{T:Nat→Bool}{i k:Nat}(h:zw T i k≠0):∃ t,Lib.ctz 64 (zw T i k)=t∧k≤t∧t<64∧T (64*i+t)=false∧(∀ j,k≤j→j<t→T (64*i+j)=true)∧zw T i k &&& (zw T i k - 1)=zw T i (t+1):=by
 obtain ⟨m,hm,hk⟩:=Lib.ctzFrom_spec 64 (zw T i k) (by omega) (TI T i k)
 have e:Lib.ctz 64 (zw T i k)=Lib.ctzFrom 64 (zw T i k):=by simp [Lib.ctz,h]
 generalize ht:Lib.ctzFrom 64 (zw T i k)=t at hm hk;rw [ht] at e;have hb:∀ j,(zw T i k).testBit j=(2 ^ t*(2*m+1)).testBit j:=fun j=>by rw [← hm]
 have h1:(zw T i k).testBit t=true:=by
  rw [hb,j9];simp [Nat.testBit_zero]
 have h2:∀ j,j<t→(zw T i k).testBit j=false:=fun j hj=>by
  rw [hb,j9];simp;omega
 rw [iE] at h1;simp only [hk,decide_true,Bool.true_and,cA,decide_eq_true_eq,Bool.not_eq_true'] at h1;refine ⟨t,e,h1.1,hk,h1.2,fun j a b=>?_,?_⟩
 ·have:=h2 j b;rw [iE] at this;simpa [show j<64 by omega,a] using this
 ·apply eR
  intro j;have hc:=LK t m j;rw [← hm] at hc;rw [hc,iE,iE];by_cases hj:j<64
  ·by_cases h3:j<t
   ·have h4:=h2 j h3;rw [iE] at h4;rw [h4];simp [show ¬ t+1≤j by omega]
   ·by_cases h4:j=t
    ·subst h4;simp;intro _ h;omega
    ·simp [hj,h4,show k≤j by omega,show t+1≤j by omega]
  ·simp [hj]
def g1(b:Nat):Nat:=((b / 2) &&& 85)+(b &&& 85)
def g2(b:Nat):Nat:=((b / 4) &&& 51)+(b &&& 51)
def g3(b:Nat):Nat:=b / 16+b % 16
theorem d1:∀ b:Fin 256,g1 b.val<256∧g2 (g1 b.val)<256∧g2 (g1 b.val) % 16≤4∧g2 (g1 b.val) / 16≤4∧g3 (g2 (g1 b.val))=tr b.val.testBit 8:=by decide +kernel
def nW(P:Nat):Nat:=(P+63) / 64
def j6(T:Nat→Bool)(n:Nat):List Value:=(List.range n).map fun i=>.int .u64 (word T i:Int)
theorem gw(T:Nat→Bool)(n:Nat):(j6 T n).length=n:=by simp [j6]
theorem iD(T:Nat→Bool)(n i:Nat)(h:i<n):(j6 T n)[i]?=some (.int .u64 (word T i:Int)):=by simp [j6,h]
theorem FN(T:Nat→Bool)(n id:Nat)(x:Bool):(j6 T n).set (id / 64) (.int .u64 (word (nO T id x) (id / 64):Int))=j6 (nO T id x) n:=by
 apply qd
 intro i;by_cases hi:i<n
 ·by_cases he:i=id / 64
  ·subst he;rw [List.getElem?_set_self (by rw [gw];exact hi),iD _ _ _ hi]
  ·rw [List.getElem?_set_ne (fun h=>he h.symm),iD _ _ _ hi,iD _ _ _ hi,CL _ _ _ _ he]
 ·rw [bB (by rw [cu,gw];omega),bB (by rw [gw];omega)]
structure eU(w:World)(b g P:Nat)(T:Nat→Bool):Prop where
 dy:w.heap[b]?=some (.cells #[.int .i64 P,.slice (some ⟨g,0,none⟩) (nW P) (nW P)] 131 (0,0))
 QR:w.ownsRow 0 40 1 (.slice (some ⟨g,0,none⟩) (nW P) (nW P)) (nW P) (j6 T (nW P))
 hi:P≤1048576
theorem lt_of_heap{w:World}{b:Nat}{o:Obj}(h:w.heap[b]?=some o):b<w.heap.size:=(Array.getElem?_eq_some_iff.1 h).1
theorem eU.TR{w:World}{b g P:Nat}{T:Nat→Bool}(h:eU w b g P T):b<w.heap.size:=lt_of_heap h.dy
theorem eU.TQ{w:World}{b g P:Nat}{T:Nat→Bool}(h:eU w b g P T):g<w.heap.size:=(eA h.QR g rfl).2.1
theorem eU.ne{w:World}{b g P:Nat}{T:Nat→Bool}(h:eU w b g P T):b≠g:=fun e=>by
 obtain ⟨cur,hc⟩:=(eA h.QR g rfl).2.2;have:=h.dy;rw [e,hc] at this;simp at this
theorem eU.c0{w:World}{b g P:Nat}{T:Nat→Bool}(h:eU w b g P T):w.cell? ⟨b,0,none⟩=some (.int .i64 P):=cell_of_row w b 0 _ _ _ h.dy
theorem eU.c1{w:World}{b g P:Nat}{T:Nat→Bool}(h:eU w b g P T):w.cell? ⟨b,1,none⟩=some (.slice (some ⟨g,0,none⟩) (nW P) (nW P)):=cell_of_row w b 1 _ _ _ h.dy
theorem eU.cw{w:World}{b g P:Nat}{T:Nat→Bool}(h:eU w b g P T)(i:Nat)(hi:i<nW P):w.cell? ⟨g,i,none⟩=some (.int .u64 (word T i:Int)):=by
 rw [h.QR.cellAt i (by omega)];exact iD _ _ _ hi
theorem eU.only{F:Nat→Prop}{w w':World}{b g P:Nat}{T:Nat→Bool}(h:eU w b g P T)(ho:gm F w w')(hb:¬ F b)(hg:¬ F g):eU w' b g P T :=
 ⟨(ho.block b h.TR hb).trans h.dy,Am h.QR ho (fun k hk=>by cases hk;exact hg),h.hi⟩
theorem eU.below{w w':World}{b g P:Nat}{T:Nat→Bool}(h:eU w b g P T)(hb:Below w.heap.size w w'):eU w' b g P T :=
 h.only (gm.bx (F:=fun _=>False) hb) id id
theorem eU.stored{w:World}{b g P:Nat}{T:Nat→Bool}(h:eU w b g P T)(id:Nat)(x:Bool):eU (w.setCell ⟨g,id / 64,none⟩ (.int .u64 (word (nO T id x) (id / 64):Int))) b g P (nO T id x) :=
 ⟨(Below.heap_setCell w ⟨g,id / 64,none⟩ _ b h.ne).trans h.dy,by have:=(h.QR.stored (id / 64) (.int .u64 (word (nO T id x) (id / 64):Int))).1;rw [FN] at this;exact this,h.hi⟩
theorem I1{P:Nat}(h:P≤1048576):nW P≤16384:=by unfold nW;omega
theorem DF(P:Nat):P≤64*nW P:=by unfold nW;omega
theorem MN(id:Nat):IntKind.u64.wrap (2 ^ (id % 64))=((2 ^ (id % 64):Nat):Int):=by
 have h:=qi id;rw [IntKind.wrap_u64,show (2:Int) ^ (id % 64)=((2 ^ (id % 64):Nat):Int) by simp]
 generalize 2 ^ (id % 64)=p at *;omega
theorem A5(id:Nat)(hx:id<1125899906842624)(w:World):Calls prog 148 #[.int .i64 id] w fun e w'=>e = .returned (.tuple #[.int .i64 (id / 64:Nat),.int .u64 (2 ^ (id % 64):Nat)])∧Below w.heap.size w w':=by
 have hp:=MN id;go_enter func148,ntmps148;go_wp2_with fail;go_quiet (fail)
 have hb:Below w.heap.size w (w.drewN nq):=⟨rfl,rfl,rfl,aj _,fun _ _=>rfl⟩
 go_wp2_with fail;go_ret2;refine ⟨?_,hb⟩;rw [hp];simp
def ue(w:World):Prop:=∀ j,j<64→w.cell? ⟨13,j,none⟩=some (.int .u8 (Lib.deBruijn64tab.getD j 0))
theorem MZ(x a:Nat)(hx:x<18446744073709551616)(QT:x≠0)(El:x &&& (18446744073709551616 - x)=a):IntKind.u64.wrap (bits BinOp.and IntKind.u64 (x:Int) (IntKind.u64.wrap (-(x:Int)))*285870213051353865) / 288230376151711744=((a*285870213051353865 % 18446744073709551616 / 288230376151711744:Nat):Int):=by
 have e1:IntKind.u64.wrap (-(x:Int))=((18446744073709551616 - x:Nat):Int):=by rw [IntKind.wrap_u64];omega
 rw [e1,bits_and_u64_nat x _ hx (by omega),El,IntKind.wrap_u64]
 omega
theorem Rq(x k idx:Nat)(w:World)(QT:((x:Int) == 0)=false)(key:IntKind.u64.wrap (bits BinOp.and IntKind.u64 (x:Int) (IntKind.u64.wrap (-(x:Int)))*285870213051353865) / 288230376151711744=(idx:Int))(hi:idx<64)(hk:k<64)(bE:w.cell? ⟨13,idx,none⟩=some (.int .u8 k)):Calls prog 147 #[.int .u64 x] w fun e w'=>e = .returned (.int .i64 k)∧w=w':=by
 go_enter func147,ntmps147;go_wp2_with (simp only [key])
 go_ret;exact ⟨rfl,rfl⟩
theorem UO(x:Nat)(hx:x<18446744073709551616)(QT:x≠0)(w:World)(hT:ue w):Calls prog 147 #[.int .u64 x] w fun e w'=>e = .returned (.int .i64 (Lib.ctz 64 x))∧w=w':=by
 obtain ⟨El,hk⟩:=Lib.lowest_bit 64 x QT hx;obtain ⟨hi,Sq⟩:=Lib.deBruijn64_at _ hk;have bE:=hT _ hi;rw [Sq] at bE;exact Rq x _ _ w (by simp;omega) (MZ x _ hx QT El) hi hk bE
theorem ue.below{w w':World}(h:ue w)(hb:Below w.heap.size w w'):ue w':=fun j hj=>(hb.cell (p:=⟨13,j,none⟩) (World.block_lt_of_cell? w _ (h j hj))).trans (h j hj)
structure Env(base:Nat)(A:Nat→Addr)(w:World):Prop where
 errs:dk 13 fl A w
 tab:ue w
 lo:∀ i,i<13→fl i<base∧(A i).block<base
 lt:13<base
 size:base≤w.heap.size
theorem Env.keep{base:Nat}{A:Nat→Addr}{w w':World}(h:Env base A w)(hb:Below base w w'):Env base A w':=by
 refine ⟨⟨fun i hi=>?_,h.errs.2⟩,fun j hj=>?_,h.lo,h.lt,aq h.size hb.size⟩
 ·obtain ⟨h1,c,t,h2⟩:=h.errs.1 i hi;obtain ⟨l1,l2⟩:=h.lo i hi;exact ⟨(World.cell?_of_block (a:=⟨fl i,0,none⟩) (hb.block _ l1)).trans h1,c,t,(hb.block _ l2).trans h2⟩
 ·exact (World.cell?_of_block (a:=⟨13,j,none⟩) (hb.block _ h.lt)).trans (h.tab j hj)
theorem Env.up{base:Nat}{A:Nat→Addr}{w w':World}(h:Env base A w)(hb:Below w.heap.size w w'):Env base A w':=h.keep (hb.mono h.size)
theorem Env.e{base:Nat}{A:Nat→Addr}{w:World}(h:Env base A w)(i:Nat)(hi:i<13):w.cell? ⟨fl i,0,none⟩=some (.iface 360 (.pointer (some (A i)))):=(h.errs.1 i hi).1
def nU(P:Nat)(id:Int):Bool:=decide (2≤id) && decide (id<P)
theorem M7(b g P:Nat)(T:Nat→Bool)(id:Int)(w:World)(h:eU w b g P T):Calls prog 109 #[.pointer (some ⟨b,0,none⟩),.int .i64 id] w fun e w'=>e = .returned (.bool (nU P id))∧w=w':=by
 have c0:=h.c0;clear h;by_cases h2:2≤id
 ·by_cases h3:id<P
  ·go_enter func109,ntmps109;go_wp2;go_ret;exact ⟨by simp [nU,h2,h3],rfl⟩
  ·go_enter func109,ntmps109;go_wp2;go_ret;exact ⟨by simp [nU,h3],rfl⟩
 ·go_enter func109,ntmps109;go_wp2;go_ret;exact ⟨by simp [nU];omega,rfl⟩
theorem Bq(b g P:Nat)(T:Nat→Bool)(id:Nat)(w:World)(h:eU w b g P T)(hid:id<64*nW P):Calls prog 108 #[.pointer (some ⟨b,0,none⟩),.int .i64 id] w fun e w'=>e = .returned (.tuple #[])∧eU w' b g P (nO T id true)∧gm (fun k=>k=g) w w':=by
 have hn:=I1 h.hi;have HB:=ab (A5 id (by omega) w)
 have H:=ab h;clear h;go_enter func108,ntmps108;go_wp2_with fail;refine HB.out.mono ?_
 rintro e w1 ⟨rfl,hb⟩;have h1:=H.out.below hb;have c1:=h1.c1;have hq:id / 64<nW P:=by omega
 have cw:=h1.cw (id / 64) hq;have cf:=h1.QR.frozenAt (id / 64);have Yt:bits .or .u64 ((word T (id / 64):Nat):Int) ((2 ^ (id % 64):Nat):Int)=((word (nO T id true) (id / 64):Nat):Int):=by
  rw [bits_or_u64_nat _ _ (word_lt _ _) (qi id),MO]
 have eS:Hid (eU (w1.setCell ⟨g,id / 64,none⟩ (.int .u64 (word (nO T id true) (id / 64):Int))) b g P (nO T id true)∧gm (fun k=>k=g) w (w1.setCell ⟨g,id / 64,none⟩ (.int .u64 (word (nO T id true) (id / 64):Int)))) :=
  ⟨h1.stored id true,(gm.bx hb).trans (gm.set (F:=fun k=>k=g) rfl _ _ _)⟩
 generalize word (nO T id true) (id / 64)=x' at *;generalize word T (id / 64)=x at *;generalize 2 ^ (id % 64)=p at *;generalize id / 64=q at *;generalize nW P=n at *;clear h1 hb H HB;go_wp2;go_end0
 exact ⟨rfl,eS.out⟩
def kn(T:Nat→Bool)(l:List Nat):Nat→Bool:=fun j=>T j || l.contains j
theorem MW(T:Nat→Bool):kn T []=T:=by funext j;simp [kn]
theorem JT(T:Nat→Bool)(l:List Nat)(id:Nat):nO (kn T l) id true=kn T (l++[id]):=by
 funext j
 unfold nO kn;by_cases h:j=id
 ·simp [h]
 ·simp [h]
def CO(T:Nat→Bool)(a b:Nat):Nat→Bool:=fun j=>T j || (decide (a≤j) && decide (j<b))
theorem MV(T:Nat→Bool)(a:Nat):CO T a a=T:=by
 funext j
 have:¬ (a≤j∧j<a):=by omega
 simp [CO];intro h1;omega
theorem JS(T:Nat→Bool)(a b:Nat)(h:a≤b):nO (CO T a b) b true=CO T a (b+1):=by
 funext j
 unfold nO CO;by_cases hj:j=b
 ·subst hj;simp [h]
 ·by_cases h2:j<b
  ·simp [hj,h2,show j<b+1 by omega]
  ·simp [hj,h2,show ¬ j<b+1 by omega]
theorem wO(b g P:Nat)(T:Nat→Bool)(lo hi:Nat)(w:World)(h:eU w b g P T)(hle:lo≤hi)(hid:hi≤64*nW P):Calls prog 78 #[.pointer (some ⟨b,0,none⟩),.int .i64 lo,.int .i64 hi] w fun e w'=>e = .returned (.tuple #[])∧eU w' b g P (CO T lo hi)∧gm (fun k=>k=g) w w':=by
 have hn:=I1 h.hi;have H:=ab h;clear h;go_enter func78,ntmps78;go_wp2_with fail;go_loopw [6] (fun i wr=>∃ k:Nat,lo≤k∧k≤hi∧i = .int .i64 k∧eU wr b g P (CO T lo k)∧gm (fun k=>k=g) w wr) (fun i _=>hi - (intOf i).toNat)
 case atStart=>exact ⟨lo,aj _,hle,rfl,by rw [MV];exact H.out,gm.refl _ _⟩
 case round =>
  obtain ⟨k,jm,pC,rfl,hm,ho⟩:=hrel;by_cases bX:k<hi
  ·have HS:=ab (Bq b g P _ k wr hm (by omega))
   have HO:=ab ho;have Vy:k<2000000:=by omega
   clear hm ho hid hle;generalize nW P=nn at *;go_wp2_with fail;refine HS.out.mono ?_
   rintro e w1 ⟨rfl,h1,o1⟩;rw [JS _ _ _ jm] at h1;have H1:=ab h1;have O1:=ab (HO.out.trans o1);clear h1 o1 HS HO;go_wp2;go_roundw
   case rel=>exact ⟨k+1,by omega,by omega,by go_num,H1.out,O1.out⟩
   case measure=>simp [intOf];omega
  ·have he:k=hi:=by omega
   have H1:=ab hm;have O1:=ab ho;clear hm ho;go_wp2;go_end0
   rw [← he];exact ⟨rfl,H1.out,O1.out⟩
structure qc(P:Nat)(T:Nat→Bool):Prop where
 lo:4≤P
 hi:P≤1048576
 t0:T 0=true
 t1:T 1=true
 up:∀ j,P≤j→T j=true
def nk(P:Nat)(T:Nat→Bool)(id:Int):Bool:=decide (0≤id) && (decide (id<P) && T id.toNat)
theorem MR(b g P:Nat)(T:Nat→Bool)(id:Int)(w:World)(h:eU w b g P T):Calls prog 110 #[.pointer (some ⟨b,0,none⟩),.int .i64 id] w fun e w'=>e = .returned (.bool (nk P T id))∧Below w.heap.size w w':=by
 have c0:=h.c0;have H:=ab h;clear h;by_cases h2:0≤id
 ·by_cases h3:id<P
  ·obtain ⟨n,rfl⟩ : ∃ n:Nat,id=n:=⟨id.toNat,by omega⟩
   have hP:=H.out.hi;have hnW:=DF P;have HB:=ab (A5 n (by omega) w)
   have hn:n<P:=by omega
   have hq:n / 64<nW P:=by omega
   have hu:=JN T n;have ZN:Hid (nk P T n=T n):=by show nk P T n=T n;simp [nk];omega
   rw [ZN.out];clear hnW;go_enter func110,ntmps110;go_wp2_with fail;refine HB.out.mono ?_
   rintro e w1 ⟨rfl,hb⟩;have h1:=H.out.below hb;have c1:=h1.c1;have cw:=h1.cw (n / 64) hq;have hand:bits .and .u64 ((word T (n / 64):Nat):Int) ((2 ^ (n % 64):Nat):Int)=((word T (n / 64) &&& 2 ^ (n % 64):Nat):Int):=bits_and_u64_nat _ _ (word_lt _ _) (qi n);generalize hR:word T (n / 64) &&& 2 ^ (n % 64)=r at *;generalize word T (n / 64)=x at *;generalize 2 ^ (n % 64)=p at *;generalize n / 64=q at *;generalize nW P=nn at *;have rm:=ab hb;have HU:=ab hu;clear h1 hb H HB hR hu;cases hT:T n with
   | true =>
    have hr:((r:Int) != 0)=true:=by
     have:¬ r=0:=fun h=>by have:=HU.out.1 h;rw [hT] at this;cases this
     simp;omega
    have HT:=ab hT;clear hT;go_wp2;go_ret;exact ⟨by rw [HT.out];rfl,rm.out⟩
   | false =>
    have hr:r=0:=HU.out.2 hT;subst hr;have HT:=ab hT;clear hT;go_wp2;go_ret;exact ⟨by rw [HT.out];rfl,rm.out⟩
  ·have ZN:Hid (nk P T id=false):=by show nk P T id=false;simp [nk];omega
   rw [ZN.out];go_enter func110,ntmps110;go_wp2;go_ret;exact ⟨rfl,Below.refl _ _⟩
 ·have ZN:Hid (nk P T id=false):=by show nk P T id=false;simp [nk];omega
  rw [ZN.out];go_enter func110,ntmps110;go_wp2;go_ret;exact ⟨rfl,Below.refl _ _⟩
theorem FT{P:Nat}{T:Nat→Bool}{id:Int}(h:nU P id=true):nk P T id=T id.toNat:=by
 simp only [nU,cA,decide_eq_true_eq] at h;simp [nk,show (0:Int)≤id by omega,h.2]
def DJ(P:Nat)(T:Nat→Bool)(id:Int):Option Nat × (Nat→Bool):=if nU P id then (if T id.toNat then (some 4,T) else (none,nO T id.toNat true)) else (some 0,T)
theorem Of(base:Nat)(A:Nat→Addr)(b g P:Nat)(T:Nat→Bool)(id:Int)(w:World)(h:eU w b g P T)(hE:Env base A w):Calls prog 102 #[.pointer (some ⟨b,0,none⟩),.int .i64 id] w fun e w'=>e = .returned (im A (DJ P T id).1)∧eU w' b g P (DJ P T id).2∧gm (fun k=>k=g) w w':=by
 have We:=ab (M7 b g P T id w h);have Cg:=ab (MR b g P T id w h);have H:=ab h;have HE:=ab hE;unfold DJ;cases ht:nU P id with
 | false =>
  rw [if_neg (by simp)]
  rw [ht] at We;have c:w.cell? ⟨0,0,none⟩=some (.iface 360 (.pointer (some (A 0)))):=hE.e 0 (by decide)
  clear ht h hE;go_enter func102,ntmps102;go_wp2_with fail;refine We.out.mono ?_
  rintro e w1 ⟨rfl,rfl⟩;go_wp2;go_ret;exact ⟨rfl,H.out,gm.refl _ _⟩
 | true =>
  rw [if_pos rfl];rw [ht] at We;rw [FT ht] at Cg;have hb:=ht;simp only [nU,cA,decide_eq_true_eq] at hb;obtain ⟨n,rfl⟩ : ∃ n:Nat,id=n:=⟨id.toNat,by omega⟩
  rw [bn] at *;have bX:n<64*nW P:=by have:=DF P;omega
  have HLT:=ab bX;clear ht h hb bX hE;cases hT:T n with
  | true =>
   rw [hT] at Cg;rw [if_pos rfl];clear hT;go_enter func102,ntmps102;go_wp2_with fail;refine We.out.mono ?_
   rintro e w1 ⟨rfl,rfl⟩;go_wp2_with fail;refine Cg.out.mono ?_
   rintro e w1 ⟨rfl,hb⟩;have c:w1.cell? ⟨4,0,none⟩=some (.iface 360 (.pointer (some (A 4)))):=(HE.out.up hb).e 4 (by decide)
   have rm:=ab hb;clear hb;go_wp2;go_ret;exact ⟨rfl,H.out.below rm.out,gm.bx rm.out⟩
  | false =>
   rw [hT] at Cg;rw [if_neg (by simp)]
   clear hT;go_enter func102,ntmps102;go_wp2_with fail;refine We.out.mono ?_
   rintro e w1 ⟨rfl,rfl⟩;go_wp2_with fail;refine Cg.out.mono ?_
   rintro e w1 ⟨rfl,hb⟩;have HS:=ab (Bq b g P T n w1 (H.out.below hb) HLT.out);have rm:=ab hb;clear hb;go_wp2_with fail;refine HS.out.mono ?_
   rintro e w2 ⟨rfl,h2,o2⟩;have H2:=ab h2;have O2:=ab ((gm.bx rm.out).trans o2);clear h2 o2;go_wp2;go_ret;exact ⟨rfl,H2.out,O2.out⟩
theorem Zz{P:Nat}{T:Nat→Bool}(h:∀ j,P≤j→T j=true)(n:Nat)(hn:P≤n):fY T n=fY T P:=by
 obtain ⟨d,rfl⟩ : ∃ d,n=P+d:=⟨n - P,by omega⟩
 exact su d (fun j h1 _=>h j h1)
def kq(l:List Nat):List Value:=l.map fun (n:Nat)=>Value.int .i64 (n:Int)
theorem uA(a b:List Nat):kq (a++b)=kq a++kq b:=by simp [kq]
theorem N6(l:List Nat)(j:Nat)(h:j<l.length):(kq l)[j]?=some (.int .i64 (l[j] : Int)):=by simp [kq,h]
theorem PJ(T:Nat→Bool)(n:Nat):(fY T n).length≤n:=by rw [Jp];unfold fr;omega
theorem XF(T:Nat→Bool)(i:Nat):bits .xor .u64 IntKind.u64.max ((word T i:Nat):Int)=((zw T i 0:Nat):Int):=by
 have h:=bits_xor_u64_nat 18446744073709551615 (word T i) (by decide) (word_lt T i)
 rw [show IntKind.u64.max=((18446744073709551615:Nat):Int) by decide,h]
 refine congrArg (fun x:Nat=>(x:Int)) ?_
 apply eR
 intro j;rw [Nat.testBit_xor,show 18446744073709551615=2 ^ 64 - 1 by decide,Nat.testBit_two_pow_sub_one,eY,iE]
 by_cases hj:j<64 <;> simp [hj]
def fj(T:Nat→Bool)(P N:Nat):List Nat:=(fY T P).take N
theorem SV{T:Nat→Bool}{m t:Nat}(h1:∀ j,m≤j→j<m+t→T j=true)(h2:T (m+t)=false):fY T (m+t+1)=fY T m++[m+t]:=by
 rw [fY,su t h1,h2];rfl
theorem R5(b g P:Nat)(T:Nat→Bool)(N:Nat)(w:World)(h:eU w b g P T)(hk:qc P T)(Sq:ue w):Calls prog 107 #[.pointer (some ⟨b,0,none⟩),.int .i64 N] w fun e w'=>∃ v,e = .returned v∧w'.ownsRow w.heap.size 3 1 v (fj T P N).length (kq (fj T P N))∧Below w.heap.size w w':=by
 obtain ⟨i0,hi,nP,mB,pB⟩:=info_parts info3;have hn:=I1 h.hi;have HF:Hid (fY T (64*nW P)=fY T P):=Zz hk.up _ (DF P);have H:=ab h;have CC:=ab Sq;clear h hk Sq;obtain ⟨n,hN⟩ : ∃ n,n=nW P:=⟨_,rfl⟩;rw [← hN] at hn HF;have HN:=ab hN;have c1:Hid (∀ wr,Below w.heap.size w wr→wr.cell? ⟨b,1,none⟩=some (.slice (some ⟨g,0,none⟩) n n)):=fun wr hb=>by
  have:=(H.out.below hb).c1;rw [← HN.out] at this;exact this
 have cw:Hid (∀ wr,Below w.heap.size w wr→∀ k,k<n→wr.cell? ⟨g,k,none⟩=some (.int .u64 (word T k:Int))):=fun wr hb k hk=>(H.out.below hb).cw k (by rw [← HN.out];exact hk)
 clear hN H;go_enter func107,ntmps107;go_wp2_with fail;go_loopw [5,6] (fun v i wr=>∃ k m:Nat,k≤n∧m≤64*k∧i = .int .i64 k∧(m=64*k∨(fY T m).length=N)∧(fY T m).length≤N∧wr.ownsRow w.heap.size 3 1 v (fY T m).length (kq (fY T m))∧Below w.heap.size w wr) (fun _ i _=>n - (intOf i).toNat)
 case atStart=>exact ⟨0,0,aC _,aj _,rfl,.inl rfl,aC _,World.ownsRow_nil _ _ _ _,Below.refl _ _⟩
 case round =>
  obtain ⟨k,m,hk,hm,rfl,Yt,hle,aD,bL⟩:=hrel;have cc:=c1.out wr bL;obtain ⟨a,c,rfl,-⟩:=ia aD;by_cases bX:k<n
  ·have cwk:=cw.out wr bL k bX;have hkI:(k:Int)<(n:Int):=by omega
   by_cases Je:(fY T m).length<N
   ·have hme:m=64*k:=by omega
    obtain ⟨z0,hz⟩ : ∃ z0,z0=zw T k 0:=⟨_,rfl⟩;have hx:=XF T k;rw [← hz] at hx;have YN:((fY T m).length:Int)<(N:Int):=by omega
    have rl:=ab aD;have jY:=ab bL;have HME:=ab hme;have HZ:=ab hz;clear aD bL Yt hme hz;generalize hL:(fY T m).length=L at *;have HL:=ab hL;clear hL hm;generalize word T k=x at *;generalize wr=W1 at *;go_wp2_with fail;clear YN Je hx cc cwk;go_loopw [5,7] (fun v z wr=>∃ q zz:Nat,q≤64∧Hid (zz=zw T k q)∧z = .int .u64 (zz:Int)∧Hid ((fY T (64*k+q)).length≤N)∧wr.ownsRow w.heap.size 3 1 v (fY T (64*k+q)).length (kq (fY T (64*k+q)))∧Below w.heap.size w wr) (fun _ z _=>(intOf z).toNat)
    case atStart =>
     refine ⟨0,z0,aC _,HZ.out,rfl,?_,?_,jY.out⟩
     ·show _≤_
      rw [Nat.add_zero,← HME.out,HL.out];exact hle
     ·rw [Nat.add_zero,← HME.out,HL.out];exact rl.out
    case round =>
     clear rl jY HME HL HZ;obtain ⟨q,zz,hq,HZ,rfl,CF,aD,bL⟩:=hrel;obtain ⟨a2,c2,rfl,-⟩:=ia aD;have GX:(fY T (64*k+q)).length≤64*k+q:=PJ _ _;by_cases hz:zz=0
     ·have Y0:fY T (64*(k+1))=fY T (64*k+q):=by
       have h0:=HZ.out;rw [hz] at h0;have:=Rk h0.symm;rw [show 64*(k+1)=64*k+q+(64 - q) by omega]
       exact su _ (fun j h1 h2=>by have:=this (j - 64*k) (by omega) (by omega);rw [show 64*k+(j - 64*k)=j by omega] at this;exact this)
      subst hz;have nM:=ab Y0;have rl:=ab aD;have jY:=ab bL;clear aD bL Y0 GX;generalize hL:(fY T (64*k+q)).length=L2 at *;have HL:=ab hL;clear hL;go_wp2;go_roundw
      case rel =>
       refine ⟨k+1,64*(k+1),by omega,by omega,by go_num,.inl rfl,?_,?_,jY.out⟩
       ·rw [nM.out,HL.out];exact CF.out
       ·rw [nM.out,HL.out];exact rl.out
      case measure=>simp [intOf];omega
     ·by_cases Je:(fY T (64*k+q)).length<N
      ·have Va:=hz;rw [HZ.out] at Va;obtain ⟨t,h1,h2,h3,h4,h5,h6⟩:=Rj Va;have X2:zz<18446744073709551616:=by have:=TI T k q;have:=HZ.out;omega
       have HT:=ab (UO zz X2 hz wr (CC.out.below bL));have Xf:Lib.ctz 64 zz=t:=by rw [HZ.out];exact h1
       rw [Xf] at HT;have Sg:((zz:Int) != 0)=true:=by simp;omega
       have YN:((fY T (64*k+q)).length:Int)<(N:Int):=by omega
       obtain ⟨z2,Si⟩ : ∃ z2,z2=zw T k (t+1):=⟨_,rfl⟩;have hand:bits .and .u64 (zz:Int) ((zz:Int) - 1)=(z2:Int):=by
        rw [show (zz:Int) - 1=((zz - 1:Nat):Int) by omega,bits_and_u64_nat _ _ X2 (by omega),Si,← h6,HZ.out]
       have ad9:z2<zz:=by
        have hle:z2≤zz - 1:=by rw [Si,← h6,← HZ.out];exact Nat.and_le_right
        omega
       have oS:Hid (fY T (64*k+(t+1))=fY T (64*k+q)++[64*k+t]):=by
        show _=_
        have:=SV (T:=T) (m:=64*k+q) (t:=t - q) (fun j a b=>by have:=h5 (j - 64*k) (by omega) (by omega);rw [show 64*k+(j - 64*k)=j by omega] at this;exact this) (by rw [show 64*k+q+(t - q)=64*k+t by omega];exact h4)
        rw [show 64*k+q+(t - q)=64*k+t by omega] at this
        exact this
       have ZJ:=ab Si;obtain ⟨p,hp⟩ : ∃ p,p=64*k+t:=⟨_,rfl⟩;have GV:IntKind.i64.wrap ((k:Int)*64+(t:Int))=(p:Int):=by rw [IntKind.wrap_i64];omega
       have FC:p<2000000:=by omega
       rw [← hp] at oS;have jY:=ab bL;clear Xf h1 h4 h5 h6 Va bL Si hz;generalize hL:(fY T (64*k+q)).length=L2 at *;have HL:=ab hL;have hL2:L2≤1048640:=by omega
       have agp:t<64:=h3;have rl:=ab aD;clear hL GX h2 h3 hp aD;go_wp2_with fail;refine HT.out.mono ?_
       rintro e w1 ⟨rfl,rfl⟩;clear HT;go_wp2_with (first
        | (at_builtin;refine wpList_append_lies _ rfl _ _ 69 rfl w.heap.size 3 i0 (.int .i64 0) 1 8 underlying69 hi nP mB pB rfl (by decide) _ _ _ rfl (rl.out.alloc _) ⟨wr.heap.size,0,none⟩ 1 1 [.int .i64 (p:Int)] rfl rfl ?c1 ?c2 ?c3 ?c4 ?c5 ?c6 (wr.heap.size+1) ?c7 ?_))
       case c1 =>
        intro j u hj;match j,hj with
        | 0,hj=>simp at hj;subst hj;simp [Addr.add]
       case c2=>intro u hu;simp at hu;subst hu;rfl
       case c3=>decide
       case c4=>unfold maxLen;omega
       case c5=>omega
       case c6=>have:=jY.out.size;simp;omega
       case c7=>simp
       intro g' cap w1 gk Eo Cx hlg;have bN:Hid (Below w.heap.size w w1):=(jY.out.alloc (by have:=jY.out.size;omega) _).grown Eo (by have:=jY.out.size;simp;omega) (fun j hj=>(rl.out.lt j hj).1)
       have gX:Hid (w1.ownsRow w.heap.size 3 1 (.slice (some ⟨g',0,none⟩) (L2+1) cap) (L2+1) (kq (fY T (64*k+(t+1))))):=by
        show World.ownsRow _ _ _ _ _ _ _
        rw [oS.out,uA];exact gk
       have yW:Hid ((fY T (64*k+(t+1))).length=L2+1):=by
        show _=_
        rw [oS.out,ae,HL.out];rfl
       clear gk Eo Cx hlg rl jY GV;go_wp2;go_roundw
       case rel=>exact ⟨t+1,z2,by omega,ZJ,rfl,by show _≤_;rw [yW.out];omega,by rw [yW.out];exact gX.out,bN.out⟩
       case measure=>simp [intOf];omega
      ·have YN:¬ ((fY T (64*k+q)).length:Int)<(N:Int):=by omega
       have Sg:((zz:Int) != 0)=true:=by simp;omega
       have ab5:=CF.out;have heq:(fY T (64*k+q)).length=N:=by omega
       have HEQ:=ab heq;have rl:=ab aD;have jY:=ab bL;clear aD bL heq ab5 GX;generalize hL:(fY T (64*k+q)).length=L2 at *;have HL:=ab hL;clear hL;go_wp2;go_roundw
       case rel =>
        refine ⟨k+1,64*k+q,by omega,by omega,by go_num,.inr ?_,?_,?_,jY.out⟩
        ·rw [HL.out];exact HEQ.out
        ·rw [HL.out];exact CF.out
        ·rw [HL.out];exact rl.out
       case measure=>simp [intOf];omega
   ·have heq:(fY T m).length=N:=by omega
    have YN:¬ ((fY T m).length:Int)<(N:Int):=by omega
    have b8:Hid (fj T P N=fY T m):=by
     show (fY T P).take N=_
     rw [← HF.out];obtain ⟨r,hr⟩:=Jo T (show m≤64*n by omega)
     rw [hr,← heq,ej]
    have rl:=ab aD;have jY:=ab bL;clear aD bL heq Yt;generalize hL:(fY T m).length=L at *;have HL:=ab hL;clear hL;go_wp2;go_ret;exact ⟨_,rfl,by rw [b8.out,HL.out];exact rl.out,jY.out⟩
  ·have oD:k=n:=by omega
   have hkI:¬ (k:Int)<(n:Int):=by omega
   have b8:Hid (fj T P N=fY T m):=by
    show (fY T P).take N=_
    rw [← HF.out];rcases Yt with h | h
    ·rw [← oD,← h,ar hle]
    ·obtain ⟨r,hr⟩:=Jo T (show m≤64*n by omega)
     rw [hr,← h,ej]
   have rl:=ab aD;have jY:=ab bL;clear aD bL Yt oD hm;generalize hL:(fY T m).length=L at *;have HL:=ab hL;clear hL;go_wp2;go_ret;exact ⟨_,rfl,by rw [b8.out,HL.out];exact rl.out,jY.out⟩
def kE(P:Nat)(T:Nat→Bool)(n:Int):Option Nat × List Nat × (Nat→Bool) :=
 if n<0 then (some 0,[],T) else if (fY T P).length<n.toNat then (some 6,[],T) else (none,fj T P n.toNat,kn T (fj T P n.toNat))
theorem rT{T:Nat→Bool}{P N j:Nat}(h:j ∈ fj T P N):j<P∧T j=false:=(BZ T).1 (bF h)
theorem xE(T:Nat→Bool)(P N:Nat):(fj T P N).length=min N (fY T P).length:=by unfold fj;rw [ag]
theorem M9(base:Nat)(A:Nat→Addr)(b g P:Nat)(T:Nat→Bool)(n:Int)(w:World)(h:eU w b g P T)(hk:qc P T)(hE:Env base A w):Calls prog 70 #[.pointer (some ⟨b,0,none⟩),.int .i64 n] w fun e w'=>∃ v,e = .returned (.tuple #[v,im A (kE P T n).1])∧w'.ownsRow w.heap.size 3 1 v (kE P T n).2.1.length (kq (kE P T n).2.1)∧eU w' b g P (kE P T n).2.2∧gm (fun k=>k=g) w w':=by
 by_cases QY:n<0
 ·have HD:Hid (kE P T n=(some 0,[],T)):=by show kE P T n=_;simp [kE,QY]
  rw [HD.out];have c:w.cell? ⟨0,0,none⟩=some (.iface 360 (.pointer (some (A 0)))):=hE.e 0 (by decide)
  have H:=ab h;clear h hk hE;go_enter func70,ntmps70;go_wp2_with fail;go_quiet (fail)
  have hb:Below w.heap.size w (w.drewN nq):=⟨rfl,rfl,rfl,aj _,fun _ _=>rfl⟩
  have HB:=ab hb;clear hb;go_wp2_with fail;go_ret2;exact ⟨_,rfl,World.ownsRow_nil _ _ _ _,H.out.below HB.out,gm.bx HB.out⟩
 ·obtain ⟨N,rfl⟩ : ∃ N:Nat,n=N:=⟨n.toNat,by omega⟩
  have HL:=ab (R5 b g P T N w h hk hE.tab);have H:=ab h;have HE:=ab hE;have hP:=h.hi;have ye:=h.TQ;have HG:=ab ye;clear h ye hE;by_cases hf:(fY T P).length<N
  ·have HD:Hid (kE P T (N:Int)=(some 6,[],T)):=by show kE P T (N:Int)=_;simp [kE,hf]
   rw [HD.out];have hlen:(fj T P N).length<N:=by rw [xE];omega
   have YN:((fj T P N).length:Int)<(N:Int):=by omega
   clear hk hf;generalize fj T P N=l at *;go_enter func70,ntmps70;go_wp2_with fail;refine HL.out.mono ?_
   rintro e w1 ⟨v,rfl,aD,hb⟩;obtain ⟨a,c,rfl,-⟩:=ia aD;have c6:w1.cell? ⟨6,0,none⟩=some (.iface 360 (.pointer (some (A 6)))):=(HE.out.up hb).e 6 (by decide)
   have HB:=ab hb;clear hb aD HL;go_wp2_with fail;go_quiet (fail)
   have bH:Hid (Below w.heap.size w (w1.drewN nq)):=⟨HB.out.os,HB.out.tape,HB.out.output,HB.out.size,HB.out.block⟩;go_wp2_with fail;go_ret2;exact ⟨_,rfl,World.ownsRow_nil _ _ _ _,H.out.below bH.out,gm.bx bH.out⟩
  ·have HD:Hid (kE P T (N:Int)=(none,fj T P N,kn T (fj T P N))):=by show kE P T (N:Int)=_;simp [kE,hf]
   rw [HD.out];have hlen:(fj T P N).length=N:=by rw [xE];omega
   have HLT:Hid (∀ j ∈ fj T P N,j<P):=fun j hj=>(rT hj).1
   have hNP:N≤1048576:=by have:=PJ T P;omega
   clear hk hf;generalize fj T P N=l at *;subst hlen;go_enter func70,ntmps70;go_wp2_with fail;refine HL.out.mono ?_
   rintro e w1 ⟨v,rfl,aD,hb⟩;obtain ⟨a,c,rfl,T2⟩:=ia aD;have HB:=ab hb;have rl:=ab aD;have Xm:=ab T2;clear hb aD T2 HL;obtain ⟨N,hN⟩ : ∃ N,N=l.length:=⟨_,rfl⟩;rw [← hN] at hNP rl Xm ⊢;have HN:=ab hN;clear hN;go_wp2_with fail;go_loopw [22] (fun i wr=>∃ k:Nat,k≤N∧i = .int .i64 k∧eU wr b g P (kn T (l.take k))∧gm (fun k=>k=g) w1 wr) (fun i _=>N - (intOf i).toNat)
   case atStart=>exact ⟨0,aC _,rfl,by rw [List.take_zero,MW];exact H.out.below HB.out,gm.refl _ _⟩
   case round =>
    obtain ⟨k,hk,rfl,hm,ho⟩:=hrel;by_cases bX:k<N
    ·obtain ⟨g2,rfl⟩:=Xm.out (by omega)
     have oC:k<l.length:=by rw [← HN.out];exact bX
     have VD:g2≠g:=by have:=(eA rl.out g2 rfl).1;have:=HG.out;omega
     have ce:w1.cell? ⟨g2,k,none⟩=some (.int .i64 (l[k] : Int)):=by rw [rl.out.cellAt k (by omega)];exact N6 l k oC
     have ce2:wr.cell? ⟨g2,k,none⟩=some (.int .i64 (l[k] : Int)):=ho.cell ce VD;have hlP:=HLT.out l[k] (aH oC);have HS:=ab (Bq b g P _ l[k] wr hm (by have:=DF P;omega))
     have HSN:Hid (nO (kn T (l.take k)) l[k] true=kn T (l.take (k+1))):=by
      show _=_
      rw [JT,ay oC]
     rw [HSN.out] at HS;generalize l[k]=x at *;have HO:=ab ho;have hkI:(k:Int)<(N:Int):=by omega
     clear hm ho ce oC;go_wp2_with fail;refine HS.out.mono ?_
     rintro e w2 ⟨rfl,h2,o2⟩;have H2:=ab h2;have O2:=ab (HO.out.trans o2);clear h2 o2 HS HO ce2;go_wp2;go_roundw
     case rel=>exact ⟨k+1,by omega,by go_num,H2.out,O2.out⟩
     case measure=>simp [intOf];omega
    ·have he:k=N:=by omega
     have hkI:¬ (k:Int)<(N:Int):=by omega
     have H1:Hid (eU wr b g P (kn T l)):=by
      rw [he,HN.out,List.take_length] at hm;exact hm
     have O1:=ab ho;clear hm ho;go_wp2;go_ret2;refine ⟨_,rfl,?_,H1.out,(gm.bx HB.out).trans O1.out⟩;refine Am ?_ O1.out (fun k Q2=>?_)
     ·show w1.ownsRow _ _ _ _ _ _
      rw [← HN.out];exact rl.out
     ·have:=(eA rl.out k Q2).1;have:=HG.out;show ¬ k=g
      omega
theorem info68:(prog.info? 40).map (fun i=>(i.zero,i.size,i.bytes))=some (some (.int .u64 0),1,8):=by kernel_rfl
theorem Il:∀ n,wd (fun _=>false) n=0
 | 0=>rfl
 | n+1=>by rw [wd,Il n];rfl
theorem GF(n:Nat):(madeCells (Value.int .u64 0).cells (n*1)).toList=j6 (fun _=>false) n:=by
 apply qd
 intro i;by_cases hi:i<n
 ·rw [iD _ _ _ hi];simp [madeCells,Value.cells,hi,word,Il,Nat.mod_one]
 ·rw [bB (by simp [madeCells];omega),bB (by rw [gw];omega)]
theorem GD(w:World)(n:Nat)(hn:n≤16384):∃ w',(Instr.makeSlice 129 (.int .i64 (n:Int)) (.int .i64 (n:Int))).run prog w = .ok (.slice (some ⟨w.heap.size,0,none⟩) n n) w'∧w'.ownsRow w.heap.size 40 1 (.slice (some ⟨w.heap.size,0,none⟩) n n) n (j6 (fun _=>false) n)∧Below w.heap.size w w'∧w.heap.size<w'.heap.size:=by
 obtain ⟨i0,hi,hz,cp,kL⟩:=info_parts info68;obtain ⟨w',hr,ho,hg⟩:=run_makeSlice_full (P:=prog) w w.heap.size 129 40 i0 _ 1 underlying129 hi hz cp   .i64 .i64 n (by omega) (by rw [kL];omega) (by unfold maxLen;omega) (aj _)
 rw [GF] at ho;exact ⟨w',hr,ho,(Below.refl _ _).grown hg (aj _) (fun j h=>by cases h),(eA ho _ rfl).2.1⟩
end Q
end Go.Proofs.YtihmgigfkmofnaaGreatDoor
