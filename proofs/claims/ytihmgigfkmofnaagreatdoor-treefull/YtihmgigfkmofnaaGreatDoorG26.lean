import Derived.Test.YtihmgigfkmofnaaGreatDoorG25
import Derived.Laws.OwnMore
import Derived.Laws.Tables
set_option maxHeartbeats 2000000
set_option maxRecDepth 100000
open Go.Proofs.Tryz
namespace Go.Proofs.YtihmgigfkmofnaaGreatDoor
namespace Q
open Go.RowKit
theorem Vk{P:Nat}{T:Nat→Bool}(h:∀ j,P≤j→T j=true)(n:Nat)(hn:P≤n):dU T n=dU T P:=by
 obtain ⟨d,rfl⟩ : ∃ d,n=P+d:=⟨n - P,by omega⟩
 exact rU d (fun j h1 _=>h j h1)
theorem rV(b g P:Nat)(T:Nat→Bool)(w:World)(h:dj w b g P T)(hk:kn P T):Calls prog 36 #[.pointer (some ⟨b,0,none⟩)] w fun e w'=>e = .returned (.int .i64 ((dU T P).length:Nat))∧w=w':=by
 have hn:=xJ h.hi;have c1:=h.c1;have HF:Hid (64*nW P - tr T (64*nW P)=(dU T P).length):=by
  show _=_
  rw [← Vk hk.up _ (xI P),vU];rfl
 have H:=ab h;clear h hk;generalize (dU T P).length=res at *;obtain ⟨n,hN⟩ : ∃ n,n=nW P:=⟨_,rfl⟩;rw [← hN] at hn c1 HF;have HN:=ab hN;clear hN;go_enter func36,ntmps36;go_wp2_with fail;go_loopw [3,17] (fun f i wr=>∃ k:Nat,k≤n∧i = .int .i64 k∧f = .int .i64 (64*n - tr T (64*k):Nat)∧w=wr) (fun _ i _=>n - (intOf i).toNat)
 case atStart=>exact ⟨0,aB _,rfl,by simp [tr];omega,rfl⟩
 case round =>
  obtain ⟨k,hk,rfl,rfl,rfl⟩:=hrel;by_cases bK:k<n
  ·have cw:=H.out.cw k (by rw [← HN.out];exact bK)
   have HO:=ab (OD (word T k) (word_lt T k) w);have HT:=ab (Sf T k);have HL:=ab (CT T (64*(k+1)));have Ni:=ab (CT T (64*k));go_wp2_with fail;refine HO.out.mono ?_
   rintro e w1 ⟨rfl,rfl⟩;obtain ⟨z,hz⟩ : ∃ z,z=tr (word T k).testBit 64:=⟨_,rfl⟩;obtain ⟨z0,mV⟩ : ∃ z,z=tr T (64*k):=⟨_,rfl⟩;have HT':Hid (tr T (64*(k+1))=z0+z):=by show _=_;rw [hz,mV];exact HT.out
   have Va:z0+z≤64*(k+1):=by have:=HL.out;rw [HT'.out] at this;exact this
   rw [← hz,← mV];clear HO HT HL Ni hz mV;go_wp2;go_roundw
   case rel=>exact ⟨k+1,by omega,by go_num,by rw [HT'.out];go_num,trivial⟩
   case measure=>simp [intOf];omega
  ·have he:k=n:=by omega
   subst he;have Bc:=HF;go_wp2;go_ret;exact ⟨by rw [Bc.out];rfl,rfl⟩
def j7(l:List Nat):List Value:=l.map fun (n:Nat)=>Value.int .i64 (n:Int)
theorem uj(a b:List Nat):j7 (a++b)=j7 a++j7 b:=by simp [j7]
theorem OM(l:List Nat)(j:Nat)(h:j<l.length):(j7 l)[j]?=some (.int .i64 (l[j] : Int)):=by simp [j7,h]
theorem Qp(T:Nat→Bool)(n:Nat):(dU T n).length≤n:=by rw [vU];unfold fr;omega
theorem YF(T:Nat→Bool)(i:Nat):bits .xor .u64 IntKind.u64.max ((word T i:Nat):Int)=((zw T i 0:Nat):Int):=by
 have h:=bits_xor_u64_nat 18446744073709551615 (word T i) (by decide) (word_lt T i)
 rw [show IntKind.u64.max=((18446744073709551615:Nat):Int) by decide,h]
 refine congrArg (fun x:Nat=>(x:Int)) ?_
 apply dX
 intro j;rw [Nat.testBit_xor,show 18446744073709551615=2 ^ 64 - 1 by decide,Nat.testBit_two_pow_sub_one,dN,iG]
 by_cases hj:j<64 <;> simp [hj]
def eT(T:Nat→Bool)(P N:Nat):List Nat:=(dU T P).take N
theorem TR{T:Nat→Bool}{m t:Nat}(h1:∀ j,m≤j→j<m+t→T j=true)(h2:T (m+t)=false):dU T (m+t+1)=dU T m++[m+t]:=by
 rw [dU,rU t h1,h2];rfl
theorem SY(b g P:Nat)(T:Nat→Bool)(N:Nat)(w:World)(h:dj w b g P T)(hk:kn P T)(Tm:tY w):Calls prog 107 #[.pointer (some ⟨b,0,none⟩),.int .i64 N] w fun e w'=>∃ v,e = .returned v∧w'.ownsRow w.heap.size 3 1 v (eT T P N).length (j7 (eT T P N))∧Below w.heap.size w w':=by
 obtain ⟨i0,hi,mV,mU,py⟩:=info_parts info3;have hn:=xJ h.hi;have HF:Hid (dU T (64*nW P)=dU T P):=Vk hk.up _ (xI P);have H:=ab h;have Cz:=ab Tm;clear h hk Tm;obtain ⟨n,hN⟩ : ∃ n,n=nW P:=⟨_,rfl⟩;rw [← hN] at hn HF;have HN:=ab hN;have c1:Hid (∀ wr,Below w.heap.size w wr→wr.cell? ⟨b,1,none⟩=some (.slice (some ⟨g,0,none⟩) n n)):=fun wr hb=>by
  have:=(H.out.below hb).c1;rw [← HN.out] at this;exact this
 have cw:Hid (∀ wr,Below w.heap.size w wr→∀ k,k<n→wr.cell? ⟨g,k,none⟩=some (.int .u64 (word T k:Int))):=fun wr hb k hk=>(H.out.below hb).cw k (by rw [← HN.out];exact hk)
 clear hN H;go_enter func107,ntmps107;go_wp2_with fail;go_loopw [5,6] (fun v i wr=>∃ k m:Nat,k≤n∧m≤64*k∧i = .int .i64 k∧(m=64*k∨(dU T m).length=N)∧(dU T m).length≤N∧wr.ownsRow w.heap.size 3 1 v (dU T m).length (j7 (dU T m))∧Below w.heap.size w wr) (fun _ i _=>n - (intOf i).toNat)
 case atStart=>exact ⟨0,0,aB _,aj _,rfl,.inl rfl,aB _,World.ownsRow_nil _ _ _ _,Below.refl _ _⟩
 case round =>
  obtain ⟨k,m,hk,hm,rfl,X4,hle,aF,bO⟩:=hrel;have cc:=c1.out wr bO;obtain ⟨a,c,rfl,-⟩:=ib aF;by_cases bK:k<n
  ·have cwk:=cw.out wr bO k bK;have hkI:(k:Int)<(n:Int):=by omega
   by_cases Ev:(dU T m).length<N
   ·have hme:m=64*k:=by omega
    obtain ⟨z0,hz⟩ : ∃ z0,z0=zw T k 0:=⟨_,rfl⟩;have hx:=YF T k;rw [← hz] at hx;have Z7:((dU T m).length:Int)<(N:Int):=by omega
    have qU:=ab aF;have jW:=ab bO;have HME:=ab hme;have HZ:=ab hz;clear aF bO X4 hme hz;generalize hL:(dU T m).length=L at *;have HL:=ab hL;clear hL hm;generalize word T k=x at *;generalize wr=W1 at *;go_wp2_with fail;clear Z7 Ev hx cc cwk;go_loopw [5,7] (fun v z wr=>∃ q zz:Nat,q≤64∧Hid (zz=zw T k q)∧z = .int .u64 (zz:Int)∧Hid ((dU T (64*k+q)).length≤N)∧wr.ownsRow w.heap.size 3 1 v (dU T (64*k+q)).length (j7 (dU T (64*k+q)))∧Below w.heap.size w wr) (fun _ z _=>(intOf z).toNat)
    case atStart =>
     refine ⟨0,z0,aB _,HZ.out,rfl,?_,?_,jW.out⟩
     ·show _≤_
      rw [Nat.add_zero,← HME.out,HL.out];exact hle
     ·rw [Nat.add_zero,← HME.out,HL.out];exact qU.out
    case round =>
     clear qU jW HME HL HZ;obtain ⟨q,zz,hq,HZ,rfl,wj,aF,bO⟩:=hrel;obtain ⟨a2,c2,rfl,-⟩:=ib aF;have G8:(dU T (64*k+q)).length≤64*k+q:=Qp _ _;by_cases hz:zz=0
     ·have Ls:dU T (64*(k+1))=dU T (64*k+q):=by
       have h0:=HZ.out;rw [hz] at h0;have:=Sb h0.symm;rw [show 64*(k+1)=64*k+q+(64 - q) by omega]
       exact rU _ (fun j h1 h2=>by have:=this (j - 64*k) (by omega) (by omega);rw [show 64*k+(j - 64*k)=j by omega] at this;exact this)
      subst hz;have me:=ab Ls;have qU:=ab aF;have jW:=ab bO;clear aF bO Ls G8;generalize hL:(dU T (64*k+q)).length=L2 at *;have HL:=ab hL;clear hL;go_wp2;go_roundw
      case rel =>
       refine ⟨k+1,64*(k+1),by omega,by omega,by go_num,.inl rfl,?_,?_,jW.out⟩
       ·rw [me.out,HL.out];exact wj.out
       ·rw [me.out,HL.out];exact qU.out
      case measure=>simp [intOf];omega
     ·by_cases Ev:(dU T (64*k+q)).length<N
      ·have We:=hz;rw [HZ.out] at We;obtain ⟨t,h1,h2,h3,h4,h5,h6⟩:=Sa We;have Y4:zz<18446744073709551616:=by have:=UG T k q;have:=HZ.out;omega
       have HT:=ab (VP zz Y4 hz wr (Cz.out.below bO));have Ya:Lib.ctz 64 zz=t:=by rw [HZ.out];exact h1
       rw [Ya] at HT;have hzI:((zz:Int) != 0)=true:=by simp;omega
       have Z7:((dU T (64*k+q)).length:Int)<(N:Int):=by omega
       obtain ⟨z2,Tf⟩ : ∃ z2,z2=zw T k (t+1):=⟨_,rfl⟩;have hand:bits .and .u64 (zz:Int) ((zz:Int) - 1)=(z2:Int):=by
        rw [show (zz:Int) - 1=((zz - 1:Nat):Int) by omega,bits_and_u64_nat _ _ Y4 (by omega),Tf,← h6,HZ.out]
       have afF:z2<zz:=by
        have hle:z2≤zz - 1:=by rw [Tf,← h6,← HZ.out];exact Nat.and_le_right
        omega
       have pT:Hid (dU T (64*k+(t+1))=dU T (64*k+q)++[64*k+t]):=by
        show _=_
        have:=TR (T:=T) (m:=64*k+q) (t:=t - q) (fun j a b=>by have:=h5 (j - 64*k) (by omega) (by omega);rw [show 64*k+(j - 64*k)=j by omega] at this;exact this) (by rw [show 64*k+q+(t - q)=64*k+t by omega];exact h4)
        rw [show 64*k+q+(t - q)=64*k+t by omega] at this
        exact this
       have HZ2:=ab Tf;obtain ⟨p,hp⟩ : ∃ p,p=64*k+t:=⟨_,rfl⟩;have G3:IntKind.i64.wrap ((k:Int)*64+(t:Int))=(p:Int):=by rw [IntKind.wrap_i64];omega
       have FH:p<2000000:=by omega
       rw [← hp] at pT;have jW:=ab bO;clear Ya h1 h4 h5 h6 We bO Tf hz;generalize hL:(dU T (64*k+q)).length=L2 at *;have HL:=ab hL;have He:L2≤1048640:=by omega
       have ah9:t<64:=h3;have qU:=ab aF;clear hL G8 h2 h3 hp aF;go_wp2_with fail;refine HT.out.mono ?_
       rintro e w1 ⟨rfl,rfl⟩;clear HT;go_wp2_with (first
        | (at_builtin;refine wpList_append_lies _ rfl _ _ 69 rfl w.heap.size 3 i0 (.int .i64 0) 1 8 underlying69 hi mV mU py rfl (by decide) _ _ _ rfl (qU.out.alloc _) ⟨wr.heap.size,0,none⟩ 1 1 [.int .i64 (p:Int)] rfl rfl ?c1 ?c2 ?c3 ?c4 ?c5 ?c6 (wr.heap.size+1) ?c7 ?_))
       case c1 =>
        intro j u hj;match j,hj with
        | 0,hj=>simp at hj;subst hj;simp [Addr.add]
       case c2=>intro u hu;simp at hu;subst hu;rfl
       case c3=>decide
       case c4=>unfold maxLen;omega
       case c5=>omega
       case c6=>have:=jW.out.size;simp;omega
       case c7=>simp
       intro g' cap w1 gu Ex rR hlg;have bN:Hid (Below w.heap.size w w1):=(jW.out.alloc (by have:=jW.out.size;omega) _).grown Ex (by have:=jW.out.size;simp;omega) (fun j hj=>(qU.out.lt j hj).1)
       have jE:Hid (w1.ownsRow w.heap.size 3 1 (.slice (some ⟨g',0,none⟩) (L2+1) cap) (L2+1) (j7 (dU T (64*k+(t+1))))):=by
        show World.ownsRow _ _ _ _ _ _ _
        rw [pT.out,uj];exact gu
       have sI:Hid ((dU T (64*k+(t+1))).length=L2+1):=by
        show _=_
        rw [pT.out,ae,HL.out];rfl
       clear gu Ex rR hlg qU jW G3;go_wp2;go_roundw
       case rel=>exact ⟨t+1,z2,by omega,HZ2,rfl,by show _≤_;rw [sI.out];omega,by rw [sI.out];exact jE.out,bN.out⟩
       case measure=>simp [intOf];omega
      ·have Z7:¬ ((dU T (64*k+q)).length:Int)<(N:Int):=by omega
       have hzI:((zz:Int) != 0)=true:=by simp;omega
       have adu:=wj.out;have heq:(dU T (64*k+q)).length=N:=by omega
       have HEQ:=ab heq;have qU:=ab aF;have jW:=ab bO;clear aF bO heq adu G8;generalize hL:(dU T (64*k+q)).length=L2 at *;have HL:=ab hL;clear hL;go_wp2;go_roundw
       case rel =>
        refine ⟨k+1,64*k+q,by omega,by omega,by go_num,.inr ?_,?_,?_,jW.out⟩
        ·rw [HL.out];exact HEQ.out
        ·rw [HL.out];exact wj.out
        ·rw [HL.out];exact qU.out
       case measure=>simp [intOf];omega
   ·have heq:(dU T m).length=N:=by omega
    have Z7:¬ ((dU T m).length:Int)<(N:Int):=by omega
    have ch:Hid (eT T P N=dU T m):=by
     show (dU T P).take N=_
     rw [← HF.out];obtain ⟨r,hr⟩:=Jz T (show m≤64*n by omega)
     rw [hr,← heq,eu]
    have qU:=ab aF;have jW:=ab bO;clear aF bO heq X4;generalize hL:(dU T m).length=L at *;have HL:=ab hL;clear hL;go_wp2;go_ret;exact ⟨_,rfl,by rw [ch.out,HL.out];exact qU.out,jW.out⟩
  ·have nU:k=n:=by omega
   have hkI:¬ (k:Int)<(n:Int):=by omega
   have ch:Hid (eT T P N=dU T m):=by
    show (dU T P).take N=_
    rw [← HF.out];rcases X4 with h | h
    ·rw [← nU,← h,al hle]
    ·obtain ⟨r,hr⟩:=Jz T (show m≤64*n by omega)
     rw [hr,← h,eu]
   have qU:=ab aF;have jW:=ab bO;clear aF bO X4 nU hm;generalize hL:(dU T m).length=L at *;have HL:=ab hL;clear hL;go_wp2;go_ret;exact ⟨_,rfl,by rw [ch.out,HL.out];exact qU.out,jW.out⟩
def jd(P:Nat)(T:Nat→Bool)(n:Int):Option Nat × List Nat × (Nat→Bool) :=
 if n<0 then (some 0,[],T) else if (dU T P).length<n.toNat then (some 6,[],T) else (none,eT T P n.toNat,gl T (eT T P n.toNat))
theorem rE{T:Nat→Bool}{P N j:Nat}(h:j ∈ eT T P N):j<P∧T j=false:=(js T).1 (bn h)
theorem xN(T:Nat→Bool)(P N:Nat):(eT T P N).length=min N (dU T P).length:=by unfold eT;rw [ag]
theorem wJ(base:Nat)(A:Nat→Addr)(b g P:Nat)(T:Nat→Bool)(n:Int)(w:World)(h:dj w b g P T)(hk:kn P T)(hE:Env base A w):Calls prog 70 #[.pointer (some ⟨b,0,none⟩),.int .i64 n] w fun e w'=>∃ v,e = .returned (.tuple #[v,gC A (jd P T n).1])∧w'.ownsRow w.heap.size 3 1 v (jd P T n).2.1.length (j7 (jd P T n).2.1)∧dj w' b g P (jd P T n).2.2∧eF (fun k=>k=g) w w':=by
 by_cases PO:n<0
 ·have HD:Hid (jd P T n=(some 0,[],T)):=by show jd P T n=_;simp [jd,PO]
  rw [HD.out];have c:w.cell? ⟨0,0,none⟩=some (.iface 360 (.pointer (some (A 0)))):=hE.e 0 (by decide)
  have H:=ab h;clear h hk hE;go_enter func70,ntmps70;go_wp2_with fail;go_quiet (fail)
  have hb:Below w.heap.size w (w.drewN nq):=⟨rfl,rfl,rfl,aj _,fun _ _=>rfl⟩
  have HB:=ab hb;clear hb;go_wp2_with fail;go_ret2;exact ⟨_,rfl,World.ownsRow_nil _ _ _ _,H.out.below HB.out,eF.bo HB.out⟩
 ·obtain ⟨N,rfl⟩ : ∃ N:Nat,n=N:=⟨n.toNat,by omega⟩
  have HL:=ab (SY b g P T N w h hk hE.tab);have H:=ab h;have HE:=ab hE;have hP:=h.hi;have yj:=h.Rz;have HG:=ab yj;clear h yj hE;by_cases hf:(dU T P).length<N
  ·have HD:Hid (jd P T (N:Int)=(some 6,[],T)):=by show jd P T (N:Int)=_;simp [jd,hf]
   rw [HD.out];have hlen:(eT T P N).length<N:=by rw [xN];omega
   have Z7:((eT T P N).length:Int)<(N:Int):=by omega
   clear hk hf;generalize eT T P N=l at *;go_enter func70,ntmps70;go_wp2_with fail;refine HL.out.mono ?_
   rintro e w1 ⟨v,rfl,aF,hb⟩;obtain ⟨a,c,rfl,-⟩:=ib aF;have c6:w1.cell? ⟨6,0,none⟩=some (.iface 360 (.pointer (some (A 6)))):=(HE.out.up hb).e 6 (by decide)
   have HB:=ab hb;clear hb aF HL;go_wp2_with fail;go_quiet (fail)
   have bG:Hid (Below w.heap.size w (w1.drewN nq)):=⟨HB.out.os,HB.out.tape,HB.out.output,HB.out.size,HB.out.block⟩;go_wp2_with fail;go_ret2;exact ⟨_,rfl,World.ownsRow_nil _ _ _ _,H.out.below bG.out,eF.bo bG.out⟩
  ·have HD:Hid (jd P T (N:Int)=(none,eT T P N,gl T (eT T P N))):=by show jd P T (N:Int)=_;simp [jd,hf]
   rw [HD.out];have hlen:(eT T P N).length=N:=by rw [xN];omega
   have XA:Hid (∀ j ∈ eT T P N,j<P):=fun j hj=>(rE hj).1
   have hNP:N≤1048576:=by have:=Qp T P;omega
   clear hk hf;generalize eT T P N=l at *;subst hlen;go_enter func70,ntmps70;go_wp2_with fail;refine HL.out.mono ?_
   rintro e w1 ⟨v,rfl,aF,hb⟩;obtain ⟨a,c,rfl,UY⟩:=ib aF;have HB:=ab hb;have qU:=ab aF;have Nc:=ab UY;clear hb aF UY HL;obtain ⟨N,hN⟩ : ∃ N,N=l.length:=⟨_,rfl⟩;rw [← hN] at hNP qU Nc ⊢;have HN:=ab hN;clear hN;go_wp2_with fail;go_loopw [22] (fun i wr=>∃ k:Nat,k≤N∧i = .int .i64 k∧dj wr b g P (gl T (l.take k))∧eF (fun k=>k=g) w1 wr) (fun i _=>N - (intOf i).toNat)
   case atStart=>exact ⟨0,aB _,rfl,by rw [List.take_zero,Nz];exact H.out.below HB.out,eF.refl _ _⟩
   case round =>
    obtain ⟨k,hk,rfl,hm,ho⟩:=hrel;by_cases bK:k<N
    ·obtain ⟨g2,rfl⟩:=Nc.out (by omega)
     have my:k<l.length:=by rw [← HN.out];exact bK
     have hgg:g2≠g:=by have:=(eD qU.out g2 rfl).1;have:=HG.out;omega
     have ce:w1.cell? ⟨g2,k,none⟩=some (.int .i64 (l[k] : Int)):=by rw [qU.out.cellAt k (by omega)];exact OM l k my
     have ce2:wr.cell? ⟨g2,k,none⟩=some (.int .i64 (l[k] : Int)):=ho.cell ce hgg;have hlP:=XA.out l[k] (aI my);have HS:=ab (Bu b g P _ l[k] wr hm (by have:=xI P;omega))
     have Yk:Hid (lE (gl T (l.take k)) l[k] true=gl T (l.take (k+1))):=by
      show _=_
      rw [J6,ax my]
     rw [Yk.out] at HS;generalize l[k]=x at *;have HO:=ab ho;have hkI:(k:Int)<(N:Int):=by omega
     clear hm ho ce my;go_wp2_with fail;refine HS.out.mono ?_
     rintro e w2 ⟨rfl,h2,o2⟩;have H2:=ab h2;have O2:=ab (HO.out.trans o2);clear h2 o2 HS HO ce2;go_wp2;go_roundw
     case rel=>exact ⟨k+1,by omega,by go_num,H2.out,O2.out⟩
     case measure=>simp [intOf];omega
    ·have he:k=N:=by omega
     have hkI:¬ (k:Int)<(N:Int):=by omega
     have H1:Hid (dj wr b g P (gl T l)):=by
      rw [he,HN.out,l8] at hm;exact hm
     have O1:=ab ho;clear hm ho;go_wp2;go_ret2;refine ⟨_,rfl,?_,H1.out,(eF.bo HB.out).trans O1.out⟩;refine Ar ?_ O1.out (fun k RP=>?_)
     ·show w1.ownsRow _ _ _ _ _ _
      rw [← HN.out];exact qU.out
     ·have:=(eD qU.out k RP).1;have:=HG.out;show ¬ k=g
      omega
theorem info68:(prog.info? 40).map (fun i=>(i.zero,i.size,i.bytes))=some (some (.int .u64 0),1,8):=by kernel_rfl
theorem VS:(prog.info? 40).map (·.size)=some 1:=by kernel_rfl
theorem Iv:∀ n,wd (fun _=>false) n=0
 | 0=>rfl
 | n+1=>by rw [wd,Iv n];rfl
theorem GN(n:Nat):(madeCells (Value.int .u64 0).cells (n*1)).toList=fj (fun _=>false) n:=by
 apply qd
 intro i;by_cases hi:i<n
 ·rw [gQ _ _ _ hi];simp [madeCells,Value.cells,hi,word,Iv,Nat.mod_one]
 ·rw [bB (by simp [madeCells];omega),bB (by rw [cz];omega)]
theorem xL(w:World)(n:Nat)(hn:n≤16384):∃ w',(Instr.makeSlice 129 (.int .i64 (n:Int)) (.int .i64 (n:Int))).run prog w = .ok (.slice (some ⟨w.heap.size,0,none⟩) n n) w'∧w'.ownsRow w.heap.size 40 1 (.slice (some ⟨w.heap.size,0,none⟩) n n) n (fj (fun _=>false) n)∧Below w.heap.size w w'∧w.heap.size<w'.heap.size:=by
 obtain ⟨i0,hi,hz,b8,kP⟩:=info_parts info68;obtain ⟨w',hr,ho,hg⟩:=run_makeSlice_full (P:=prog) w w.heap.size 129 40 i0 _ 1 underlying129 hi hz b8   .i64 .i64 n (by omega) (by rw [kP];omega) (by unfold maxLen;omega) (aj _)
 rw [GN] at ho;exact ⟨w',hr,ho,(Below.refl _ _).grown hg (aj _) (fun j h=>by cases h),(eD ho _ rfl).2.1⟩
theorem FY(T:Nat→Bool)(n:Nat):∀ u ∈ fj T n,u.oneCell'=true:=by
 intro u hu;simp only [fj,List.mem_map] at hu;obtain ⟨c,_,rfl⟩:=hu;rfl
theorem QI(b g P:Nat)(T:Nat→Bool)(w:World)(h:dj w b g P T):Calls prog 69 #[.pointer (some ⟨b,0,none⟩)] w fun e w'=>∃ b' g',e = .returned (.pointer (some ⟨b',0,none⟩))∧w.heap.size≤b'∧w.heap.size≤g'∧dj w' b' g' P T∧Below w.heap.size w w':=by
 have c1:=h.c1;have hn:=xJ h.hi;obtain ⟨w1,oG,kI,aM,ke⟩:=xL w (nW P) hn;have h1:=h.below aM;have d0:=h1.c0;have d1:=h1.c1;obtain ⟨cur,oI⟩:=(eD kI _ rfl).2.2;have fI:cur.size=nW P:=by
  rcases kI.2 with ⟨h',_⟩ | ⟨g',cap,fJ,h',_,vT,_,_,fI,_⟩
  ·cases h'
  ·cases h'
   rw [oI] at vT;cases vT;omega
 have tn:=run_copy_row (P:=prog) w1 129 129 3 40 w.heap.size 0 (nW P) (nW P) ⟨g,0,none⟩ (nW P) (nW P) cur 40 (fj T (nW P)) underlying129 VS oI (by rw [cz];exact (lB _).symm)
  (fun j v hv=>by
   by_cases hj:j<nW P
   ·rw [gQ _ _ _ hj] at hv;cases hv;rw [bt,Nat.zero_add];exact h1.cw j hj
   ·rw [bB (by rw [cz];omega)] at hv;cases hv) (by rw [cz];omega) (FY _ _)
 obtain ⟨w2,GY⟩ : ∃ w2,w2=w1.setRow w.heap.size (cur.toList.take 0++fj T (nW P)++cur.toList.drop (0+(fj T (nW P)).length)).toArray:=⟨_,rfl⟩;rw [← GY] at tn;rw [show goInt (fj T (nW P)).length=goInt (nW P) by rw [cz]] at tn
 have aS:Below w.heap.size w w2:=by
  rw [GY];exact ⟨aM.os,aM.tape,aM.output,by rw [size_setRow];exact aM.size,fun k hk=>by rw [setRow_other _ _ _ _ (by omega)];exact aM.block k hk⟩
 have vo:w2.heap[w.heap.size]?=some (.cells (cur.toList.take 0++fj T (nW P)++cur.toList.drop (0+(fj T (nW P)).length)).toArray 40 (0,0)):=by
  rw [GY];exact setRow_heap _ _ _ _ _ _ oI
 have ja:w2.ownsRow 0 40 1 (.slice (some ⟨w.heap.size,0,none⟩) (nW P) (nW P)) (nW P) (fj T (nW P)):=by
  refine ⟨by rw [cz];omega,.inr ⟨w.heap.size,nW P,_,rfl,aB _,vo,aj _,by unfold maxLen;omega,?_,?_⟩⟩
  ·simp [cz];omega
  ·simp [cz]
 have h2:=h.below aS;have e0:=h2.c0;have e1:=h2.c1;have bG:=ab aS;have jE:=ab ja;have HS:=ab (lt_of_heap vo);have hP:=h.hi;have HP:=ab hP;have HM:Hid (∀ n,n=nW P→dj (w2.alloc (.cells #[.int .i64 P,.slice (some ⟨w.heap.size,0,none⟩) n n] 131)) w2.heap.size w.heap.size P T):=fun n hn=>by
  subst hn;exact ⟨heap_alloc_new _ _,xA jE.out (ai _ _),HP.out⟩
 obtain ⟨n,hN⟩ : ∃ n,n=nW P:=⟨_,rfl⟩;rw [← hN] at c1 hn oG d1 e1 tn;have HMN:=ab (HM.out n hN);have Ct:goInt n = .int .i64 (n:Int):=by simp [goInt]
 rw [Ct] at tn;clear Ct HM hN hP kI aM ke h1 oI fI GY aS vo ja h2 h;go_enter func69,ntmps69;go_wp2_with fail;go_ret;exact ⟨_,_,rfl,by have:=bG.out.size;omega,aj _,HMN.out,bG.out.alloc bG.out.size _⟩
def T0(P:Nat):Nat→Bool:=fun j=>decide (j<2) || decide (P≤j)
theorem UL{P:Nat}(h1:4≤P)(h2:P≤1048576):kn P (T0 P):=⟨h1,h2,by simp [T0],by simp [T0],fun j hj=>by simp [T0,hj]⟩
theorem FV{T T':Nat→Bool}{n i:Nat}(h:∀ j,j<64*n→T j=T' j)(hi:i<n):word T i=word T' i:=by
 apply dX
 intro j;rw [dN,dN];by_cases hj:j<64
 ·rw [h _ (by omega)]
 ·simp [hj]
theorem Bf{T T':Nat→Bool}{n:Nat}(h:∀ j,j<64*n→T j=T' j):fj T n=fj T' n:=by
 apply qd
 intro i;by_cases hi:i<n
 ·rw [gQ _ _ _ hi,gQ _ _ _ hi,FV h hi]
 ·rw [bB (by rw [cz];omega),bB (by rw [cz];omega)]
theorem dj.congr{w:World}{b g P:Nat}{T T':Nat→Bool}(h:dj w b g P T)(he:∀ j,j<64*nW P→T j=T' j):dj w b g P T' :=
 ⟨h.dF,by rw [← Bf he];exact h.Nu,h.hi⟩
theorem vL(P:Nat)(w:World)(h4:4≤P)(hP:P≤1048576):Calls prog 39 #[.int .i64 (P:Int)] w fun e w'=>∃ b g,e = .returned (.tuple #[.pointer (some ⟨b,0,none⟩),.nilIface])∧w.heap.size≤b∧w.heap.size≤g∧dj w' b g P (T0 P)∧Below w.heap.size w w':=by
 have hn:=xJ hP;have pz:=xI P;obtain ⟨w1,oG,kI,aM,ke⟩:=xL w (nW P) hn;have fs:dj (w1.alloc (.cells #[.int .i64 P,.slice (some ⟨w.heap.size,0,none⟩) (nW P) (nW P)] 131)) w1.heap.size w.heap.size P (fun _=>false) :=
  ⟨heap_alloc_new _ _,KN (xA kI (ai _ _)) (aB _),hP⟩
 have HS:=ab (wQ w1.heap.size w.heap.size P _ 0 2 _ fs (by omega) (by omega))
 have bN:Hid (Below w.heap.size w (w1.alloc (.cells #[.int .i64 P,.slice (some ⟨w.heap.size,0,none⟩) (nW P) (nW P)] 131))):=aM.alloc aM.size _;have mh:=ab ke;have EC:((P:Int)+63) / 64=(nW P:Int):=by unfold nW;omega
 have hq:((P:Int)+64 - 1) / 64=(nW P:Int):=by unfold nW;omega
 have Xt:Hid (P≤64*nW P):=pz;clear kI aM ke fs pz;obtain ⟨n,hN⟩ : ∃ n,n=nW P:=⟨_,rfl⟩;rw [← hN] at hn oG HS bN EC hq;have HN:=ab hN;clear hN;go_enter func39,ntmps39;go_wp2_with fail;refine HS.out.mono ?_
 rintro e w2 ⟨rfl,h2,o2⟩;have lD:=ab (wQ w1.heap.size w.heap.size P _ P (64*nW P) _ h2 Xt.out (aj _));have c1:=h2.c1;rw [← HN.out] at c1 lD;have bG:Hid (Below w.heap.size w w2):=by
  have hb:Below w.heap.size (w1.alloc (.cells #[.int .i64 P,.slice (some ⟨w.heap.size,0,none⟩) n n] 131)) w2:=o2.below (fun k hk=>by show w.heap.size≤k;rw [show k=w.heap.size from hk];exact aj _) bN.out.size
  exact bN.out.trans hb
 clear h2 o2 HS;generalize hW:w1.heap.size=b1 at *;have HWB:=ab hW;clear hW oG;have h64:IntKind.i64.wrap ((n:Int)*64)=((64*n:Nat):Int):=by rw [IntKind.wrap_i64];omega
 obtain ⟨m,hm⟩ : ∃ m,m=64*n:=⟨_,rfl⟩;rw [← hm] at h64 lD;have HM:=ab hm;have hmI:(n:Int)*64=(m:Int):=by omega
 clear hm;go_wp2_with fail;refine lD.out.mono ?_
 rintro e w3 ⟨rfl,h3,o3⟩;have Xd:=h3.congr (T':=T0 P) (fun j hj=>by
  unfold CO T0;have hm:=HM.out;rw [HN.out] at hm;have:j<m:=by omega
  simp [this])
 have H3:=ab Xd;have eG:Hid (Below w.heap.size w w3):=bG.out.trans (o3.below (fun k hk=>by show w.heap.size≤k;rw [show k=w.heap.size from hk];exact aj _) bG.out.size)
 clear h3 Xd o3 lD;go_wp2_with fail;go_ret2;exact ⟨_,_,rfl,by have:=HWB.out;have:=mh.out;omega,aj _,H3.out,eG.out⟩
end Q
end Go.Proofs.YtihmgigfkmofnaaGreatDoor
