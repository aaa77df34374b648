import Derived.Test.YtihmgigfkmofnaaGreatDoorG39
import Derived.Test.YtihmgigfkmofnaaGreatDoorRows
import Derived.ProofKit
import Derived.LaidMore
import Derived.LaidSub
import Derived.Lay
import Derived.OpenShut
import Derived.Stop.Joined
import Derived.Lib.LaidTab
import Derived.Lib.SmallJoins
import Derived.SizedLaws
import Derived.ChangeMaps5
import Derived.Deep.Slices
set_option maxHeartbeats 16000000
set_option maxRecDepth 100000
open Go.Proofs.Tryz
namespace Go.Proofs.YtihmgigfkmofnaaGreatDoor
namespace T
open Go.RowKit
structure En(T:Nat→Bool)(n:Nat):Prop where
 le:n≤(Q.dU T 4000).length
theorem En.less{T:Nat→Bool}{n m:Nat}(h:En T n)(hm:m≤n):En T m:=⟨ar hm h.le⟩
theorem En.free{T:Nat→Bool}{n:Nat}(h:En T n):(Q.dU (pI T 4000 n) 4000).length=n:=by
 rw [rf,ag];exact a6 h.le
theorem NY{T:Nat→Bool}{P:Nat}(i j:Nat)(hj:T j=true):pI T P i j=true:=by
 have:j ∉ (Q.dU T P).take i:=fun hm=>by have:=((Q.js T).1 (bn hm)).2;rw [hj] at this;cases this
 unfold pI B3 Q.gl;simp [this,hj]
theorem D5(P:Nat→Nat)(r:cC):(fH P r).2.length=dO r:=by
 cases r with
 | none=>rfl
 | some x=>exact nu x.1 x.2 0
theorem Ss(tx:Nat)(x:Nat × PD):(gK tx x).id=(x.1:Int)∧(gK tx x).pG=tx:=by
 obtain ⟨i,p⟩:=x;cases p <;> exact ⟨rfl,rfl⟩
theorem Pj(L:List Nat)(r:cC)(h:L.length=dO r):(fH (eB L) r).2.map (·.1)=L:=by
 cases r with
 | none =>
  have:L=[]:=List.length_eq_zero_iff.1 h;subst this;rfl
 | some x =>
  have h1:=vO (P:=eB L) x.1 x.2 0;have h2:=D5 (eB L) (some x);show (aV (eB L) x.1 x.2 0).2.map (·.1)=L
  have h3:(aV (eB L) x.1 x.2 0).2.length=L.length:=by rw [h];exact h2
  rw [h1,h3,yb]
theorem S9(L:List Nat)(r:cC)(h:L.length=dO r)(i:Nat)(hi:i<((fH (eB L) r).2.map (gK 7)).length):(((fH (eB L) r).2.map (gK 7))[i]).id=((L.getD i 0:Nat):Int)∧(((fH (eB L) r).2.map (gK 7))[i]).pG=7:=by
 have h1:=Pj L r h;rw [az] at hi;rw [bT];have h2:=Ss 7 ((fH (eB L) r).2[i]);refine ⟨?_,h2.2⟩;rw [h2.1];have h3:L.getD i 0=((fH (eB L) r).2[i]).1:=by
  conv=>lhs;rw [← h1]
  rw [aE,aL,af hi];rfl
 rw [h3]
theorem Nx{T:Nat→Bool}{P:Nat}:Q.dU (Q.gl T (Q.dU T P)) P=[]:=by
 refine EG List.Pairwise.nil (fun j hj=>?_) (fun j hj=>by simp at hj)
 constructor
 ·intro h;exfalso
  by_cases ht:T j=true
  ·simp [Q.gl,ht] at h
  ·have:j ∈ Q.dU T P:=(Q.js T).2 ⟨hj,by simpa using ht⟩
   simp [Q.gl,this] at h
 ·intro h;simp at h
theorem SH(i:Int)(n:Nat)(w:World)(h2:n≤2000000):Calls prog 33 #[.int .i64 i,.int .i64 (n:Int)] w fun e w'=>∃ s:Nat,(0<n→s<n)∧e = .returned (.int .i64 (s:Int))∧w=w':=by
 rcases Nat.eq_zero_or_pos n with h | h
 ·subst h;exact (KI i w).mono fun e w' ⟨h1,h2⟩=>⟨0,fun h=>absurd h (Nat.lt_irrefl _),h1,h2⟩
 ·exact (KH i n w h h2).mono fun e w' ⟨s,h1,h2,h3⟩=>⟨s,fun _=>h1,h2,h3⟩
theorem Qo{A:Nat→Addr}(jZ:Int)(sv:Value)(ks:List LS)(w:World)(hE:S.Env w.heap.size A w)(hG:dy 13 eV A w)(pz:∀ i,i<13→eV i<w.heap.size∧(A i).block<w.heap.size)(M7:Q.Env w.heap.size A w)(hs:Ia w sv ks)(_hkl:ks.length≤140737488355328)(jo:∀ s ∈ ks,s.key.size≤140737488355328∧s.value.size≤140737488355328∧s.n≤9223372036854775807):Calls prog 7 #[.agg #[.int .i64 jZ,sv]] w fun e w'=>e = .returned (.bool true)∧Below w.heap.size w w':=by
 obtain ⟨sa,sc,Zk⟩ : ∃ a c,sv = .slice a ks.length c:=by obtain ⟨a,c,h,_⟩:=hs;exact ⟨a,c,h⟩
 subst Zk;obtain ⟨K,hK⟩ : ∃ K,K=ks.length:=⟨_,rfl⟩;rw [← hK] at hs ⊢;obtain ⟨W1,gL⟩ : ∃ W1,w.alloc (.cells #[.int .i64 jZ,.slice sa K sc] 37)=W1:=⟨_,rfl⟩;have q0:=ai w (.cells #[.int .i64 jZ,.slice sa K sc] 37);have x0:=B.au.new w #[.int .i64 jZ,.slice sa K sc] 37;rw [gL] at q0 x0;have Eh:W1.heap.size=w.heap.size+1:=by rw [← gL];simp
 obtain ⟨XB,qE⟩ : ∃ XB,XB=w.heap.size:=⟨_,rfl⟩;have pS:=ab (Gq jZ (.slice sa K sc) ks W1 (Ag (hE.up q0) (by omega) (by omega)) (hG.keep q0) (fun i hi=>by have:=pz i hi;omega) (Al (M7.keep q0) (by omega) (by omega)) (hs.below q0) (by omega) jo)
 have HX:=ab x0;have Nh:=ab q0;have b0:=x0.c0;have b1:=x0.c1;rw [← gL] at b0 b1;obtain ⟨Q0,BW⟩ : ∃ Q0:Ending→World→Prop,Q0=fun e w'=>e = .returned (.bool true)∧Below w.heap.size w w':=⟨_,rfl⟩
 rw [← BW];have HQ:=ab BW;have we:=ab gL;have Fu:=ab Eh;have WY:=ab qE;clear hE hG pz M7 hs jo hK q0 x0 Eh BW gL qE;go_enter func7,ntmps7;go_wp2_with fail;rw [we.out];refine pS.out.mono ?_
 rintro e w2 ⟨base,W',ob,db,rfl,Zj,bO,Ls⟩;obtain ⟨tb,fb,fg,F,d,r,T,wv,root,tx,h1,h2,h3,h4⟩:=Zj.out;have tp:=kj h4.ts.ok;have Ye:=Ls w2 h4.eZ;obtain ⟨N,hN⟩ : ∃ N,N=dO r:=⟨_,rfl⟩;have hNb:N≤1000:=by omega
 have Il:=ab (iz h4.ts (by omega))
 rw [← hN] at Il;have o3:=h4.c.1;have UC:=ab h4;have HN:=ab hN;have Ck:Hid (En T 3000):=⟨h3⟩;have sI:Hid ((aD r).length≤302):=h1;have JT:Hid (∀ W,Below base W' W→Below W1.heap.size W1 W):=Ls;have xc:w2.cell? ⟨w.heap.size,0,none⟩=some (.int .i64 jZ):=(Ye.cell (p:=⟨w.heap.size,0,none⟩) (by show w.heap.size<_;have:=Fu.out;omega)).trans HX.out.c0
 clear Zj bO Ls h1 h2 h3 h4 tp Ye hN pS b0 b1;go_wp2_with fail;refine Il.out.mono ?_
 rintro e w2' ⟨rfl,rfl⟩;have Yp:=ab (SH jZ N w2 (by omega))
 clear Il;go_wp2_with fail;refine Yp.out.mono ?_
 rintro e w2' ⟨s,Zx,rfl,rfl⟩;have Yk:=ab Zx;clear Zx Yp;go_upto_if 35 with fail
 go_cut [7,8,9,10,11] (fun _ _ _ _ _ wx=>Os base A W' wx ob db tb fb fg F d r T wv root tx (aD r))
 case first =>
  by_cases hN0:0<N
  ·have Zx:=Yk.out hN0;have gU:En T s:=Ck.out.less (by omega)
   have Nc:=ab (Ac (base:=base) (A:=A) s w2 UC.out.c.2.2.2.2.1 UC.out.mp.map UC.out.mp.ok UC.out.env gU.le);have CD:=ab gU;have AV:decide ((0:Int)<(N:Int))=true:=decide_eq_true (by omega)
   have Jo:decide (0<N)=true:=decide_eq_true hN0;have JN:=ab Zx;clear Zx gU xc o3;clear JT we Nh HX Fu WY Yk;go_wp2_with fail;refine Nc.out.mono ?_
   rintro e w3 ⟨b,g,a,c,rfl,hb,hg,sA,_,bQ⟩;have h5:=UC.out.below bQ;have PA:=CD.out.free;have wh:=ab (KE (tx:=7) h5.ts h5.env sA (Bm h5.mp.ok s) (by rw [PA,← HN.out];exact JN.out) (by rw [← HN.out];omega))
   rw [show ((7:Nat):Int)=7 from rfl] at wh
   have o3:=h5.c.1;have eG:=ab bQ;have HG:Hid (w2.heap.size≤g):=hg;have HSF:Hid (∀ W,Q.dj W b g 4000 (pI T 4000 s)→Calls prog 36 #[.pointer (some ⟨b,0,none⟩)] W fun e w'=>e = .returned (.int .i64 (s:Int))∧W=w'):=fun W hW=>by
    have:=Q.rV b g 4000 (pI T 4000 s) W hW (Bm UC.out.mp.ok s);rw [PA] at this;exact this
   clear hb hg sA bQ h5 PA Nc CD;go_wp2_with fail;refine wh.out.mono ?_
   rintro e w4 ⟨rfl,ZZ,PK⟩;have fW:Below w2.heap.size w2 w4:=eG.out.trans (PK.below (base:=w2.heap.size) (fun k hk=>by rw [hk];exact HG.out) eG.out.size)
   have h6:=UC.out.below fW;obtain ⟨wa,wn,wc,Jj⟩:=gr h6.want;subst Jj;have R0:Hid (∀ W,Below w4.heap.size w4 W→Calls prog 14 #[.iface 360 (.pointer (some (A 6)))] W fun e w'=>e = .returned (.int .i64 7)∧W=w'):=fun W hW=>OJ A W (h6.below hW).ts.dv.errs
   have HFE:Hid (∀ W,Below w4.heap.size w4 W→Calls prog 36 #[.pointer (some ⟨b,0,none⟩)] W fun e w'=>e = .returned (.int .i64 (s:Int))∧W=w'):=fun W hW=>HSF.out W (ZZ.below hW)
   have abB:Hid (∀ W,Below w4.heap.size w4 W→Calls prog 20 #[.pointer (some ⟨tb,0,none⟩)] W fun e w'=>e = .returned (.int .i64 (N:Int))∧W=w'):=fun W hW=>by
    rw [HN.out];exact iz (h6.below hW).ts (by rw [← HN.out];omega)
   have Rt:Hid (∀ W,Below w4.heap.size w4 W→Calls prog 23 #[.pointer (some ⟨tb,0,none⟩),.slice wa wn wc] W fun e w'=>e = .returned (.bool true)∧Os base A W' w' ob db tb fb fg F d r T (.slice wa wn wc) root tx (aD r)):=fun W hW=>SO (h6.below hW) (by have:=sI.out;omega) (.inl ⟨rfl,rfl⟩)
   have o3:=h6.c.1;have o4:=h6.c.2.1;have dE:((s:Int) != (s:Int))=false:=by simp
   have hNN:((N:Int) != (N:Int))=false:=by simp
   clear ZZ PK fW h6 wh HSF eG HG Ck JN sI HN;go_wp2_with fail;go_region_held3 (fun w'=>w'.cell? ⟨ob,3,none⟩=some (.pointer (some ⟨tb,0,none⟩))∧w'.cell? ⟨ob,4,none⟩=some (.slice wa wn wc)) (go_keep)
    (first
     | (go_at_call 14;refine (R0.out _ (by first | exact Below.refl _ _ | exact B.aK (Below.refl _ _) | exact aA (Below.refl _ _) _)).mono ?_;rintro e wA ⟨rfl,rfl⟩)
     | (go_at_call 36;refine (HFE.out _ (by first | exact Below.refl _ _ | exact B.aK (Below.refl _ _) | exact aA (Below.refl _ _) _)).mono ?_;rintro e wA ⟨rfl,rfl⟩)
     | (go_at_call 20;refine (abB.out _ (by first | exact Below.refl _ _ | exact B.aK (Below.refl _ _) | exact aA (Below.refl _ _) _)).mono ?_;rintro e wA ⟨rfl,rfl⟩)
     | (go_at_call 23;refine (Rt.out _ (by first | exact Below.refl _ _ | exact B.aK (Below.refl _ _) | exact aA (Below.refl _ _) _)).mono ?_;rintro e wA ⟨rfl,ho9⟩;have q3:=ho9.c.1;have q4:=ho9.c.2.1;have HO9:=ab ho9;clear ho9))
   all_goals
    clear R0 HFE abB Rt o3 o4;go_wp2_with fail;go_meet
    exact HO9.out
  ·have hN9:N=0:=by omega
   clear hN0;subst hN9;clear Ck sI JT HQ we Nh HX xc o3 Fu WY Yk HN;go_wp2_with fail;go_meet
   case rel=>exact UC.out
 case rest =>
  obtain ⟨wa,wn,wc',Jj⟩:=gr hcut.want;subst Jj;have gU:En T N:=Ck.out.less (by omega)
  have Nc:=ab (Ac (base:=base) (A:=A) N wc hcut.c.2.2.2.2.1 hcut.mp.map hcut.mp.ok hcut.env gU.le);have HC:=ab hcut;have CD:=ab gU;have me:Hid (∀ W,Below base W' W→Below w.heap.size w W):=fun W h=>Below.next Nh.out (JT.out W h)
  clear hcut gU UC Yk Ck xc o3 we Nh HX Fu WY JT;go_wp2_with fail;refine Nc.out.mono ?_
  rintro e w5 ⟨b,g,a,c,rfl,hb,hg,hm5,PW,lH⟩;have h7:=HC.out.below lH;have PA:=CD.out.free;have vj:=HC.out.new hg;have G7:=HC.out.new hb;have Jq:=HC.out.env.size;have hMp:Mp base F tb w5 b g 4000 (pI T 4000 N):=⟨hm5,Bm h7.mp.ok N,⟨by omega,by omega⟩,⟨vj.1,G7.1⟩,⟨vj.2.1,G7.2.1⟩⟩
  have vl:Q.eT (pI T 4000 N) 4000 (dO r)=(Q.dU T 4000).take N:=by
   unfold Q.eT;rw [rf,← HN.out,fM,lB]
  have zB:=xl (tx:=7) h7.ts h7.env hMp (by rw [PA,HN.out];exact aj _) (by rw [← HN.out];omega) h7.nd (fun i hi=>NY N i (h7.pt i hi))
  rw [vl] at zB;obtain ⟨L,hL⟩ : ∃ L,L=(Q.dU T 4000).take N:=⟨_,rfl⟩;rw [← hL] at zB;have FL:L.length=dO r:=by rw [hL,← rf,PA,HN.out]
  have abr:Hid (∀ j,j<N→∃ g',a=some ⟨g',0,none⟩∧g'≠g∧g'≠tb∧w5.cell? ⟨g',j,none⟩=some (.int .i64 ((L.getD j 0:Nat):Int))):=fun j hj=>by
   obtain ⟨g',h1,h2,h3,h4⟩:=PW j hj;refine ⟨g',h1,h3,(HC.out.new h2).2.1,?_⟩;rw [h4,hL,aE,aE,List.getElem?_take_of_lt hj]
  have vA:Hid (∀ i (hi:i<((fH (eB L) r).2.map (gK 7)).length),(((fH (eB L) r).2.map (gK 7))[i]).id=((L.getD i 0:Nat):Int)∧(((fH (eB L) r).2.map (gK 7))[i]).pG=7):=fun i hi=>S9 L r FL i hi
  have HZL:Hid (((fH (eB L) r).2.map (gK 7)).length=N):=by
   show _=_
   rw [az,D5,HN.out]
  have X8:Q.dU (Q.gl (pI T 4000 N) L) 4000=[]:=by
   have:=Nx (T:=pI T 4000 N) (P:=4000);rw [rf,← hL] at this;exact this
  have VI:Hid (∀ W,Q.dj W b g 4000 (Q.gl (pI T 4000 N) L)→Q.kn 4000 (Q.gl (pI T 4000 N) L)→Calls prog 36 #[.pointer (some ⟨b,0,none⟩)] W fun e w'=>e = .returned (.int .i64 0)∧W=w'):=fun W h1 h2=>by
   have:=Q.rV b g 4000 _ W h1 h2;rw [X8] at this;exact this
  have HFE:Hid (Calls prog 36 #[.pointer (some ⟨b,0,none⟩)] w5 fun e w'=>e = .returned (.int .i64 (N:Int))∧w5=w'):=by
   have:=Q.rV b g 4000 (pI T 4000 N) w5 hm5 (Bm HC.out.mp.ok N);rw [PA] at this;exact this
  have o3:=h7.c.1;have pS:=ab zB;rw [show ((7:Nat):Int)=7 from rfl] at pS
  have iu:=ab lH;have HGN:Hid (wc.heap.size≤g):=hg;have Xt:Hid (base≤g∧base≤tb∧base≤wc.heap.size):=⟨by omega,HC.out.ts.lo.1,Jq⟩
  have hNN:((N:Int) != (N:Int))=false:=by simp
  clear hb hg hm5 PW lH h7 PA vj G7 Jq hMp vl zB hL FL X8 Nc CD HN sI;go_wp2_with fail;refine HFE.out.mono ?_
  rintro e w5' ⟨rfl,rfl⟩;clear HFE;go_wp2_with fail;refine pS.out.mono ?_
  rintro e w6 ⟨sv,rfl,AM,WB,bE,EC,eK⟩;obtain ⟨sa2,sc2,rfl⟩:=AM.form;have MM:=ab (se _ bE);have Bc:=ab (VI.out w6 WB.map WB.ok);have o9:w6.cell? ⟨ob,3,none⟩=some (.pointer (some ⟨tb,0,none⟩)):=by
   have h1:=HC.out.below iu.out;have h2:=h1.ap;refine bL (eK.block ob h1.row.lt (fun e=>?_)) h1.c.1
   rcases e with e | e
   ·have h3:=h1.row;have h4:w5.heap[ob]?=_:=h3;have:=(HC.out.row.lt);have hg:=HGN.out;omega
   ·exact h2.2.2.1 e
  have tu:Below base W' w6:=by
   have h1:=(HC.out.below iu.out).eZ;have hs5:base≤w5.heap.size:=ar Xt.out.2.2 iu.out.size;exact lz h1 ⟨eK.os,eK.tape,eK.output,eK.size,fun k hk=>eK.block k (by omega) (fun e=>by have:=Xt.out;rcases e with e | e <;> omega)⟩
  have mP:Hid (∀ q,Q0 (.returned (.bool true)) (w6.drewN q)):=fun q=>by
   rw [HQ.out];exact ⟨rfl,aA (me.out w6 tu) q⟩
  have HCE:Hid (∀ i,i<N→∃ g1 g2 x,sa2=some ⟨g1,0,none⟩∧a=some ⟨g2,0,none⟩∧w6.cell? ⟨g1,i*5+1,none⟩=some (.int .i64 x)∧w6.cell? ⟨g1,i*5+2,none⟩=some (.int .u64 7)∧w6.cell? ⟨g2,i,none⟩=some (.int .i64 x)):=fun i hi=>by
   have hz:i<((fH (eB L) r).2.map (gK 7)).length:=by rw [HZL.out];exact hi
   obtain ⟨g1,h1,_,_,h2,h3,_⟩:=AM.cells i hz;obtain ⟨g2,h4,h5,h6,h7⟩:=abr.out i hi;obtain ⟨e1,e2⟩:=vA.out i hz;rw [e1] at h2;rw [e2] at h3;exact ⟨g1,g2,_,h1,h4,h2,h3,bL (eK.block g2 (World.block_lt_of_cell? w5 _ h7) (fun e=>e.elim h5 h6)) h7⟩
  rw [HZL.out];generalize ((gI (fH (eB L) r).1:Nat):Int)=RN at *;clear AM WB bE EC eK tu pS VI abr vA HZL iu Xt me HQ HC HGN;go_wp2_with fail;refine Bc.out.mono ?_
  rintro e w6' ⟨rfl,rfl⟩;go_wp2_with fail;refine MM.out.mono ?_
  rintro e w6' ⟨rfl,rfl⟩;clear Bc MM;go_wp2;go_loopw [17] (fun iv wr=>∃ (i q:Nat),iv = .int .i64 (i:Int)∧i≤N∧wr=w6.drewN q) (fun iv _=>N - (intOf iv).toNat)
  case atStart=>exact ⟨0,0,rfl,aB _,rfl⟩
  case round =>
   obtain ⟨i,q,rfl,hi,rfl⟩:=hrel;by_cases bK:i<N
   ·obtain ⟨g1,g2,x,rfl,rfl,c1,c2,c3⟩:=HCE.out i bK;have dK:(i:Int)<(N:Int):=by omega
    have e0:(0:Int)≤(i:Int):=by omega
    have Wi:(x != x)=false:=by simp
    clear HCE;go_wp2;go_quiet (fail)
    go_wp2;go_roundw
    case rel=>exact ⟨i+1,_,by go_num,by omega,rfl⟩
    case measure=>simp [intOf];omega
   ·have dK:¬ (i:Int)<(N:Int):=by omega
    clear HCE;go_wp2;exact mP.out q
end T
end Go.Proofs.YtihmgigfkmofnaaGreatDoor
namespace Go.Proofs.YtihmgigfkmofnaaGreatDoor.S
open Go.ChangeShapes Go.WideShapes Go.ChangeAt Go.WideMaps Go.WideElems Go.RowKit
theorem Qn:prog.globalNamed "copse/codec.halfByteSteps" = some 15:=by kernel_rfl
theorem VQ:(prog.globals[15]?).map (·.type)=some 330:=by kernel_rfl
theorem aaQ:prog.globalNamed "copse/sheet.layout" = some 14:=by kernel_rfl
theorem acL:(prog.globals[14]?).map (·.type)=some 327:=by kernel_rfl
theorem T9:prog.cellsOf 225=1:=by kernel_rfl
theorem yB:prog.cellsOf 330=16:=by kernel_rfl
theorem E3:prog.cellsOf 3=1:=by kernel_rfl
theorem QP:prog.cellsOf 327=10:=by kernel_rfl
theorem QN:prog.cellsOf 326=2:=by kernel_rfl
theorem n9{W:World}(h:laidMet prog [("copse/codec.halfByteSteps",Rows.laid_copse_codec_halfByteSteps)] W):Fk W:=by
 have e:(Rows.laid_copse_codec_halfByteSteps:DataW Unit)=Lib.tabData .u32 (Kh.map Int.ofNat):=by simp [Rows.laid_copse_codec_halfByteSteps,Lib.tabData,Kh]
 rw [e] at h;have hv:=Lib.tabIs_of_head Qn VQ underlying330 underlying225 T9 yB h;have hc:=World.var?_cell Qn hv;have h16:∀ j,j<16→W.cell? ⟨15,j,none⟩=some (.int .u32 (tab j:Nat)):=by
  intro j hj;have h1:=hc j;rw [h1];have:∀ i:Fin 16,((Kh.map Int.ofNat).map fun z=>Value.int .u32 z).toArray[i.1]?=some (.int .u32 ((tab i.1:Nat):Int)):=by
   intro i;simp only [eO,List.getElem?_toArray,aL];have hi:i.1<Kh.length:=i.2;rw [af hi];simp only [kx,Function.comp];unfold tab;rw [List.getD,af hi];rfl
  exact this ⟨j,hj⟩
 refine ⟨h16,?_⟩;exact World.block_lt_of_cell? W _ (h16 0 (by decide))
theorem jh{W:World}{m:Nat}{a b:Value}{y:DataW Unit × List MemPlace}{p q:Int}(h:DataW.trod (fun _=>()) prog W 0 (fun _=>true) false m 326 [a,b]=some y)(hy:y.1 = .agg [.lit (.int .i64 p),.lit (.int .i64 q)]):a = .int .i64 p∧b = .int .i64 q:=by
 obtain ⟨y0,y1,n,rfl,_,h0,h1⟩:=trod_struct2 underlying326 h;have LA:DataW.trod (fun _=>()) prog W 0 (fun _=>true) false n 3 [a]=some y0:=by simpa [E3] using h0
 have Jw:DataW.trod (fun _=>()) prog W 0 (fun _=>true) false n 3 [b]=some y1:=by simpa [E3] using h1
 obtain ⟨k0,e0,rfl,_⟩:=DataW.trod_int underlying3 LA;obtain ⟨k1,e1,rfl,_⟩:=DataW.trod_int underlying3 Jw;simp only [List.cons.injEq,and_true] at e0 e1;subst e0 e1;simp only [DataW.agg.injEq,List.cons.injEq,DataW.lit.injEq,Lit.int.injEq,true_and,and_true] at hy;obtain ⟨rfl,rfl⟩:=hy;exact ⟨rfl,rfl⟩
theorem D3{W:World}(h:laidMet prog [("copse/sheet.layout",Rows.laid_copse_sheet_layout)] W):Lay W:=by
 obtain ⟨ps,⟨g,t,cs,fuel,p,q,hg,ht,Tj,hd,_,_⟩,_,_⟩:=h;obtain rfl:=Option.some.inj (aaQ.symm.trans hg);obtain rfl:=Option.some.inj (acL.symm.trans ht);have hc:=World.var?_cell aaQ Tj;obtain ⟨xs,m,_,hx,pP,Y5,hf⟩:=DataW.trod_array underlying327 hd;rw [QP] at pP;obtain ⟨cl⟩:=cs;match xs,Y5,cl,pP with
 | [y0,y1,y2,y3,y4],_,[v0,v1,v2,v3,v4,v5,v6,v7,v8,v9],_ =>
  have g0:=hf 0 (by decide)
  have g1:=hf 1 (by decide)
  have g2:=hf 2 (by decide)
  have g3:=hf 3 (by decide)
  have g4:=hf 4 (by decide)
  simp [QN] at g0 g1 g2 g3 g4
  have sw:=congrArg Prod.fst hx;simp only [Rows.laid_copse_sheet_layout,List.map_cons,List.map_nil,DataW.agg.injEq,List.cons.injEq,and_true] at sw;obtain ⟨x0,x1,x2,x3,x4⟩:=sw;obtain ⟨rfl,rfl⟩:=jh g0 x0.symm;obtain ⟨rfl,rfl⟩:=jh g1 x1.symm;obtain ⟨rfl,rfl⟩:=jh g2 x2.symm;obtain ⟨rfl,rfl⟩:=jh g3 x3.symm;obtain ⟨rfl,rfl⟩:=jh g4 x4.symm;have k0:=hc 0;have k1:=hc 1;have k2:=hc 2;have k3:=hc 3;have k4:=hc 4;have k5:=hc 5;have k6:=hc 6;have k7:=hc 7;have k8:=hc 8;have k9:=hc 9;simp at k0 k1 k2 k3 k4 k5 k6 k7 k8 k9
  exact ⟨World.block_lt_of_cell? W _ k0,k0,k1,k2,k3,k4,k5,k6,k7,k8,k9⟩
end Go.Proofs.YtihmgigfkmofnaaGreatDoor.S
namespace Go.Proofs.YtihmgigfkmofnaaGreatDoor
open Go.ChangeShapes Go.WideShapes Go.ChangeAt Go.WideMaps Go.WideElems Go.RowKit Go.Joins
theorem own:ownKnob prog.godebug=none:=by kernel_rfl
theorem laidOut:laidOutB prog=true:=by kernel_rfl
def B0:List (String × List UInt8):=[("copse/api.ErrArg",ie Rows.laid_copse_api_ErrArg),("copse/api.ErrText",ie Rows.laid_copse_api_ErrText),("copse/api.ErrMany",ie Rows.laid_copse_api_ErrMany),("copse/api.ErrShort",ie Rows.laid_copse_api_ErrShort),("copse/api.ErrTwice",ie Rows.laid_copse_api_ErrTwice),("copse/api.ErrLost",ie Rows.laid_copse_api_ErrLost),("copse/api.ErrFull",ie Rows.laid_copse_api_ErrFull),("copse/api.ErrDead",ie Rows.laid_copse_api_ErrDead),("copse/api.ErrCorrupt",ie Rows.laid_copse_api_ErrCorrupt),("copse/api.ErrStatus",ie Rows.laid_copse_api_ErrStatus),("copse/api.ErrTxid",ie Rows.laid_copse_api_ErrTxid),("copse/api.ErrOrder",ie Rows.laid_copse_api_ErrOrder),("copse/api.ErrKind",ie Rows.laid_copse_api_ErrKind)]
theorem LR:B0.map ON++[]=[("copse/api.ErrArg",Rows.laid_copse_api_ErrArg),("copse/api.ErrText",Rows.laid_copse_api_ErrText),("copse/api.ErrMany",Rows.laid_copse_api_ErrMany),("copse/api.ErrShort",Rows.laid_copse_api_ErrShort),("copse/api.ErrTwice",Rows.laid_copse_api_ErrTwice),("copse/api.ErrLost",Rows.laid_copse_api_ErrLost),("copse/api.ErrFull",Rows.laid_copse_api_ErrFull),("copse/api.ErrDead",Rows.laid_copse_api_ErrDead),("copse/api.ErrCorrupt",Rows.laid_copse_api_ErrCorrupt),("copse/api.ErrStatus",Rows.laid_copse_api_ErrStatus),("copse/api.ErrTxid",Rows.laid_copse_api_ErrTxid),("copse/api.ErrOrder",Rows.laid_copse_api_ErrOrder),("copse/api.ErrKind",Rows.laid_copse_api_ErrKind)]:=rfl
theorem Hn:((List.range 13).all fun i=>match B0[i]? with
  | some x=>(prog.globalNamed x.1 == some (eV i)) && ((prog.globals[eV i]?).map (·.type) == some 32)
  | none=>false)=true:=by kernel_rfl
theorem EO:∀ i x,B0[i]?=some x→prog.globalNamed x.1=some (eV i)∧(prog.globals[eV i]?).map (·.type)=some 32:=by
 intro i x hx;have hi:i<13:=by
  rcases a8 i 13 with h | h
  ·exact h
  ·rw [bB (by exact h)] at hx;cases hx
 have h:=List.all_eq_true.1 Hn i (List.mem_range.2 hi);rw [hx] at h;simpa using h
def Td(x:String × DataW Unit):Bool:=x.1 == "copse/api.ErrArg" || x.1 == "copse/api.ErrText" || x.1 == "copse/api.ErrMany" || x.1 == "copse/api.ErrShort" || x.1 == "copse/api.ErrTwice" || x.1 == "copse/api.ErrLost" || x.1 == "copse/api.ErrFull" || x.1 == "copse/api.ErrDead" || x.1 == "copse/api.ErrCorrupt" || x.1 == "copse/api.ErrStatus" || x.1 == "copse/api.ErrTxid" || x.1 == "copse/api.ErrOrder" || x.1 == "copse/api.ErrKind"
theorem zH{W:World}(h:laidMet prog [("copse/api.ErrArg",Rows.laid_copse_api_ErrArg),("copse/api.ErrText",Rows.laid_copse_api_ErrText),("copse/api.ErrMany",Rows.laid_copse_api_ErrMany),("copse/api.ErrShort",Rows.laid_copse_api_ErrShort),("copse/api.ErrTwice",Rows.laid_copse_api_ErrTwice),("copse/api.ErrLost",Rows.laid_copse_api_ErrLost),("copse/api.ErrFull",Rows.laid_copse_api_ErrFull),("copse/api.ErrDead",Rows.laid_copse_api_ErrDead),("copse/api.ErrCorrupt",Rows.laid_copse_api_ErrCorrupt),("copse/api.ErrStatus",Rows.laid_copse_api_ErrStatus),("copse/api.ErrTxid",Rows.laid_copse_api_ErrTxid),("copse/api.ErrOrder",Rows.laid_copse_api_ErrOrder),("copse/api.ErrKind",Rows.laid_copse_api_ErrKind)] W):∃ A,dy 13 eV A W:=by
 obtain ⟨A,hA,_⟩:=TS (rest:=[]) eV (show B0.length=13 from rfl) EO (by rw [LR];exact h)
 exact ⟨A,hA⟩
namespace T
def V9(x:String × DataW Unit):Bool:=x.1 == "copse/codec.halfByteSteps"
def Y2(x:String × DataW Unit):Bool:=x.1 == "copse/sheet.layout"
end T
end Go.Proofs.YtihmgigfkmofnaaGreatDoor
namespace Go.Proofs.YtihmgigfkmofnaaGreatDoor
namespace T
open Go.ChangeShapes Go.WideShapes Go.ChangeAt Go.WideMaps Go.WideElems Go.RowKit Go.Joins
theorem nZ{H:Type}{P:Program}{e:TypeId}:∀ {l:List (DataW H)} {d:DataW H},d ∈ l→∀ n ∈ d.weights P e,n ∈ DataW.weightsAll P e l
 | d'::r,d,hd,n,hn=>by
  simp only [DataW.weightsAll,cu];rcases List.mem_cons.1 hd with rfl | h
  ·exact Or.inl hn
  ·exact Or.inr (nZ h n hn)
theorem Ko{W:World}{a:Addr}{v:Value}(h:W.cell? a=some v):a=⟨a.block,a.off,none⟩:=by
 have FF:a.spot=none:=by
  unfold World.cell? at h;split at h
  ·split at h
   ·cases h
   ·rename_i hs;simpa using hs
  ·cases h
 cases a;simp at FF;rw [FF]
theorem add_plain(b o c:Nat):(⟨b,o,none⟩ : Addr).add c=⟨b,o+c,none⟩:=by
 unfold Addr.add;split
 ·rename_i h;rw [h,Nat.add_zero]
 ·rfl
theorem KQ{H:Type}{enc:TypeId × Value→H}{W:World}{t e:TypeId}{size bs:Nat}(hu:prog.underlying t=some (.slice e))(hc:prog.cellsOf e=size)(hy:prog.bytesOf e=bs)(hp:0<size)(R:List Value→Prop)(fuel:Nat)(v:Value)(x:DataW H × List MemPlace)(h:DataW.trod enc prog W 0 (fun _=>true) true fuel t [v]=some x)(hw:∀ z ∈ x.1.weights prog t,z≤reachBytes)(each:∀ k cs y,DataW.trod enc prog W 0 (fun _=>true) true k e cs=some y→cs.length=size→(∀ z ∈ y.1.weights prog e,z≤reachBytes)→R cs):∃ (a:Option Addr) (len cap:Nat),v = .slice a len cap∧len*bs≤reachBytes∧∀ i,i<len→∃ g off cs,a=some ⟨g,off,none⟩∧g<W.heap.size∧R cs∧cs.length=size∧∀ j,j<size→W.cell? ⟨g,off+i*size+j,none⟩=cs[j]?:=by
 rcases DataW.trod_slice hu h with ⟨h0,_⟩ | ⟨a,len,cap,elems,rest,n,hn,hv,hx,_,hl,hm,hlen,hel,_⟩
 ·simp only [List.cons.injEq,and_true] at h0;subst h0;exact ⟨none,0,0,rfl,by rw [Nat.zero_mul];exact aB _,fun i h=>absurd h (by simp)⟩
 ·simp only [List.cons.injEq,and_true] at hv;subst hv hx hn;have hwt:(elems.length+rest.length)*bs≤reachBytes:=hw _ (by
   simp only [DataW.weights,hu,hy,az];exact dk)
  have hlB:len*bs≤reachBytes:=ar (Nat.mul_le_mul_right bs (by omega)) hwt
  have Vl:∀ i,i<len→∃ cs,R cs∧cs.length=size∧∀ j,j<size→W.cell? ((a.add (i*size)).add j)=cs[j]?:=by
   intro i hi;have h1:=hel i hi;rw [hc,af (by omega)] at h1
   obtain ⟨cs',h2,h3⟩:=Option.bind_eq_some_iff.1 h1;obtain ⟨_,pP,bm⟩:=World.cells?_some h2;refine ⟨cs',each n cs' _ h3 pP (fun z hz=>hw z ?_),pP,fun j hj=>bm j (by omega)⟩
   simp only [DataW.weights,hu];exact dY _ (dZ _ (nZ (List.mem_map.2 ⟨elems[i],aI (by omega),rfl⟩) z hz))
  refine ⟨some a,len,cap,rfl,hlB,fun i hi=>?_⟩
  obtain ⟨cs0,_,RL,yn⟩:=Vl 0 (by omega)
  have h00:=yn 0 hp;rw [Nat.zero_mul,af (by omega)] at h00
  have ea:=Ko (a:=a) h00;obtain ⟨cs,hr,Va,AW⟩:=Vl i hi;refine ⟨a.block,a.off,cs,congrArg some ea,World.block_lt_of_cell? W a h00,hr,Va,fun j hj=>?_⟩
  have:=AW j hj;rw [ea,add_plain,add_plain] at this;exact this
theorem Jc{α:Type}{P:Nat→α→Prop}:∀ (n:Nat),(∀ i,i<n→∃ x,P i x)→∃ l:List α,l.length=n∧∀ i (h:i<l.length),P i l[i]
 | 0,_=>⟨[],rfl,fun i h=>by simp at h⟩
 | n+1,h=>by
  obtain ⟨l,hl,hp⟩:=Jc n fun i hi=>h i (by omega)
  obtain ⟨x,hx⟩:=h n (by omega)
  refine ⟨l++[x],by simp [hl],fun i hi=>?_⟩
  by_cases bK:i<l.length
  ·rw [aJ bK];exact hp i bK
  ·have:i=l.length:=by simp at hi;omega
   subst this;rw [bu (aj _)];simp [hl] at hx ⊢
   exact hx
theorem QR:prog.cellsOf 3=1:=by kernel_rfl
theorem Xj:prog.cellsOf 9=1:=by kernel_rfl
theorem T8:prog.cellsOf 44=6:=by kernel_rfl
theorem Ub:prog.bytesOf 44=72:=by kernel_rfl
theorem QO:prog.cellsOf 23=1:=by kernel_rfl
theorem Ak:reachBytes=140737488351232:=rfl
end T
end Go.Proofs.YtihmgigfkmofnaaGreatDoor
namespace Go.Proofs.YtihmgigfkmofnaaGreatDoor.Q
open Go.ChangeShapes Go.WideShapes Go.ChangeAt Go.WideMaps Go.WideElems Go.RowKit Go.Joins
theorem Qn:prog.globalNamed "math/bits.deBruijn64tab" = some 13:=by kernel_rfl
theorem VQ:(prog.globals[13]?).map (·.type)=some 266:=by kernel_rfl
theorem Hv:prog.cellsOf 5=1:=by kernel_rfl
theorem yB:prog.cellsOf 266=64:=by kernel_rfl
def Y1(x:String × DataW Unit):Bool:=x.1 == "math/bits.deBruijn64tab"
theorem n9{W:World}(h:laidMet prog [("math/bits.deBruijn64tab",Rows.laid_math_bits_deBruijn64tab)] W):tY W:=by
 have e:(Rows.laid_math_bits_deBruijn64tab:DataW Unit)=Lib.tabData .u8 (Lib.deBruijn64tab.map Int.ofNat):=by simp [Rows.laid_math_bits_deBruijn64tab,Lib.tabData,Lib.deBruijn64tab]
 rw [e] at h;have hv:=Lib.tabIs_of_head Qn VQ underlying266 underlying5 Hv yB h;have hc:=World.var?_cell Qn hv;intro j hj;rw [hc j];have hi:j<Lib.deBruijn64tab.length:=hj;simp only [eO,List.getElem?_toArray,aL];rw [af hi];simp only [kx,Function.comp];rw [List.getD,af hi];rfl
theorem Xg{W:World}{A:Nat→Addr}(hE:dy 13 eV A W)(hT:tY W):Env W.heap.size A W:=by
 refine ⟨hE,hT,fun i hi=>?_,World.block_lt_of_cell? W _ (hT 0 (by decide)),aj _⟩
 obtain ⟨h1,c,t,h2⟩:=hE.1 i hi;exact ⟨World.block_lt_of_cell? W _ h1,lt_of_heap h2⟩
end Go.Proofs.YtihmgigfkmofnaaGreatDoor.Q
namespace Go.Proofs.YtihmgigfkmofnaaGreatDoor.T
open Go.ChangeShapes Go.WideShapes Go.ChangeAt Go.WideMaps Go.WideElems Go.RowKit Go.Joins
theorem OC{H:Type}{enc:TypeId × Value→H}{W:World}(fuel:Nat)(v:Value)(x:DataW H × List MemPlace)(h:DataW.trod enc prog W 0 (fun _=>true) true fuel 23 [v]=some x)(hw:∀ z ∈ x.1.weights prog 23,z≤reachBytes):∃ l:List LS,Ia W v l∧l.length≤140737488355328∧∀ s ∈ l,s.key.size≤140737488355328∧s.value.size≤140737488355328∧s.n≤9223372036854775807:=by
 obtain ⟨a,len,cap,hv,hl,hc⟩:=KQ underlying23 T8 Ub (by decide) (fun cs=>∃ (k a n:Int) (b1 b2 b3:ByteArray),cs=[.int .i64 k,.int .i64 a,.int .i64 n,.string b1,.string b2,.string b3]∧b1.size≤140737488355328∧b2.size≤140737488355328∧n≤9223372036854775807) fuel v x h hw (by
  intro k cs y hy pP hw;obtain ⟨xs,k',_,hxy,_,Y5,hf⟩:=DataW.trod_struct underlying44 hy;match xs,Y5,cs,pP with
  | [y0,y1,y2,y3,y4,y5],_,[v0,v1,v2,v3,v4,v5],_ =>
   have g0:=hf 0 _ rfl;have g1:=hf 1 _ rfl;have g2:=hf 2 _ rfl;have g3:=hf 3 _ rfl;have g4:=hf 4 _ rfl;have g5:=hf 5 _ rfl;simp [QR,Xj] at g0 g1 g2 g3 g4 g5
   obtain ⟨k0,d0,rfl,w0⟩:=DataW.trod_int underlying3 g0;obtain ⟨k1,d1,rfl,w1⟩:=DataW.trod_int underlying3 g1;obtain ⟨k2,d2,rfl,w2⟩:=DataW.trod_int underlying3 g2;obtain ⟨b3,d3,rfl,w3⟩:=DataW.trod_string underlying9 g3;obtain ⟨b4,d4,rfl,w4⟩:=DataW.trod_string underlying9 g4;obtain ⟨b5,d5,rfl,w5⟩:=DataW.trod_string underlying9 g5;simp only [List.cons.injEq,and_true] at d0 d1 d2 d3 d4 d5;subst d0 d1 d2 d3 d4 d5;rw [hxy] at hw;have h3:b3.size≤reachBytes:=hw b3.size (by simp [DataW.weights,underlying44,DataW.weightsEach])
   have h4:b4.size≤reachBytes:=hw b4.size (by simp [DataW.weights,underlying44,DataW.weightsEach])
   rw [Ak] at h3 h4;exact ⟨k0,k1,k2,b3,b4,b5,rfl,by omega,by omega,(bounds_i64 w2).2⟩)
 obtain ⟨l,Ev,hp⟩:=Jc (α:=LS) (P:=fun i x=>(∃ g o,a=some ⟨g,o,none⟩∧W.cell? ⟨g,o+i*6,none⟩=some (.int .i64 x.kind)∧W.cell? ⟨g,o+i*6+1,none⟩=some (.int .i64 x.at')∧W.cell? ⟨g,o+i*6+2,none⟩=some (.int .i64 x.n)∧W.cell? ⟨g,o+i*6+3,none⟩=some (.string x.key)∧W.cell? ⟨g,o+i*6+4,none⟩=some (.string x.value)∧W.cell? ⟨g,o+i*6+5,none⟩=some (.string x.iN))∧x.key.size≤140737488355328∧x.value.size≤140737488355328∧x.n≤9223372036854775807) len (fun i hi=>by
  obtain ⟨g,off,cs,ha,_,⟨k,at1,n,b1,b2,b3,rfl,h1,h2,h3⟩,_,bm⟩:=hc i hi;exact ⟨⟨k,at1,n,b1,b2,b3⟩,⟨g,off,ha,bm 0 (by omega),bm 1 (by omega),bm 2 (by omega),bm 3 (by omega),bm 4 (by omega),bm 5 (by omega)⟩,h1,h2,h3⟩)
 refine ⟨l,⟨a,cap,by rw [hv,Ev],fun j hj=>(hp j hj).1⟩,?_,fun s hs=>?_⟩
 ·rw [Ak] at hl;omega
 ·obtain ⟨j,hj,rfl⟩:=aO hs;exact (hp j hj).2
theorem QM:prog.cellsOf 37=2:=by kernel_rfl
theorem OB{H:Type}{enc:TypeId × Value→H}{W:World}{r:Reach}{b0:Nat}{v:Value}{d:DataW H}{p:List MemPlace}(hv:Value.okWide prog W r b0 37 v)(h:DataW.Trod enc prog W 0 (fun _=>true) true 37 v d p)(hw:∀ z ∈ d.weights prog 37,z≤reachBytes):∃ jZ sv ks,v = .agg #[.int .i64 jZ,sv]∧Ia W sv ks∧ks.length≤140737488355328∧∀ s ∈ ks,s.key.size≤140737488355328∧s.value.size≤140737488355328∧s.n≤9223372036854775807:=by
 obtain ⟨cs,rfl,b8⟩:=okWide_struct underlying37 hv;rw [QM] at b8;obtain ⟨fuel,M0⟩:=h;obtain ⟨xs,k',_,hxy,pP,Y5,hf⟩:=DataW.trod_struct underlying37 M0;obtain ⟨cl⟩:=cs;simp only [Value.cells] at hf;simp only [Prod.mk.injEq] at hxy;match xs,Y5,cl,b8 with
 | [y0,y1],_,[v0,v1],_ =>
  have g0:=hf 0 _ rfl;have g1:=hf 1 _ rfl;simp [QR,QO] at g0 g1
  obtain ⟨k0,d0,rfl,w0⟩:=DataW.trod_int underlying3 g0;simp only [List.cons.injEq,and_true] at d0;rw [hxy.1] at hw;obtain ⟨ks,jx,p9,X7⟩:=OC k' v1 y1 g1 (fun z hz=>hw z (by
   simp only [DataW.weights,underlying37,List.map_cons,List.map_nil,DataW.weightsEach];simp [hz]))
  exact ⟨k0,v1,ks,by rw [d0],jx,p9,X7⟩
end Go.Proofs.YtihmgigfkmofnaaGreatDoor.T
namespace Go.Proofs.YtihmgigfkmofnaaGreatDoor
namespace T
open Go.ChangeShapes Go.WideShapes Go.ChangeAt Go.WideMaps Go.WideElems Go.RowKit Go.Joins
theorem ze{W:World}(h:laidMetH prog Rows.treeFullRow.laid W):∃ A,S.Env W.heap.size A W∧dy 13 eV A W∧(∀ i,i<13→eV i<W.heap.size∧(A i).block<W.heap.size)∧Q.Env W.heap.size A W:=by
 rw [MakeChecks.laidMetH_plain _ _ _ (by kernel_rfl)] at h
 obtain ⟨A,hA⟩:=zH (h.filter Td);have hT:=S.n9 (h.filter V9);have hL:=S.D3 (h.filter Y2);have hQ:=Q.Xg hA (Q.n9 (h.filter Q.Y1));refine ⟨A,⟨⟨(hA.1 0 (by decide)).1,(hA.1 2 (by decide)).1,(hA.1 7 (by decide)).1,⟨World.block_lt_of_cell? W _ (hA.1 0 (by decide)).1,World.block_lt_of_cell? W _ (hA.1 2 (by decide)).1,World.block_lt_of_cell? W _ (hA.1 7 (by decide)).1⟩,aj _⟩,(hA.1 1 (by decide)).1,⟨World.block_lt_of_cell? W _ (hA.1 1 (by decide)).1,hL.1,hT.2⟩,hL,hT⟩,hA,fun i hi=>?_,hQ⟩
 obtain ⟨h1,c,t,h2⟩:=hA.1 i hi;exact ⟨World.block_lt_of_cell? W _ h1,(Array.getElem?_eq_some_iff.1 h2).1⟩
end T
end Go.Proofs.YtihmgigfkmofnaaGreatDoor
