import Derived.Test.YtihmgigfkmofnaaGreatDoorG05
set_option maxHeartbeats 8000000
set_option maxRecDepth 20000
open Go.Proofs.Tryz
namespace Go.Proofs.YtihmgigfkmofnaaGreatDoor
open Go.RowKit
theorem uN(n:Nat):(Builtin.zeroCells (Value.agg #[.string ByteArray.empty,.string ByteArray.empty]).cells n).size=n*2:=by
 simp [Builtin.zeroCells,Value.cells]
theorem Q1(n:Nat)(w:World)(hn:n*32≤140737488355328):Calls prog 130 #[.slice none 0 0,.int .i64 (n:Int)] w fun e w'=>∃ u,e = .returned u∧fJ w' w.heap.size u []∧Below w.heap.size w w':=by
 obtain ⟨i0,hi,hz,b8,kQ⟩:=info_parts JY;have Gi:decide ((n:Int)<0)=false:=decide_eq_false (by omega)
 by_cases h0:0<n
 ·have bw:=Lib.run_append_nil_zeros (P:=prog) w 63 3 63 52 i0 _ .i64 .i64 underlying63 underlying3 hi hz n h0 (by omega) (by omega) (by rw [kQ];omega)
  have H9:(0:Int)<(n:Int):=by omega
  have hw:IntKind.i64.wrap ((n:Int))=(n:Int):=by rw [IntKind.wrap_i64];omega
  generalize dj:grownCap w n 0 52=cap at *;have hle:n≤cap:=by rw [← dj];exact grownCap_ge _ _ _ _
  have VQ:cap≤maxLen:=by rw [← dj];exact grownCap_le_maxLen _ _ _ _ (by unfold maxLen;omega)
  generalize fI:Builtin.zeroCells _ n++Builtin.zeroCells _ (cap - n)=cs at bw;have E5:cs.size=cap*2:=by rw [← fI,ew,uN,uN];omega
  have HO:Hid (fJ (w.drew.alloc (.cells cs 52)) w.heap.size (.slice (some ⟨w.heap.size,0,none⟩) 0 cap) []) :=
   ⟨by simp [iH],.inr ⟨w.heap.size,cap,cs,rfl,aj _,heap_alloc_new w.drew _,aB _,VQ,E5,by simp [iH]⟩⟩
  have HB:Hid (Below w.heap.size w (w.drew.alloc (.cells cs 52))):=((Below.refl _ _).drew).alloc (aj _) _;clear fI dj hi hz b8 kQ E5;go_enter func130,ntmps130;go_wp2_with (first | (at_builtin;refine Lib.wpList_append_run _ rfl (.tmp 20) (.tmp 21) 63 3 rfl _ _ rfl rfl _ _ bw ?_))
  go_ret;exact ⟨_,rfl,HO.out,HB.out⟩
 ·obtain rfl:n=0:=by omega
  go_enter func130,ntmps130;go_wp2;go_ret;exact ⟨_,rfl,fJ.nil _ _,Below.refl _ _⟩
def jP(LL:List (List Pr))(k:Nat):Nat:=((LL.take k).flatten).length
theorem uZ(LL:List (List Pr))(k:Nat)(h:k<LL.length):jP LL (k+1)=jP LL k+LL[k].length:=by
 unfold jP;rw [ax h,dH,ae];simp
theorem AS(LL:List (List Pr))(k:Nat):jP LL k≤LL.flatten.length:=by
 unfold jP;conv=>rhs;rw [← aI k LL,dH,ae]
 omega
theorem qW(B m cap:Nat)(uQ:List Value)(LL:List (List Pr))(w:World)(hm:LL.length=m)(J5:m≤3)(hs:uQ.length=m)(fY:LL.flatten.length*32≤140737488355328)(hc:∀ j (h:j<uQ.length),w.cell? ⟨B,j,none⟩=some uQ[j])(hr:∀ j (h:j<LL.length) (h':j<uQ.length),gM w uQ[j] LL[j]):Calls prog 84 #[.slice (some ⟨B,0,none⟩) m cap] w fun e w'=>∃ u,e = .returned u∧fJ w' w.heap.size u LL.flatten∧Below w.heap.size w w':=by
 have HM:=ab hm;have HS:=ab hs;have HC:=ab hc;have HR:=ab hr;have rn:=ab fY;obtain ⟨T,hT⟩ : ∃ T,T=LL.flatten.length:=⟨_,rfl⟩;have HT:=ab hT;have hTb:T*32≤140737488355328:=by rw [hT];exact fY
 have Sm:Hid (jP LL 0=0):=by show _=_;simp [jP]
 clear hm hs hc hr fY hT;go_enter func84,ntmps84;go_wp2;go_loop [3,11] (fun r i=>∃ k:Nat,k≤m∧i = .int .i64 k∧r = .int .i64 (jP LL k:Int)) (fun _ i=>m - (intOf i).toNat)
 case atStart=>exact ⟨0,aB _,rfl,by rw [Sm.out];rfl⟩
 case round =>
  obtain ⟨k,hk,rfl,rfl⟩:=hrel;by_cases bO:k<m
  ·have iV:k<uQ.length:=by have:=HS.out;omega
   have qk:k<LL.length:=by have:=HM.out;omega
   have c1:=HC.out k iV;obtain ⟨a,c,hf⟩:=(HR.out k qk iV).form;rw [hf] at c1;have Wm:=ab (uZ LL k qk);have wR:=ab (AS LL (k+1));obtain ⟨x,hx⟩ : ∃ x,x=jP LL k:=⟨_,rfl⟩;obtain ⟨y,hy⟩ : ∃ y,y=jP LL (k+1):=⟨_,rfl⟩;obtain ⟨z,hz⟩ : ∃ z,z=LL[k].length:=⟨_,rfl⟩;rw [← hx,← hy,← hz] at Wm;rw [← hy,← HT.out] at wR;rw [← hx];rw [← hz] at c1;have HY:=ab hy;have hw:IntKind.i64.wrap ((x:Int)+(z:Int))=(y:Int):=by rw [IntKind.wrap_i64];have:=Wm.out;have:=wR.out;omega
   have Gi:decide ((y:Int)<0)=false:=decide_eq_false (by omega)
   have dE:(k:Int)<(m:Int):=by omega
   clear hx hy hz hf HC HR;go_wp2;go_round
   case rel=>exact ⟨k+1,by omega,by go_num,by rw [← HY.out]⟩
   case measure=>simp [intOf];omega
  ·have Md:k=m:=by omega
   subst Md;have dn:jP LL k=T:=by
    rw [HT.out];unfold jP;rw [ao (by rw [HM.out];exact aj _)]
   rw [dn];have dE:¬ (k:Int)<(k:Int):=by omega
   have HG:=ab (Q1 T w hTb);clear dn bO hk;go_wp2_with fail;refine HG.out.mono ?_
   rintro e w1 ⟨u,rfl,aE,aO⟩;have HO:=ab aE;have bT:=ab aO;clear aE aO HG;go_wp2;go_loopw [6,27] (fun u i wr=>∃ j:Nat,j≤k∧i = .int .i64 j∧fJ wr w.heap.size u ((LL.take j).flatten)∧Below w.heap.size w wr) (fun _ i _=>k - (intOf i).toNat)
   case atStart=>exact ⟨0,aB _,rfl,by simpa using HO.out,bT.out⟩
   case round =>
    obtain ⟨j,hj,rfl,aE,bQ⟩:=hrel;clear HO bT;by_cases bO:j<k
    ·have iV:j<uQ.length:=by have:=HS.out;omega
     have qk:j<LL.length:=by have:=HM.out;omega
     have c0:=HC.out j iV;have c1:wr.cell? ⟨B,j,none⟩=some uQ[j]:=(bQ.cell (p:=⟨B,j,none⟩) (World.block_lt_of_cell? w _ c0)).trans c0;have fX:=(HR.out j qk iV).below bQ;have hle:=AS LL (j+1);rw [uZ LL j qk,← HT.out] at hle;unfold jP at hle;obtain ⟨a1,cp1,w2,bw,ic,fM⟩:=gh w.heap.size _ _ _ _ wr aE fX (by omega) bQ.size
     have aV:Below w.heap.size w w2:=bQ.grown fM bQ.size (fun q hq=>(aE.dx q hq).1)
     obtain ⟨a,c,hf⟩:=fX.form;obtain ⟨ua,uc,hu⟩:=aE.form;subst hu;rw [hf] at c1 bw;have il:(LL.take j).flatten++LL[j]=(LL.take (j+1)).flatten:=by
      rw [ax qk,dH];simp
     rw [il] at ic;generalize ((LL.take j).flatten).length=L1 at *;generalize LL[j].length=L2 at *;have jx:=ab ic;have bL:=ab aV;have dE:(j:Int)<(k:Int):=by omega
     clear hf HC HR aE ic bQ aV fM fX c0 hle;go_wp2_with (first | (at_builtin;refine wpList_append_run 63 rfl (.tmp 31) (.tmp 32) rfl rfl _ _ rfl rfl _ _ bw ?_))
     clear bw;go_wp2;go_roundw
     case rel=>exact ⟨j+1,by omega,by go_num,jx.out,bL.out⟩
     case measure=>simp [intOf];omega
    ·have dn:LL.take j=LL:=by rw [ao];have:=HM.out;omega
     rw [dn] at aE;have HO:=ab aE;have HB:=ab bQ;have dE:¬ (j:Int)<(k:Int):=by omega
     clear aE bQ dn HC HR;go_wp2;go_ret;exact ⟨_,rfl,HO.out,HB.out⟩
theorem yT(n:Nat)(b:Bool)(w:World)(hn:n≤140737488355328):Calls prog 85 #[.int .i64 (n:Int),.bool b] w fun e w'=>e = .returned (.int .i64 ((if b then n+1 else n:Nat):Int))∧w=w':=by
 cases b with
 | true =>
  go_enter func85,ntmps85;go_wp2;go_ret;exact ⟨by go_num,rfl⟩
 | false =>
  go_enter func85,ntmps85;go_wp2;go_ret;exact ⟨rfl,rfl⟩
namespace B
theorem j6(n:Nat):(Builtin.zeroCells (Value.agg #[.string ByteArray.empty,.int .i64 0]).cells n).size=n*2:=by
 simp [Builtin.zeroCells,Value.cells]
theorem tS(n:Nat)(w:World)(hn:n*24≤140737488355328):Calls prog 234 #[.slice none 0 0,.int .i64 (n:Int)] w fun e w'=>∃ u,e = .returned u∧b9 w' w.heap.size u []∧Below w.heap.size w w':=by
 obtain ⟨i0,hi,hz,b8,kQ⟩:=info_parts lL;have Gi:decide ((n:Int)<0)=false:=decide_eq_false (by omega)
 by_cases h0:0<n
 ·have bw:=Lib.run_append_nil_zeros (P:=prog) w 148 3 148 179 i0 _ .i64 .i64 underlying148 underlying3 hi hz n h0 (by omega) (by omega) (by rw [kQ];omega)
  have H9:(0:Int)<(n:Int):=by omega
  have hw:IntKind.i64.wrap ((n:Int))=(n:Int):=by rw [IntKind.wrap_i64];omega
  generalize dj:grownCap w n 0 179=cap at *;have hle:n≤cap:=by rw [← dj];exact grownCap_ge _ _ _ _
  have VQ:cap≤maxLen:=by rw [← dj];exact grownCap_le_maxLen _ _ _ _ (by unfold maxLen;omega)
  generalize fI:Builtin.zeroCells _ n++Builtin.zeroCells _ (cap - n)=cs at bw;have E5:cs.size=cap*2:=by rw [← fI,ew,j6,j6];omega
  have HO:Hid (b9 (w.drew.alloc (.cells cs 179)) w.heap.size (.slice (some ⟨w.heap.size,0,none⟩) 0 cap) []) :=
   ⟨by simp [bn],.inr ⟨w.heap.size,cap,cs,rfl,aj _,heap_alloc_new w.drew _,aB _,VQ,E5,by simp [bn]⟩⟩
  have HB:Hid (Below w.heap.size w (w.drew.alloc (.cells cs 179))):=((Below.refl _ _).drew).alloc (aj _) _;clear fI dj hi hz b8 kQ E5;go_enter func234,ntmps234;go_wp2_with (first | (at_builtin;refine Lib.wpList_append_run _ rfl (.tmp 20) (.tmp 21) 148 3 rfl _ _ rfl rfl _ _ bw ?_))
  go_ret;exact ⟨_,rfl,HO.out,HB.out⟩
 ·obtain rfl:n=0:=by omega
  go_enter func234,ntmps234;go_wp2;go_ret;exact ⟨_,rfl,b9.nil _ _,Below.refl _ _⟩
def cW(LL:List (List Lk))(k:Nat):Nat:=((LL.take k).flatten).length
theorem jo(LL:List (List Lk))(k:Nat)(h:k<LL.length):cW LL (k+1)=cW LL k+LL[k].length:=by
 unfold cW;rw [ax h,dH,ae];simp
theorem lq(LL:List (List Lk))(k:Nat):cW LL k≤LL.flatten.length:=by
 unfold cW;conv=>rhs;rw [← aI k LL,dH,ae]
 omega
theorem oK(B m cap:Nat)(uQ:List Value)(LL:List (List Lk))(w:World)(hm:LL.length=m)(J5:m≤3)(hs:uQ.length=m)(fY:LL.flatten.length*24≤140737488355328)(hc:∀ j (h:j<uQ.length),w.cell? ⟨B,j,none⟩=some uQ[j])(hr:∀ j (h:j<LL.length) (h':j<uQ.length),dm w uQ[j] LL[j]):Calls prog 205 #[.slice (some ⟨B,0,none⟩) m cap] w fun e w'=>∃ u,e = .returned u∧b9 w' w.heap.size u LL.flatten∧Below w.heap.size w w':=by
 have HM:=ab hm;have HS:=ab hs;have HC:=ab hc;have HR:=ab hr;have rn:=ab fY;obtain ⟨T,hT⟩ : ∃ T,T=LL.flatten.length:=⟨_,rfl⟩;have HT:=ab hT;have hTb:T*24≤140737488355328:=by rw [hT];exact fY
 have Sm:Hid (cW LL 0=0):=by show _=_;simp [cW]
 clear hm hs hc hr fY hT;go_enter func205,ntmps205;go_wp2;go_loop [3,11] (fun r i=>∃ k:Nat,k≤m∧i = .int .i64 k∧r = .int .i64 (cW LL k:Int)) (fun _ i=>m - (intOf i).toNat)
 case atStart=>exact ⟨0,aB _,rfl,by rw [Sm.out];rfl⟩
 case round =>
  obtain ⟨k,hk,rfl,rfl⟩:=hrel;by_cases bO:k<m
  ·have iV:k<uQ.length:=by have:=HS.out;omega
   have qk:k<LL.length:=by have:=HM.out;omega
   have c1:=HC.out k iV;obtain ⟨a,c,hf⟩:=(HR.out k qk iV).form;rw [hf] at c1;have Wm:=ab (jo LL k qk);have wR:=ab (lq LL (k+1));obtain ⟨x,hx⟩ : ∃ x,x=cW LL k:=⟨_,rfl⟩;obtain ⟨y,hy⟩ : ∃ y,y=cW LL (k+1):=⟨_,rfl⟩;obtain ⟨z,hz⟩ : ∃ z,z=LL[k].length:=⟨_,rfl⟩;rw [← hx,← hy,← hz] at Wm;rw [← hy,← HT.out] at wR;rw [← hx];rw [← hz] at c1;have HY:=ab hy;have hw:IntKind.i64.wrap ((x:Int)+(z:Int))=(y:Int):=by rw [IntKind.wrap_i64];have:=Wm.out;have:=wR.out;omega
   have Gi:decide ((y:Int)<0)=false:=decide_eq_false (by omega)
   have dE:(k:Int)<(m:Int):=by omega
   clear hx hy hz hf HC HR;go_wp2;go_round
   case rel=>exact ⟨k+1,by omega,by go_num,by rw [← HY.out]⟩
   case measure=>simp [intOf];omega
  ·have Md:k=m:=by omega
   subst Md;have dn:cW LL k=T:=by
    rw [HT.out];unfold cW;rw [ao (by rw [HM.out];exact aj _)]
   rw [dn];have dE:¬ (k:Int)<(k:Int):=by omega
   have HG:=ab (tS T w hTb);clear dn bO hk;go_wp2_with fail;refine HG.out.mono ?_
   rintro e w1 ⟨u,rfl,aE,aO⟩;have HO:=ab aE;have bT:=ab aO;clear aE aO HG;go_wp2;go_loopw [6,27] (fun u i wr=>∃ j:Nat,j≤k∧i = .int .i64 j∧b9 wr w.heap.size u ((LL.take j).flatten)∧Below w.heap.size w wr) (fun _ i _=>k - (intOf i).toNat)
   case atStart=>exact ⟨0,aB _,rfl,by simpa using HO.out,bT.out⟩
   case round =>
    obtain ⟨j,hj,rfl,aE,bQ⟩:=hrel;clear HO bT;by_cases bO:j<k
    ·have iV:j<uQ.length:=by have:=HS.out;omega
     have qk:j<LL.length:=by have:=HM.out;omega
     have c0:=HC.out j iV;have c1:wr.cell? ⟨B,j,none⟩=some uQ[j]:=(bQ.cell (p:=⟨B,j,none⟩) (World.block_lt_of_cell? w _ c0)).trans c0;have fX:=(HR.out j qk iV).below bQ;have hle:=lq LL (j+1);rw [jo LL j qk,← HT.out] at hle;unfold cW at hle;obtain ⟨a1,cp1,w2,bw,ic,fM⟩:=fs w.heap.size _ _ _ _ wr aE fX (by omega) bQ.size
     have aV:Below w.heap.size w w2:=bQ.grown fM bQ.size (fun q hq=>(aE.dx q hq).1)
     obtain ⟨a,c,hf⟩:=fX.form;obtain ⟨ua,uc,hu⟩:=aE.form;subst hu;rw [hf] at c1 bw;have il:(LL.take j).flatten++LL[j]=(LL.take (j+1)).flatten:=by
      rw [ax qk,dH];simp
     rw [il] at ic;generalize ((LL.take j).flatten).length=L1 at *;generalize LL[j].length=L2 at *;have jx:=ab ic;have bL:=ab aV;have dE:(j:Int)<(k:Int):=by omega
     clear hf HC HR aE ic bQ aV fM fX c0 hle;go_wp2_with (first | (at_builtin;refine wpList_append_run 148 rfl (.tmp 31) (.tmp 32) rfl rfl _ _ rfl rfl _ _ bw ?_))
     clear bw;go_wp2;go_roundw
     case rel=>exact ⟨j+1,by omega,by go_num,jx.out,bL.out⟩
     case measure=>simp [intOf];omega
    ·have dn:LL.take j=LL:=by rw [ao];have:=HM.out;omega
     rw [dn] at aE;have HO:=ab aE;have HB:=ab bQ;have dE:¬ (j:Int)<(k:Int):=by omega
     clear aE bQ dn HC HR;go_wp2;go_ret;exact ⟨_,rfl,HO.out,HB.out⟩
theorem Nc(fa fb:Int)(key:ByteArray)(va vb:Value)(la lb:List Lk)(w:World)(hm:la.length+lb.length+1≤5864062014805)(ha:dm w va la)(hb:dm w vb lb):Calls prog 165 #[.agg #[.int .i64 fa,va],.string key,.agg #[.int .i64 fb,vb]] w fun e w'=>∃ u,e = .returned (.agg #[.int .i64 fa,u])∧b9 w' w.heap.size u (iU la key fb lb)∧Below w.heap.size w w':=by
 obtain ⟨a1,c1,hv⟩:=ha.form;subst hv;obtain ⟨a2,c2,hv⟩:=hb.form;subst hv;obtain ⟨na,hna⟩ : ∃ n,n=la.length:=⟨_,rfl⟩;obtain ⟨nb,su⟩ : ∃ n,n=lb.length:=⟨_,rfl⟩;rw [← hna] at ha ⊢;rw [← su] at hb ⊢;have q1:=ai w (.cells #[.int .i64 fa,.slice a1 na c1] 150);have x1:=au.new w #[.int .i64 fa,.slice a1 na c1] 150;have s1:(w.alloc (.cells #[.int .i64 fa,.slice a1 na c1] 150)).heap.size=w.heap.size+1:=by simp
 generalize ig:w.alloc (.cells #[.int .i64 fa,.slice a1 na c1] 150)=W1 at *;have q2:=ai W1 (.cells #[.int .i64 fb,.slice a2 nb c2] 150);have x2:=au.new W1 #[.int .i64 fb,.slice a2 nb c2] 150;have s2:(W1.alloc (.cells #[.int .i64 fb,.slice a2 nb c2] 150)).heap.size=W1.heap.size+1:=by simp
 generalize Ip:W1.alloc (.cells #[.int .i64 fb,.slice a2 nb c2] 150)=W2 at *;have q3:=ai W2 (.cells #[.int .i64 0,.slice none 0 0] 150);have x3:=au.new W2 #[.int .i64 0,.slice none 0 0] 150;have s3:(W2.alloc (.cells #[.int .i64 0,.slice none 0 0] 150)).heap.size=W2.heap.size+1:=by simp
 generalize NZ:W2.alloc (.cells #[.int .i64 0,.slice none 0 0] 150)=W3 at *;have q4:=ai W3 (.cells #[.string key,.int .i64 fb] 179);have x4:=wB W3 (key,fb) 179;have s4:(W3.alloc (.cells #[.string key,.int .i64 fb] 179)).heap.size=W3.heap.size+1:=by simp
 generalize SK:W3.alloc (.cells #[.string key,.int .i64 fb] 179)=W4 at *;have q5:=ai W4 (.cells #[.slice a1 na c1,.slice (some ⟨W3.heap.size,0,none⟩) 1 1,.slice a2 nb c2] 148);have x5:=bM W4 #[.slice a1 na c1,.slice (some ⟨W3.heap.size,0,none⟩) 1 1,.slice a2 nb c2] 148;have s5:(W4.alloc (.cells #[.slice a1 na c1,.slice (some ⟨W3.heap.size,0,none⟩) 1 1,.slice a2 nb c2] 148)).heap.size=W4.heap.size+1:=by simp
 generalize V6:W4.alloc (.cells #[.slice a1 na c1,.slice (some ⟨W3.heap.size,0,none⟩) 1 1,.slice a2 nb c2] 148)=W5 at *;have y1:=((((x1.below q2).below q3).below q4));have y2:=((x2.below q3).below q4);have y3:=(x3.below q4);have zA:Hid (∀ W,Below W5.heap.size W5 W→Calls prog 205 #[.slice (some ⟨W4.heap.size,0,none⟩) 3 3] W fun e w'=>∃ ga gn gc,e = .returned (.slice ga gn gc)∧b9 w' W5.heap.size (.slice ga gn gc) (iU la key fb lb)∧Below W5.heap.size W5 w'):=fun W hW=>by
  refine (oK W4.heap.size 3 3 [.slice a1 na c1,.slice (some ⟨W3.heap.size,0,none⟩) 1 1,.slice a2 nb c2] [la,[(key,fb)],lb] W rfl (by decide) rfl ?_ (fun j h=>(x5.below hW).2 j h) ?_).mono ?_
  ·simp;omega
  ·intro j h h';have hj:j<3:=h;match j,hj with
   | 0,_=>exact ((((((ha.below q1).below q2).below q3).below q4).below q5).below hW)
   | 1,_=>exact (x4.below q5).below hW
   | 2,_=>exact ((((((hb.below q1).below q2).below q3).below q4).below q5).below hW)
  ·rintro e w' ⟨u,rfl,ho,hb⟩;obtain ⟨ga,gc,hu⟩:=ho.form;subst hu;refine ⟨ga,_,gc,rfl,?_,Below.next hW hb⟩;have he:[la,[(key,fb)],lb].flatten=iU la key fb lb:=by simp [iU]
   rw [he] at ho ⊢;exact ho.mono hW.size
 have HQ:=ab (Below.next q1 (Below.next q2 (Below.next q3 (Below.next q4 q5))));have Ny:=ab (Below.next q1 (Below.next q2 (Below.next q3 q4)));have HY3:=ab (y3.below q5);have HS:Hid (W5.heap.size=w.heap.size+5∧W2.heap.size=w.heap.size+2):=by show _∧_;omega
 have BE:=ab q5;have HY1:=ab y1;have HY2:=ab y2;have p1:W4.cell? ⟨w.heap.size,0,none⟩=some (.int .i64 fa):=y1.c0;have p2:W4.cell? ⟨w.heap.size,1,none⟩=some (.slice a1 na c1):=y1.c1;have p3:W4.cell? ⟨W1.heap.size,0,none⟩=some (.int .i64 fb):=y2.c0;have p4:W4.cell? ⟨W1.heap.size,1,none⟩=some (.slice a2 nb c2):=y2.c1;have p5:W3.cell? ⟨W1.heap.size,0,none⟩=some (.int .i64 fb):=(x2.below q3).c0;have r1:W5.cell? ⟨w.heap.size,0,none⟩=some (.int .i64 fa):=(y1.below q5).c0;have r2:W5.cell? ⟨w.heap.size,1,none⟩=some (.slice a1 na c1):=(y1.below q5).c1;have r3:W5.cell? ⟨W1.heap.size,1,none⟩=some (.slice a2 nb c2):=(y2.below q5).c1;have b1:¬ w.heap.size=W2.heap.size:=by omega
 have b2:¬ W1.heap.size=W2.heap.size:=by omega
 have b3:¬ W2.heap.size=w.heap.size:=by omega
 have b4:¬ W2.heap.size=W1.heap.size:=by omega
 clear q1 q2 q3 q4 q5 x1 x2 x3 x4 x5 y1 y2 y3 s1 s2 s3 s4 s5 ha hb hm hna su;go_enter func165,ntmps165;go_wp2_with fail;go_region_held3 (fun w'=>w'.cell? ⟨w.heap.size,0,none⟩=some (.int .i64 fa)∧w'.cell? ⟨w.heap.size,1,none⟩=some (.slice a1 na c1)∧w'.cell? ⟨W1.heap.size,1,none⟩=some (.slice a2 nb c2)) (go_keep)
  (first
   | (go_at_call 205;refine (zA.out _ ?_).mono ?_;(exact (Below.refl _ _).drew);rintro e w3 ⟨ga,gn,gc,rfl,ho,hb⟩;have HO:=ab ho;have HB:=ab hb;have k1:w3.cell? ⟨w.heap.size,0,none⟩=some (.int .i64 fa):=((HY1.out.below BE.out).below hb).c0;have k2:w3.cell? ⟨w.heap.size,1,none⟩=some (.slice a1 na c1):=((HY1.out.below BE.out).below hb).c1;have k3:w3.cell? ⟨W1.heap.size,1,none⟩=some (.slice a2 nb c2):=((HY2.out.below BE.out).below hb).c1;have k4:w3.cell? ⟨W2.heap.size,0,none⟩=some (.int .i64 0):=(HY3.out.below hb).c0;have k5:w3.cell? ⟨W2.heap.size,1,none⟩=some (.slice none 0 0):=(HY3.out.below hb).c1;have z4:=(HY3.out.below hb).free 0;have z5:=(HY3.out.below hb).free 1;clear ho hb))
 all_goals
  clear zA r1 r2 r3 p1 p2 p3 p4 p5 k1 k2 k3 k4 k5 z4 z5 b1 b2 b3 b4;go_wp2_with fail;refine bodyPost_ret (results_cell_row rfl _ _ W2.heap.size 150 _ (0,0) _ rfl ((HY3.out.below HB.out).two _ _) underlying150 rfl (by kernel_rfl)) rfl ⟨.slice ga gn gc,rfl,?_,?_⟩
  ·exact (HO.out.xI (by have:=HS.out;omega) _ _).mono HQ.out.size
  ·exact cx (Below.next HQ.out HB.out) (by have:=HS.out;omega)
end B
namespace T
theorem KM(W:World)(a b:Value)(t:TypeId):∀ j (h:j < [a,b].length),(W.alloc (.cells #[a,b] t)).cell? ⟨W.heap.size,j,none⟩=some [a,b][j]:=fun j h=>by
 have h1:=(bM W #[a,b] t).2 j h;exact h1
theorem L4(ba bb:Nat)(na nb:SN)(pa la ca pb lb cb:Value)(key:ByteArray)(w:World)(ha:dP w ba na pa la ca)(hb:dP w bb nb pb lb cb)(h0:na.us.length=0)(hl:na.ps.length+nb.ps.length≤4000):Calls prog 126 #[.pointer (some ⟨ba,0,none⟩),.string key,.pointer (some ⟨bb,0,none⟩)] w fun e w'=>SR w ⟨na.ps++nb.ps,0,[],[]⟩ e w':=by
 have HL:=ab (cG ba na pa la ca w ha);rw [show decide (na.us.length=0)=true by simp [h0]] at HL
 obtain ⟨xa,xc,Qr⟩:=ha.iH.form;obtain ⟨ya,yc,Gd⟩:=hb.iH.form;subst Qr Gd;have p0:=ha.c0;have p1:=hb.c0;have HFA:=ab ha.fine;have YM:=ab hb.fine;have zA:Hid (∀ W,Below w.heap.size w W→Calls prog 84 #[.slice (some ⟨W.heap.size,0,none⟩) 2 2] (W.alloc (.cells #[.slice xa na.ps.length xc,.slice ya nb.ps.length yc] 63)) fun e w'=>∃ (ua:Option Addr) (uc:Nat),e = .returned (.slice ua (na.ps++nb.ps).length uc)∧fJ w' W.heap.size (.slice ua (na.ps++nb.ps).length uc) (na.ps++nb.ps)∧Below w.heap.size w w'):=fun W hW=>by
  have q:=ai W (.cells #[.slice xa na.ps.length xc,.slice ya nb.ps.length yc] 63);refine (qW W.heap.size 2 2 [.slice xa na.ps.length xc,.slice ya nb.ps.length yc] [na.ps,nb.ps] _ rfl (by decide) rfl (by simp;omega) (KM W _ _ _) (fun j h h'=>?_)).mono fun e w' ⟨u,h1,h2,h3⟩=>?_
  ·match j,h with
   | 0,_=>exact ((ha.iH.below hW).below q)
   | 1,_=>exact ((hb.iH.below hW).below q)
  ·have e1:[na.ps,nb.ps].flatten=na.ps++nb.ps:=by simp
   rw [e1] at h2;obtain ⟨ua,uc,hu⟩:=h2.form;subst hu;exact ⟨ua,uc,h1,h2.mono (by simp),Below.next (Below.next hW q) h3⟩
 have zi:Hid ((∀ p ∈ na.ps++nb.ps,cQ p=true)∧(na.ps++nb.ps).length≤4000):=⟨fun p hp=>by
  rcases List.mem_append.1 hp with h | h
  ·exact ha.fine.1 p h
  ·exact hb.fine.1 p h,by rw [ae];exact hl⟩
 obtain ⟨N,hN⟩ : ∃ N,N=(na.ps++nb.ps).length:=⟨_,rfl⟩;rw [← hN] at zA;clear hN;clear ha hb h0 hl;go_enter func126,ntmps126;go_wp2_with fail;refine HL.out.mono ?_
 rintro e w1 ⟨rfl,rfl⟩;clear HL;go_wp2_with fail;have f0:=World.new_ne w _ p0;have f1:=World.new_ne w _ p1;go_region_held3 (fun w'=>w'.cell? ⟨ba,0,none⟩=some (.slice xa na.ps.length xc)∧w'.cell? ⟨bb,0,none⟩=some (.slice ya nb.ps.length yc)) (go_keep)
  (first
   | (go_at_call 84;refine (zA.out _ (Below.refl _ _).drew).mono ?_;rintro e w3 ⟨ua,uc,rfl,kO,bW⟩;have m0:=(bW.cell (p:=⟨ba,0,none⟩) (World.block_lt_of_cell? w _ p0)).trans p0;have m1:=(bW.cell (p:=⟨bb,0,none⟩) (World.block_lt_of_cell? w _ p1)).trans p1;have rl:=ab kO;have eH:=ab bW;clear kO bW))
 all_goals (
  have q:=ai w3 (.cells #[.slice ua N uc,.int .i64 0,.slice none 0 0,.slice none 0 0] 155);have xr:=B.au.new w3 #[.slice ua N uc,.int .i64 0,.slice none 0 0,.slice none 0 0] 155;have HR:Hid (dP (w3.alloc (.cells #[.slice ua N uc,.int .i64 0,.slice none 0 0,.slice none 0 0] 155)) w3.heap.size ⟨na.ps++nb.ps,0,[],[]⟩ (.slice ua N uc) (.slice none 0 0) (.slice none 0 0)):=⟨xr,(rl.out.below q).at,B.dm.nil _,(C.b9.nil _ 0).at,zi.out.1,zi.out.2,(fun p hp=>by simp at hp),by simp,by simp⟩
  have mU:=ab (Below.next eH.out q);clear q xr;go_wp2;go_ret;exact ⟨_,_,_,_,rfl,HR.out,mU.out⟩)
theorem TX(ba bb:Nat)(na nb:SN)(pa la ca pb lb cb:Value)(key:ByteArray)(w:World)(ha:dP w ba na pa la ca)(hb:dP w bb nb pb lb cb)(h0:¬ na.us.length=0)(hl:na.lk.length+nb.lk.length+1≤4000)(hu:na.us.length+nb.us.length≤4001)(hk:cV key):Calls prog 126 #[.pointer (some ⟨ba,0,none⟩),.string key,.pointer (some ⟨bb,0,none⟩)] w fun e w'=>SR w ⟨[],na.f,B.iU na.lk key nb.f nb.lk,na.us++nb.us⟩ e w':=by
 have HL:=ab (cG ba na pa la ca w ha);rw [show decide (na.us.length=0)=false by simp [h0]] at HL
 obtain ⟨xa,xc,hca⟩:=ha.kids.form;obtain ⟨ya,yc,Ut⟩:=hb.kids.form;obtain ⟨va,vc,CS⟩:=ha.bn.form;obtain ⟨za,zc,VW⟩:=hb.bn.form;subst hca Ut CS VW;obtain ⟨N,hN⟩ : ∃ N,N=(na.us++nb.us).length:=⟨_,rfl⟩;obtain ⟨M,hM⟩ : ∃ M,M=(B.iU na.lk key nb.f nb.lk).length:=⟨_,rfl⟩;have HJN:Hid (∀ W,Below w.heap.size w W→Calls prog 165 #[.agg #[.int .i64 na.f,.slice va na.lk.length vc],.string key,.agg #[.int .i64 nb.f,.slice za nb.lk.length zc]] W fun e w'=>∃ (ua:Option Addr) (uc:Nat),e = .returned (.agg #[.int .i64 na.f,.slice ua M uc])∧B.dm w' (.slice ua M uc) (B.iU na.lk key nb.f nb.lk)∧Below W.heap.size W w'):=fun W hW=>by
  refine (B.Nc na.f nb.f key _ _ na.lk nb.lk W (by omega) (ha.bn.below hW) (hb.bn.below hW)).mono fun e w' ⟨u,h1,h2,h3⟩=>?_
  obtain ⟨ua,uc,hu⟩:=h2.form;subst hu;rw [← hM] at h1 h2;exact ⟨ua,uc,h1,h2.at,h3⟩
 have zA:Hid (∀ (W:World) (k:Nat),Below w.heap.size w W→B.au W k #[.slice xa na.us.length xc,.slice ya nb.us.length yc] 153→Calls prog 166 #[.slice (some ⟨k,0,none⟩) 2 2] W fun e w'=>∃ (ca:Option Addr) (cc:Nat),e = .returned (.slice ca N cc)∧C.dm w' (.slice ca N cc) (na.us++nb.us)∧Below W.heap.size W w'):=fun W k hW hr=>by
  refine (C.oK k 2 2 [.slice xa na.us.length xc,.slice ya nb.us.length yc] [na.us,nb.us] _ rfl (by decide) rfl (by simp;omega) (fun j h=>?_) (fun j h h'=>?_)).mono fun e w' ⟨u,h1,h2,h3⟩=>?_
  ·match j,h with
   | 0,_=>exact hr.cell 0 (by simp)
   | 1,_=>exact hr.cell 1 (by simp)
  ·match j,h with
   | 0,_=>exact (ha.kids.below hW)
   | 1,_=>exact (hb.kids.below hW)
  ·have e1:[na.us,nb.us].flatten=na.us++nb.us:=by simp
   rw [e1] at h2;obtain ⟨ua,uc,hu⟩:=h2.form;subst hu;rw [← hN] at h1 h2;exact ⟨ua,uc,h1,h2.at,h3⟩
 have zi:Hid ((∀ p ∈ B.iU na.lk key nb.f nb.lk,cV p.1)∧(B.iU na.lk key nb.f nb.lk).length≤4000∧(na.us++nb.us).length≤4001):=⟨fun p hp=>by
  unfold B.iU at hp;rcases List.mem_append.1 hp with h | h
  ·exact ha.fine.2.2.1 p h
  ·rcases List.mem_cons.1 h with rfl | h
   ·exact hk
   ·exact hb.fine.2.2.1 p h,by unfold B.iU;rw [ae,List.length_cons];omega,by rw [ae];exact hu⟩
 have a1:=ha.c1;have a2:=ha.c2;have a3:=ha.c3;have b1:=hb.c1;have b2:=hb.c2;have b3:=hb.c3;have HA:=ab ha;have HB:=ab hb;clear ha hb h0 hl hu hk hN hM;go_enter func126,ntmps126;go_wp2_with fail;refine HL.out.mono ?_
 rintro e w1 ⟨rfl,rfl⟩;clear HL;go_wp2_with fail;have f0:=World.new_ne w _ a1;have f1:=World.new_ne w _ b1;have q5:=ai w (.cells #[.slice xa na.us.length xc,.slice ya nb.us.length yc] 153);have x5:=B.au.new w #[.slice xa na.us.length xc,.slice ya nb.us.length yc] 153;have Se:Hid (∀ W,Below w.heap.size w W→(W.cell? ⟨ba,1,none⟩=some (.int .i64 na.f)∧W.cell? ⟨ba,2,none⟩=some (.slice va na.lk.length vc)∧W.cell? ⟨ba,3,none⟩=some (.slice xa na.us.length xc)∧W.cell? ⟨bb,1,none⟩=some (.int .i64 nb.f)∧W.cell? ⟨bb,2,none⟩=some (.slice za nb.lk.length zc)∧W.cell? ⟨bb,3,none⟩=some (.slice ya nb.us.length yc))∧¬ ba=W.heap.size∧¬ bb=W.heap.size):=fun W hW=>⟨⟨(HA.out.below hW).c1,(HA.out.below hW).c2,(HA.out.below hW).c3,(HB.out.below hW).c1,(HB.out.below hW).c2,(HB.out.below hW).c3⟩,by have:=HA.out.row.lt;have:=hW.size;omega,by have:=HB.out.row.lt;have:=hW.size;omega⟩
 obtain ⟨⟨y1,y2,y3,y4,y5,y6⟩,y7,y8⟩:=Se.out _ q5;generalize V6:w.alloc (.cells #[.slice xa na.us.length xc,.slice ya nb.us.length yc] 153)=W5 at *;have BE:=ab q5;have zf:=ab x5;clear q5 x5;go_region_held3 (fun w'=>w'.cell? ⟨ba,1,none⟩=some (.int .i64 na.f)∧w'.cell? ⟨ba,2,none⟩=some (.slice va na.lk.length vc)∧w'.cell? ⟨ba,3,none⟩=some (.slice xa na.us.length xc)∧w'.cell? ⟨bb,1,none⟩=some (.int .i64 nb.f)∧w'.cell? ⟨bb,2,none⟩=some (.slice za nb.lk.length zc)∧w'.cell? ⟨bb,3,none⟩=some (.slice ya nb.us.length yc)) (go_keep)
  (first
   | (go_at_call 165;refine (HJN.out _ ?_).mono ?_;(first | exact ZK.out | exact BE.out.drew | exact (Below.refl _ _).drew);rintro e w2 ⟨ua,uc,rfl,jf,aV⟩;have ZJ:Hid (Below w.heap.size w w2):=(by first | exact Below.next ZK.out aV | exact Below.next BE.out (B.dy aV) | exact B.dy aV);have HJ2:=ab jf;(try (have HXJ:=ab (zf.out.drew.below aV)));(try (have WE:=ab (HC3.out.below aV)));obtain ⟨⟨m1,m2,m3,m4,m5,m6⟩,m7,m8⟩:=Se.out _ ZJ.out;clear jf aV)
   | (go_at_call 166;(first
       | (refine (zA.out _ _ ZJ.out HXJ.out).mono ?_;rintro e w3 ⟨SM,ccc,rfl,kO,bW⟩;have ZK:Hid (Below w.heap.size w w3):=Below.next ZJ.out bW;have HJ3:=ab (HJ2.out.below bW))
       | (refine (zA.out _ _ (Below.next ZJ.out (ai w2 (.cells #[.slice xa na.us.length xc,.slice ya nb.us.length yc] 153))) (B.au.new w2 #[.slice xa na.us.length xc,.slice ya nb.us.length yc] 153)).mono ?_;rintro e w3 ⟨SM,ccc,rfl,kO,bW⟩;have ZK:Hid (Below w.heap.size w w3):=Below.next (Below.next ZJ.out (ai w2 (.cells #[.slice xa na.us.length xc,.slice ya nb.us.length yc] 153))) bW;have HJ3:=ab ((HJ2.out.below (ai w2 (.cells #[.slice xa na.us.length xc,.slice ya nb.us.length yc] 153))).below bW))
       | (refine (zA.out _ _ BE.out.drew zf.out.drew).mono ?_;rintro e w3 ⟨SM,ccc,rfl,kO,bW⟩;have ZK:Hid (Below w.heap.size w w3):=Below.next BE.out (B.dy bW)));have HC3:=ab kO;obtain ⟨⟨m1,m2,m3,m4,m5,m6⟩,m7,m8⟩:=Se.out _ ZK.out;clear kO bW))
 all_goals first
  | (have hj:=HJ3.out
     have q:=ai w3 (.cells #[.slice none 0 0,.int .i64 na.f,.slice ua M uc,.slice SM N ccc] 155);have xr:=B.au.new w3 #[.slice none 0 0,.int .i64 na.f,.slice ua M uc,.slice SM N ccc] 155;have HR:Hid (dP (w3.alloc (.cells #[.slice none 0 0,.int .i64 na.f,.slice ua M uc,.slice SM N ccc] 155)) w3.heap.size ⟨[],na.f,B.iU na.lk key nb.f nb.lk,na.us++nb.us⟩ (.slice none 0 0) (.slice ua M uc) (.slice SM N ccc)):=⟨xr,gM.nil _,hj.below q,HC3.out.below q,(fun p hp=>by simp at hp),by simp,zi.out.1,zi.out.2.1,zi.out.2.2⟩
     have mU:=ab (Below.next ZK.out q);clear q xr hj;go_wp2;go_ret;exact ⟨_,_,_,_,rfl,HR.out,mU.out⟩)
  | (have hc:=WE.out
     have q:=ai w2 (.cells #[.slice none 0 0,.int .i64 na.f,.slice ua M uc,.slice SM N ccc] 155);have xr:=B.au.new w2 #[.slice none 0 0,.int .i64 na.f,.slice ua M uc,.slice SM N ccc] 155;have HR:Hid (dP (w2.alloc (.cells #[.slice none 0 0,.int .i64 na.f,.slice ua M uc,.slice SM N ccc] 155)) w2.heap.size ⟨[],na.f,B.iU na.lk key nb.f nb.lk,na.us++nb.us⟩ (.slice none 0 0) (.slice ua M uc) (.slice SM N ccc)):=⟨xr,gM.nil _,HJ2.out.below q,hc.below q,(fun p hp=>by simp at hp),by simp,zi.out.1,zi.out.2.1,zi.out.2.2⟩
     have mU:=ab (Below.next ZJ.out q);clear q xr hc;go_wp2;go_ret;exact ⟨_,_,_,_,rfl,HR.out,mU.out⟩)
end T
theorem oZ(x y:ByteArray):(x.toList == y.toList)=decide (x=y):=by
 rw [kC,beq_iff_eq,decide_eq_true_eq,ByteArray.toList_eq,ByteArray.toList_eq];exact ⟨fun h=>ib h,fun h=>by rw [h]⟩
theorem ME(p:Pr)(key:ByteArray)(b:Nat)(w:World)(hc:w.cell? ⟨b,0,none⟩=some (.string key)):Calls prog 88 #[.agg #[.string p.1,.string p.2],.pointer (some ⟨b,0,none⟩)] w fun e w'=>e = .returned (.bool (!cR p.1 key))∧Below w.heap.size w w':=by
 have fc:=ai w (.cells #[.string p.1,.string p.2] 52);have Bf:(w.alloc (.cells #[.string p.1,.string p.2] 52)).cell? ⟨b,0,none⟩=some (.string key):=(fc.cell (p:=⟨b,0,none⟩) (World.block_lt_of_cell? w _ hc)).trans hc;go_enter func88,ntmps88;go_wp2;go_ret;exact ⟨rfl,fc⟩
theorem Qe(v:Value)(l:List Pr)(key:ByteArray)(b:Nat)(w:World)(hm:l.length≤140737488355328)(hr:gM w v l)(hk:w.cell? ⟨b,0,none⟩=some (.string key)):Calls prog 87 #[v,.func (.func 88) #[] #[.pointer (some ⟨b,0,none⟩)]] w fun e w'=>((aS l key<l.length∧e = .returned (.int .i64 (aS l key:Int)))∨(¬ aS l key<l.length∧e = .returned (.int .i64 (-1))))∧Below w.heap.size w w':=by
 obtain ⟨a,cap,rfl,dj,_,hc⟩:=hr;have HC:=ab hc;obtain ⟨n,hn⟩ : ∃ n,n=l.length:=⟨_,rfl⟩;rw [← hn] at hm ⊢;have HN:=ab hn;have HK:=ab hk;have ZC:=ab (World.block_lt_of_cell? w _ hk);obtain ⟨Q,hQ⟩ : ∃ Q:Ending→World→Prop,Q=fun e w'=>((aS l key<n∧e = .returned (.int .i64 (aS l key:Int)))∨(¬ aS l key<n∧e = .returned (.int .i64 (-1))))∧Below w.heap.size w w':=⟨_,rfl⟩
 rw [← hQ];have HQ:=ab hQ;clear hc hn dj hk hQ;go_enter func87,ntmps87;go_wp2;go_loopw [8] (fun i wr=>∃ k:Nat,k≤n∧i = .int .i64 k∧(∀ j (h:j<l.length),j<k→cR l[j].1 key=true)∧Below w.heap.size w wr) (fun i _=>n - (intOf i).toNat)
 case atStart=>exact ⟨0,aB _,rfl,fun j _ h=>absurd h (iz _),Below.refl _ _⟩
 case round =>
  obtain ⟨k,hk,rfl,js,bQ⟩:=hrel;have HP:=ab js;clear js;by_cases bO:k<n
  ·have cZ:k<l.length:=by have:=HN.out;omega
   obtain ⟨g,o,rfl,f1,f2⟩:=HC.out k cZ;have c1:wr.cell? ⟨g,o+k*2,none⟩=some (.string l[k].1):=(bQ.cell (p:=⟨g,o+k*2,none⟩) (World.block_lt_of_cell? w _ f1)).trans f1;have c2:wr.cell? ⟨g,o+k*2+1,none⟩=some (.string l[k].2):=(bQ.cell (p:=⟨g,o+k*2+1,none⟩) (World.block_lt_of_cell? w _ f2)).trans f2;have HF:=ab (ME l[k] key b wr ((bQ.cell (p:=⟨b,0,none⟩) ZC.out).trans HK.out));have nU:Hid (cR l[k].1 key=true→∀ j (h:j<l.length),j<k+1→cR l[j].1 key=true):=fun hl j h hj=>by
    by_cases he:j=k
    ·subst he;exact hl
    ·exact HP.out j h (by omega)
   have zB:Hid (cR l[k].1 key=false→aS l key=k):=fun hl=>sG cZ (fun j hj=>HP.out j (by omega) hj) hl
   obtain ⟨p,hp⟩ : ∃ p,p=l[k]:=⟨_,rfl⟩;rw [← hp] at c1 c2 HF nU zB;have dE:(k:Int)<(n:Int):=by omega
   have HB:=ab bQ;clear hp HC f1 f2 bQ;cases hb:cR p.1 key with
   | true =>
    rw [hb] at HF;have p8:=ab (nU.out hb);clear hb nU zB;go_wp2_with fail;refine HF.out.mono ?_
    rintro e w1 ⟨rfl,aO⟩;have bT:=ab (Below.next HB.out aO);clear aO HB HF c1 c2;go_wp2;go_roundw
    case rel=>exact ⟨k+1,by omega,by go_num,p8.out,bT.out⟩
    case measure=>simp [intOf];omega
   | false =>
    rw [hb] at HF;have I1:=ab (zB.out hb);clear hb nU zB;go_wp2_with fail;refine HF.out.mono ?_
    rintro e w1 ⟨rfl,aO⟩;have bT:=ab (Below.next HB.out aO);clear aO HB HF c1 c2;go_wp2;rw [HQ.out];exact ⟨.inl ⟨by rw [I1.out];exact bO,by rw [I1.out];rfl⟩,bT.out⟩
  ·have HB:=ab bQ;have dE:¬ (k:Int)<(n:Int):=by omega
   have kK:Hid (¬ aS l key<n):=by
    have h:=qT (l:=l) (key:=key) (fun j hj=>HP.out j hj (by have:=HN.out;omega))
    have:=HN.out;intro h';omega
   clear HC bQ HP;go_wp2;rw [HQ.out];exact ⟨.inr ⟨kK.out,rfl⟩,HB.out⟩
theorem iT(v:Value)(l:List Pr)(key:ByteArray)(w:World)(hm:l.length≤140737488355328)(hr:gM w v l):Calls prog 52 #[v,.string key] w fun e w'=>e = .returned (.tuple #[.int .i64 (aS l key:Int),.bool (bm l key)])∧Below w.heap.size w w':=by
 have Mb:∀ (fn:Fn) (first cap:Array Value) (w:World),(Instr.makeFunc fn first cap).run prog w = .ok (.func fn first cap) w:=fun _ _ _ _=>rfl
 have fc:=ai w (.cells #[.string key] 9);have hx:=bM w #[.string key] 9;have fX:=hr.below fc;have HI:=ab (Qe v l key w.heap.size _ hm fX (hx.2 0 (by simp)))
 have HR:=ab fX;have HX:=ab hx;have CM:=ab fc;obtain ⟨a,c,rfl⟩:=hr.form;have IZ:=ab (cH l key);obtain ⟨q,hq⟩ : ∃ q,q=aS l key:=⟨_,rfl⟩;have zB:Hid (∀ (h:q<l.length),bm l key=decide (l[q].1=key)):=by subst hq;exact fun h=>pN h
 have kK:Hid (¬ q<l.length→bm l key=false):=by subst hq;exact fun h=>oV h
 rw [← hq] at HI IZ ⊢;clear hq hr fX fc hx;go_enter func52,ntmps52;go_wp2_with fail;refine HI.out.mono ?_
 rintro e w1 ⟨⟨bO,rfl⟩ | ⟨bO,rfl⟩,aO⟩
 ·have fX:=HR.out.below aO;have k0:w1.cell? ⟨w.heap.size,0,none⟩=some (.string key):=(HX.out.below aO).2 0 (by simp)
  obtain ⟨a',c',he,_,_,hc⟩:=fX;cases he;obtain ⟨g,o,rfl,f1,f2⟩:=hc q bO;have Ku:=ab (zB.out bO);have HB:=ab (Below.next CM.out aO);have Gi:decide ((q:Int)<0)=false:=decide_eq_false (by omega)
  have j0:(0:Int)≤(q:Int):=by omega
  have j1:(q:Int)<(l.length:Int):=by omega
  generalize l[q].1=x at *;clear hc aO HI HR HX CM zB kK f2;go_wp2;go_quiet (fail)
  go_wp2;go_ret2;refine ⟨?_,aA HB.out _⟩;rw [Ku.out,← oZ];rfl
 ·have HB:=ab (Below.next CM.out aO);have Ku:=ab (kK.out bO);have Sf:Hid (q=l.length):=by have:=IZ.out;show q=l.length;omega
  clear aO HI HR HX CM zB kK bO;go_wp2;go_ret2;exact ⟨by rw [Ku.out,Sf.out];rfl,HB.out⟩
theorem K6(w:World)(a:Option Addr)(n cap m:Nat)(hm:m≤cap):(Instr.sliceAt 63 (.slice a n cap) none (some (.int .i64 (m:Int))) none).run prog w = .ok (.slice a m cap) w:=by
 rw [run_sliceAt_slice (h:=underlying63),run_slice_h (ht:=underlying63) (h0:=by omega) (h2:=by omega)]
 have hz:(sizeOf (prog.elem 63)).run prog w = .ok 2 w:=by kernel_rfl
 rw [hz];simp [Result.andThen,sliced,Addr.add]
theorem gM.drop{w:World}{a:Option Addr}{n m cap:Nat}{l:List Pr}(h:gM w (.slice a n cap) l)(hm:m≤n):∃ a',gM w (.slice a' (n - m) (cap - m)) (l.drop m)∧∀ w',(Instr.sliceAt 63 (.slice a n cap) (some (.int .i64 (m:Int))) none none).run prog w' = .ok (.slice a' (n - m) (cap - m)) w':=by
 obtain ⟨a',eO,he,hle,hn,hc⟩:=h;cases he;refine ⟨if cap=m then a else a.map (·.add (m*2)),⟨_,_,by rw [al],by rw [al];omega,fun ha=>?_,fun j hj=>?_⟩,fun w'=>?_⟩
 ·split at ha
  ·omega
  ·cases a with
   | none=>have:=hn rfl;omega
   | some x=>cases ha
 ·rw [al] at hj;obtain ⟨g,o,ha,h1,h2⟩:=hc (m+j) (by omega)
  subst ha;refine ⟨g,o+m*2,?_,?_,?_⟩
  ·rw [if_neg (by omega)];simp [bh]
  ·rw [cu,show o+m*2+j*2=o+(m+j)*2 by omega];exact h1
  ·rw [cu,show o+m*2+j*2+1=o+(m+j)*2+1 by omega];exact h2
 ·rw [run_sliceAt_slice (h:=underlying63),run_slice_l (ht:=underlying63) (h0:=by omega) (h1:=by omega)]
  have hz:(sizeOf (prog.elem 63)).run prog w' = .ok 2 w':=by kernel_rfl
  rw [hz];simp [Result.andThen,sliced]
theorem Ej(v:Value)(l:List Pr)(key value:ByteArray)(w:World)(hm:l.length≤4398046511000)(hr:gM w v l):Calls prog 48 #[v,.string key,.string value] w fun e w'=>∃ u,e = .returned u∧fJ w' w.heap.size u (fx l key value)∧Below w.heap.size w w':=by
 have HF:=ab (iT v l key w (by omega) hr)
 have HR:=ab hr;obtain ⟨a,cap,hv⟩:=hr.form;subst hv;have il:=cH l key;have jB:=jV l key;have Uh:=eP l key;have dj:l.length≤cap:=by obtain ⟨_,_,he,h,_⟩:=hr;cases he;exact h
 obtain ⟨q,hq⟩ : ∃ q,q=aS l key:=⟨_,rfl⟩;obtain ⟨r,vR⟩ : ∃ r,r=dk l key:=⟨_,rfl⟩;obtain ⟨fb,E3⟩ : ∃ fb,fb=bm l key:=⟨_,rfl⟩;have wI:(if fb then q+1 else q:Nat)=r:=by rw [vR,hq,E3];rfl
 have Vq:=ab (fun W=>yT q fb W (by omega))
 rw [wI] at Vq;rw [← hq,← E3] at HF;rw [← hq] at il;rw [← vR] at jB;rw [← hq,← vR] at Uh;obtain ⟨a2,iM,qO⟩:=hr.drop jB;have vQ:=fun W=>K6 W a l.length cap q (by omega)
 have nT:=ab (hr.take il);have pe:=ab iM;have HL:Hid (fx l key value=[l.take q,[(key,value)],l.drop r].flatten):=by show _=_;unfold fx;rw [← hq,← vR];simp
 clear hr iM hq vR E3 wI;go_enter func48,ntmps48;go_wp2_with fail;refine HF.out.mono ?_
 rintro e w1 ⟨rfl,aO⟩;have bT:=ab aO;clear aO HF;have zA:Hid (∀ W,Below ((w1.alloc (.cells #[.string key,.string value] 52)).alloc (.cells #[.slice a q cap,.slice (some ⟨w1.heap.size,0,none⟩) 1 1,.slice a2 (l.length - r) (cap - r)] 63)).heap.size ((w1.alloc (.cells #[.string key,.string value] 52)).alloc (.cells #[.slice a q cap,.slice (some ⟨w1.heap.size,0,none⟩) 1 1,.slice a2 (l.length - r) (cap - r)] 63)) W→Calls prog 84 #[.slice (some ⟨w1.heap.size+1,0,none⟩) 3 3] W fun e w'=>∃ u,e = .returned u∧fJ w' w.heap.size u (fx l key value)∧Below w.heap.size w w'):=fun W hW=>by
  have hbA:=ai w1 (.cells #[.string key,.string value] 52);have hsA:(w1.alloc (.cells #[.string key,.string value] 52)).heap.size=w1.heap.size+1:=by simp
  have EY:=B1 w1 (key,value) 52;generalize w1.alloc (.cells #[.string key,.string value] 52)=WA at *;have hbB:=ai WA (.cells #[.slice a q cap,.slice (some ⟨w1.heap.size,0,none⟩) 1 1,.slice a2 (l.length - r) (cap - r)] 63);have hBx:=(bM WA #[.slice a q cap,.slice (some ⟨w1.heap.size,0,none⟩) 1 1,.slice a2 (l.length - r) (cap - r)] 63).below hW;rw [hsA] at hBx;have UA:=Below.next (Below.next bT.out hbA) (Below.next hbB hW);rw [HL.out];refine (qW (w1.heap.size+1) 3 3 [.slice a q cap,.slice (some ⟨w1.heap.size,0,none⟩) 1 1,.slice a2 (l.length - r) (cap - r)] [l.take q,[(key,value)],l.drop r] W rfl (by decide) rfl ?_ (fun j h=>hBx.2 j h) ?_).mono ?_
  ·simp;omega
  ·intro j h h';have hj:j<3:=h;match j,hj with
   | 0,_=>exact nT.out.below UA
   | 1,_=>exact EY.below (Below.next hbB hW)
   | 2,_=>exact pe.out.below UA
  ·rintro e w' ⟨u,rfl,ho,hb⟩;exact ⟨u,rfl,ho.mono UA.size,Below.next UA hb⟩
 clear HR nT pe HL bT;go_wp2_with fail;go_region_held3 (fun w'=>True) (go_keep)
  (first
   | (go_at_call 85;refine (Vq.out _).mono ?_;rintro e w2 ⟨rfl,rfl⟩)
   | (go_at_call 84;refine (zA.out _ ?_).mono ?_;(exact (Below.refl _ _).drew);rintro e w3 ⟨u,rfl,ho,hb⟩;have HO:=ab ho;have HB:=ab hb;clear ho hb))
 all_goals
  clear zA Vq vQ qO;go_wp2;go_ret;exact ⟨_,rfl,HO.out,HB.out⟩
theorem AT(v:Value)(l:List Pr)(key:ByteArray)(w:World)(hm:l.length≤4398046511000)(hr:gM w v l):Calls prog 51 #[v,.string key] w fun e w'=>∃ u,e = .returned (.tuple #[u,.bool (bm l key)])∧fJ w' w.heap.size u (fT l key)∧Below w.heap.size w w':=by
 have HF:=ab (iT v l key w (by omega) hr)
 have HR:=ab hr;obtain ⟨a,cap,hv⟩:=hr.form;subst hv;have il:=cH l key;have jB:=jV l key;have Uh:=eP l key;have dj:l.length≤cap:=by obtain ⟨_,_,he,h,_⟩:=hr;cases he;exact h
 obtain ⟨q,hq⟩ : ∃ q,q=aS l key:=⟨_,rfl⟩;obtain ⟨r,vR⟩ : ∃ r,r=dk l key:=⟨_,rfl⟩;obtain ⟨fb,E3⟩ : ∃ fb,fb=bm l key:=⟨_,rfl⟩;have wI:(if fb then q+1 else q:Nat)=r:=by rw [vR,hq,E3];rfl
 have Vq:=ab (fun W=>yT q fb W (by omega))
 rw [wI] at Vq;rw [← hq,← E3] at HF;rw [← E3];rw [← hq] at il;rw [← vR] at jB;rw [← hq,← vR] at Uh;obtain ⟨a2,iM,qO⟩:=hr.drop jB;have vQ:=fun W=>K6 W a l.length cap q (by omega)
 have nT:=ab (hr.take il);have pe:=ab iM;have HL:Hid (fT l key=[l.take q,l.drop r].flatten):=by show _=_;unfold fT;rw [← hq,← vR];simp
 clear hr iM hq vR E3 wI;go_enter func51,ntmps51;go_wp2_with fail;refine HF.out.mono ?_
 rintro e w1 ⟨rfl,aO⟩;have bT:=ab aO;clear aO HF;have zA:Hid (∀ W,Below (w1.alloc (.cells #[.slice a q cap,.slice a2 (l.length - r) (cap - r)] 63)).heap.size (w1.alloc (.cells #[.slice a q cap,.slice a2 (l.length - r) (cap - r)] 63)) W→Calls prog 84 #[.slice (some ⟨w1.heap.size,0,none⟩) 2 2] W fun e w'=>∃ u,e = .returned u∧fJ w' w.heap.size u (fT l key)∧Below w.heap.size w w'):=fun W hW=>by
  have hbB:=ai w1 (.cells #[.slice a q cap,.slice a2 (l.length - r) (cap - r)] 63);have hBx:=(bM w1 #[.slice a q cap,.slice a2 (l.length - r) (cap - r)] 63).below hW;have UA:=Below.next bT.out (Below.next hbB hW);rw [HL.out];refine (qW w1.heap.size 2 2 [.slice a q cap,.slice a2 (l.length - r) (cap - r)] [l.take q,l.drop r] W rfl (by decide) rfl ?_ (fun j h=>hBx.2 j h) ?_).mono ?_
  ·simp;omega
  ·intro j h h';have hj:j<2:=h;match j,hj with
   | 0,_=>exact nT.out.below UA
   | 1,_=>exact pe.out.below UA
  ·rintro e w' ⟨u,rfl,ho,hb⟩;exact ⟨u,rfl,ho.mono UA.size,Below.next UA hb⟩
 clear HR nT pe HL bT;go_wp2_with fail;go_region_held3 (fun w'=>True) (go_keep)
  (first
   | (go_at_call 85;refine (Vq.out _).mono ?_;rintro e w2 ⟨rfl,rfl⟩)
   | (go_at_call 84;refine (zA.out _ ?_).mono ?_;(exact (Below.refl _ _).drew);rintro e w3 ⟨u,rfl,ho,hb⟩;have HO:=ab ho;have HB:=ab hb;clear ho hb))
 all_goals
  clear zA Vq vQ qO;go_wp2;go_ret2;exact ⟨_,rfl,HO.out,HB.out⟩
end Go.Proofs.YtihmgigfkmofnaaGreatDoor
