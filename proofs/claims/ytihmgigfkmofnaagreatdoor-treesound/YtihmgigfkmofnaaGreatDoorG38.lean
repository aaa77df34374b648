import Derived.Test.YtihmgigfkmofnaaGreatDoorG37
set_option maxHeartbeats 8000000
set_option maxRecDepth 100000
open Go.Proofs.Tryz
namespace Go.Proofs.YtihmgigfkmofnaaGreatDoor
namespace T
open Go.RowKit
section
variable {base:Nat} {A:Nat→Addr} {w0:World} {ob db tb fb fg:Nat} {F:Nat→Prop} {d:S.V.bE} {r:cT} {T:Nat→Bool} {wv:Value} {root tx:Nat} {l:List Pr}
theorem FN{w:World}(at' n:Int)(key value iO:ByteArray)(h:Os base A w0 w ob db tb fb fg F d r T wv root tx (aD r))(hn:(aD r).length≤1000000):Calls prog 61 #[.pointer (some ⟨ob,0,none⟩),.agg #[.int .i64 5,.int .i64 at',.int .i64 n,.string key,.string value,.string iO]] w fun e w'=>e = .returned (.bool true)∧Os base A w0 w' ob db tb fb fg F d r T wv root tx (aD r)∧Fr F tb ob w w':=by
 obtain ⟨row,bH⟩ : ∃ row:Array Value,row=#[.int .i64 5,.int .i64 at',.int .i64 n,.string key,.string value,.string iO]:=⟨_,rfl⟩;have h1:=h.box row;have Aj:=ab (dM (F:=F) (tb:=tb) (ob:=ob) (ai w (.cells row 44)));rw [bH] at h1 Aj;obtain ⟨W1,ig⟩ : ∃ W1,w.alloc (.cells #[.int .i64 5,.int .i64 at',.int .i64 n,.string key,.string value,.string iO] 44)=W1:=⟨_,rfl⟩;obtain ⟨XB,sV⟩ : ∃ XB,XB=w.heap.size:=⟨_,rfl⟩;rw [ig,← sV] at h1;rw [ig] at Aj;rw [← bH] at h1;have HC:Hid (∀ W,Al base A w0 W ob db tb fb fg F d r T wv root tx (aD r) XB row→W.cell? ⟨ob,3,none⟩=some (.pointer (some ⟨tb,0,none⟩))∧W.cell? ⟨ob,4,none⟩=some wv∧W.cell? ⟨XB,0,none⟩=some (.int .i64 5)∧W.cell? ⟨XB,2,none⟩=some (.int .i64 n)∧W.cell? ⟨XB,3,none⟩=some (.string key)∧W.cell? ⟨XB,5,none⟩=some (.string iO)):=fun W hb=>by
  have hx:=hb.bx;rw [bH] at hx;refine ⟨hb.os.c.1,hb.os.c.2.1,?_,?_,?_,?_⟩
  ·have:=hx.cell 0 (by simp)
   simpa using this
  ·have:=hx.cell 2 (by simp)
   simpa using this
  ·have:=hx.cell 3 (by simp)
   simpa using this
  ·have:=hx.cell 5 (by simp)
   simpa using this
 obtain ⟨L,hL⟩ : ∃ L,L=sL (aD r) key:=⟨_,rfl⟩;obtain ⟨s1,ja⟩ : ∃ s1,s1=(iy L).1:=⟨_,rfl⟩;obtain ⟨s2,iL⟩ : ∃ s2,s2=(iy L).2:=⟨_,rfl⟩;obtain ⟨bb,Cn⟩ : ∃ bb,bb=!L.isEmpty:=⟨_,rfl⟩;have QY:∀ k,F k→k<W1.heap.size:=fun k hk=>by
  obtain ⟨d',_,hd⟩:=h1.os.ts.dv.dev;exact hd.lt _ hk
 have Y7:=h1.os.new (aj W1.heap.size);have Vp:Hid (∀ W,Below W1.heap.size W1 W→Calls prog 18 #[.pointer (some ⟨tb,0,none⟩),.string key] W fun e w'=>e = .returned (.tuple #[.agg #[.string s1,.string s2],.bool bb,.nilIface])∧Dv base A db F d w'∧Mv db F W w'):=fun W hW=>by
  have hb:=h1.below hW;rw [ja,iL,Cn,hL];exact (FG key hb.os.ts (by omega))
 have HE1:Hid (∀ w2,Dv base A db F d w2→Mv db F (W1.alloc (.cells #[.string ⟨#[]⟩,.string ⟨#[]⟩] 52)).drew w2→B.au w2 W1.heap.size #[.string ⟨#[]⟩,.string ⟨#[]⟩] 52∧Al base A w0 w2 ob db tb fb fg F d r T wv root tx (aD r) XB row∧Al base A w0 ((w2.setCell ⟨W1.heap.size,0,none⟩ (.string s1)).setCell ⟨W1.heap.size,1,none⟩ (.string s2)) ob db tb fb fg F d r T wv root tx (aD r) XB row∧Fr F tb ob W1 ((w2.setCell ⟨W1.heap.size,0,none⟩ (.string s1)).setCell ⟨W1.heap.size,1,none⟩ (.string s2))∧B.au ((w2.setCell ⟨W1.heap.size,0,none⟩ (.string s1)).setCell ⟨W1.heap.size,1,none⟩ (.string s2)) W1.heap.size #[.string s1,.string s2] 52):=fun w2 hv hm=>by
  have aO:Below W1.heap.size W1 (W1.alloc (.cells #[.string ⟨#[]⟩,.string ⟨#[]⟩] 52)).drew:=B.aP (ai W1 _);have fo:Mv db F W1 w2:=(Mv.of aO).trans hm;have xp:B.au w2 W1.heap.size #[.string ⟨#[]⟩,.string ⟨#[]⟩] 52:=(hm.step.block W1.heap.size (by simp [World.drew]) Y7.1).trans (B.au.new W1 #[.string ⟨#[]⟩,.string ⟨#[]⟩] 52)
  obtain ⟨rr,lX⟩:=FD h1.os.env.size (aj _) QY fo hv (.string s1) (.string s2);exact ⟨xp,h1.fr (h1.os.mv hv fo) (vm fo),h1.fr (h1.os.mv rr lX) (vm lX),vm lX,xp.two _ _⟩
 have WB:Hid (∀ w1 w2,Below W1.heap.size W1 w1→Dv base A db F d w2→Mv db F w1 w2→Al base A w0 w2 ob db tb fb fg F d r T wv root tx (aD r) XB row∧Al base A w0 (w2.alloc (.cells #[.string s1,.string s2] 52)) ob db tb fb fg F d r T wv root tx (aD r) XB row∧Fr F tb ob W1 (w2.alloc (.cells #[.string s1,.string s2] 52))∧B.au (w2.alloc (.cells #[.string s1,.string s2] 52)) w2.heap.size #[.string s1,.string s2] 52):=fun w1 w2 aO hv hm=>by
  have fo:Mv db F W1 w2:=(Mv.of aO).trans hm;have me:=h1.fr (h1.os.mv hv fo) (vm fo);have hba:=ai w2 (.cells #[.string s1,.string s2] 52);exact ⟨me,me.below hba,(vm fo).trans (dM hba),B.au.new w2 _ _⟩
 clear QY Y7;have zh:Hid (∀ W,Al base A w0 W ob db tb fb fg F d r T wv root tx (aD r) XB row→∀ W2,Below W.heap.size W W2→Calls prog 28 #[wv,.string key] W2 fun e w'=>e = .returned (.tuple #[.int .i64 (aS (aD r) key:Int),.bool (bm (aD r) key)])∧Below W.heap.size W w'):=fun W hb W2 hW=>(mn wv (aD r) key W2 (by omega) (hb.below hW).os.want.at).mono fun e w' ⟨he,k,hk⟩=>⟨he,by rw [hk];exact Below.next hW (aA (Below.refl _ _) k)⟩
 obtain ⟨q3,q4,x0,x2,x3,x5⟩:=HC.out W1 h1;obtain ⟨wa,wn,wc,NK⟩:=jl h.want;have HN:=ab hn;have FU:Hid (wn=(aD r).length):=by
  obtain ⟨a,c,e2⟩:=h.want.form;rw [NK] at e2;cases e2;rfl
 subst NK;have CH:=ab ig;have R6:=ab sV;have kR:=ab hL;have mf:=ab ja;have lD:=ab iL;have mU:=ab Cn;clear h h1 hn bH ig hL ja iL Cn;by_cases hk:key=⟨#[]⟩
 focus
  have Me:=Je hk;by_cases h0:wn=0
  focus
   have NV:aD r=[]:=List.length_eq_zero_iff.1 (by have:=FU.out;omega)
   have CZ:Hid (s1=⟨#[]⟩∧s2=⟨#[]⟩∧bb=false):=by
    have N3:L=[]:=by rw [kR.out];unfold sL;rw [if_pos hk];exact NV
    rw [mf.out,lD.out,mU.out,N3];exact ⟨rfl,rfl,rfl⟩
   have hz:((wn:Int) == 0)=true:=by rw [beq_iff_eq];omega
   clear hk NV h0
  rotate_left;focus
   obtain ⟨J,hJ⟩ : ∃ J,wn=J+1:=⟨wn - 1,by omega⟩
   have HJ:Hid (J<(aD r).length∧J+1=wn):=⟨by have:=FU.out;omega,hJ.symm⟩
   have CZ:Hid (s1=((aD r)[J]'HJ.out.1).1∧s2=((aD r)[J]'HJ.out.1).2∧bb=true):=by
    have N3:L=(aD r).take (J+1):=by rw [kR.out];unfold sL;rw [if_pos hk,ao (by have:=HJ.out.2;have:=FU.out;omega)]
    have CS:iy L=(aD r)[J]'HJ.out.1:=by
     rw [N3,pJ (j:=J) (by rw [ag];have:=HJ.out.1;omega),bF]
    rw [mf.out,lD.out,mU.out,CS];refine ⟨rfl,rfl,?_⟩;rw [N3];cases hx:(aD r).take (J+1) with
    | nil =>
     have:=congrArg List.length hx;rw [ag,List.length_nil] at this;have:=HJ.out.1;omega
    | cons _ _=>rfl
   have sB:IntKind.i64.wrap ((wn:Int) - 1)=(J:Int):=by rw [IntKind.wrap_i64];have:=FU.out;have:=HN.out;omega
   have hz:((wn:Int) == 0)=false:=by rw [beq_eq_false_iff_ne];omega
   clear hk h0 hJ
 rotate_left 2
 focus
  obtain ⟨Me,aks⟩:=Dc hk;have abx:=cH (aD r) key;by_cases h0:aS (aD r) key=0
  focus
   have CZ:Hid (s1=⟨#[]⟩∧s2=⟨#[]⟩∧bb=false):=by
    have N3:L=[]:=by rw [kR.out];unfold sL;rw [if_neg hk,h0];rfl
    rw [mf.out,lD.out,mU.out,N3];exact ⟨rfl,rfl,rfl⟩
   rw [h0] at zh;clear hk h0 abx
  rotate_left;focus
   obtain ⟨J,hJ⟩ : ∃ J,aS (aD r) key=J+1:=⟨aS (aD r) key - 1,by omega⟩
   have HJ:Hid (J<(aD r).length∧J+1=aS (aD r) key):=⟨by omega,hJ.symm⟩
   have CZ:Hid (s1=((aD r)[J]'HJ.out.1).1∧s2=((aD r)[J]'HJ.out.1).2∧bb=true):=by
    have N3:L=(aD r).take (J+1):=by rw [kR.out];unfold sL;rw [if_neg hk,HJ.out.2]
    have CS:iy L=(aD r)[J]'HJ.out.1:=by
     rw [N3,pJ (j:=J) (by rw [ag];have:=HJ.out.1;omega),bF]
    rw [mf.out,lD.out,mU.out,CS];refine ⟨rfl,rfl,?_⟩;rw [N3];cases hx:(aD r).take (J+1) with
    | nil =>
     have:=congrArg List.length hx;rw [ag,List.length_nil] at this;have:=HJ.out.1;omega
    | cons _ _=>rfl
   have sB:IntKind.i64.wrap (((J+1:Nat):Int) - 1)=(J:Int):=by rw [IntKind.wrap_i64];have:=HJ.out.1;have:=HN.out;omega
   have hz:(((J+1:Nat):Int) == 0)=false:=by rw [beq_eq_false_iff_ne];omega
   simp only [hJ] at zh;clear hk h0 hJ abx
 all_goals
  go_enter func61,ntmps61;go_wp2_with fail;rw [CH.out,← sV];clear sV;go_wp2_with fail;go_region_held3 (fun w'=>w'.cell? ⟨ob,3,none⟩=some (.pointer (some ⟨tb,0,none⟩))∧w'.cell? ⟨XB,3,none⟩=some (.string key)) (go_keep)
   (first | (go_at_call 18;refine (Vp.out _ ?_).mono ?_;exact B.aP (ai _ _);rintro e w2 ⟨rfl,je,jD⟩;obtain ⟨xp,aV,bW,hf3,vP⟩:=HE1.out w2 je jD;have z0:=xp.c0;have z1:=xp.c1;have y0:=xp.free 0;have y1:=xp.free 1;have agZ:Hid (w2=w2):=rfl;have eH:=ab bW;have ZF:=ab hf3;have zu:=ab vP;obtain ⟨n3,n4,m0,m2,m3,m5⟩:=HC.out w2 aV;obtain ⟨g3,g4,-,-,gx3,-⟩:=HC.out _ bW;have c0:=vP.c0;have c1:=vP.c1;clear aV bW hf3 vP xp je jD) | (go_at_call 18;refine (Vp.out _ ?_).mono ?_;(first | exact (Below.refl _ _).drew | exact aA (Below.refl _ _) _ | exact Below.refl _ _);rintro e w2 ⟨rfl,je,jD⟩;obtain ⟨aV,bW,hf3,vP⟩:=WB.out _ w2 (by first | exact (Below.refl _ _).drew | exact aA (Below.refl _ _) _ | exact Below.refl _ _) je jD;have agY:Hid (w2=w2):=rfl;have eH:=ab bW;have ZF:=ab hf3;have zu:=ab vP;obtain ⟨n3,n4,m0,m2,m3,m5⟩:=HC.out w2 aV;obtain ⟨g3,g4,-,-,gx3,-⟩:=HC.out _ bW;have c0:=vP.c0;have c1:=vP.c1;clear aV bW hf3 vP je jD))
  all_goals
   clear q3 q4 x0 x2 x3 x5 Vp HE1 WB n3 n4 m0 m2 m3 m5
   (try clear z0 z1 y0 y1)
   go_wp2_with fail
   first
   | (clear agY
      generalize NZ:w2.alloc (.cells #[.string s1,.string s2] 52)=w3 at *;generalize hPB:w2.heap.size=PB at *)
   | (clear agZ
      generalize NZ:(w2.setCell ⟨W1.heap.size,0,none⟩ (.string s1)).setCell ⟨W1.heap.size,1,none⟩ (.string s2)=w3 at *;generalize hPB:W1.heap.size=PB at *)
   clear NZ hPB;have vM:=ab (zh.out w3 eH.out);have acp:Hid (∀ W,Below w3.heap.size w3 W→B.au W PB #[.string s1,.string s2] 52):=fun W hW=>zu.out.below hW
   clear zh;go_region_held3 (fun w'=>w'.cell? ⟨ob,4,none⟩=some (.slice wa wn wc)∧w'.cell? ⟨XB,3,none⟩=some (.string key)∧w'.cell? ⟨PB,0,none⟩=some (.string s1)∧w'.cell? ⟨PB,1,none⟩=some (.string s2)) (go_keep)
    (first | (go_at_call 28;refine (vM.out _ ?_).mono ?_;(first | exact (Below.refl _ _).drew | exact aA (Below.refl _ _) _ | exact Below.refl _ _);rintro e w4 ⟨rfl,fS⟩;have iY:=ab (eH.out.below fS);have HF4:=ab (ZF.out.trans (dM fS));obtain ⟨i3,i4,-,-,i5,-⟩:=HC.out w4 iY.out;have j0:=(acp.out w4 fS).c0;have j1:=(acp.out w4 fS).c1;clear fS))
   all_goals
    clear g3 g4 gx3 c0 c1 vM i3;have cz:Hid (∀ k,Os base A w0 (w4.drewN k) ob db tb fb fg F d r T (.slice wa wn wc) root tx (aD r)∧Fr F tb ob w (w4.drewN k)):=fun k=>⟨(iY.out.below (aA (Below.refl _ _) k)).os,Aj.out.trans (HF4.out.trans (dM (aA (Below.refl _ _) k)))⟩
    obtain ⟨_,_,hwe,_,_,bq⟩:=iY.out.os.want.at;simp only [Value.slice.injEq] at hwe;obtain ⟨rfl,-,rfl⟩:=hwe
    first
    | (obtain ⟨g,o,zY,e0,e1⟩:=bq J HJ.out.1
       subst zY;rw [← CZ.out.1] at e0;rw [← CZ.out.2.1] at e1;have hbf:=CZ.out.2.2;subst hbf;have f0:(0:Int)≤(J:Int):=by omega
       have f1:(J:Int)<(wn:Int):=by have:=HJ.out.1;have:=FU.out;omega
       have f2:(wn:Int)≤1000000:=by have:=HN.out;have:=FU.out;omega
       clear bq)
    | (rw [CZ.out.1] at j0;rw [CZ.out.2.1] at j1;have hbf:=CZ.out.2.2;subst hbf;clear bq)
    go_wp2
    (try go_quiet (fail))
    (try go_wp2)
    go_ret
    first | exact ⟨rfl,cz.out _⟩ | exact ⟨rfl,iY.out.os,Aj.out.trans HF4.out⟩
end
structure SX(base:Nat)(A:Nat→Addr)(w0 w:World)(ob db i j:Nat):Prop where
 out:∃ (tb fb fg:Nat) (F:Nat→Prop) (d:S.V.bE) (r:cT) (T:Nat→Bool) (wv:Value) (root tx:Nat),(aD r).length≤i∧tx≤j∧3000≤(Q.gB T 4000).length∧Os base A w0 w ob db tb fb fg F d r T wv root tx (aD r)
section
variable {base:Nat} {A:Nat→Addr} {w0:World} {ob db:Nat}
theorem SX.below{w w1:World}{i j:Nat}(h:SX base A w0 w ob db i j)(hb:Below w.heap.size w w1):SX base A w0 w1 ob db i j:=by
 obtain ⟨tb,fb,fg,F,d,r,T,wv,root,tx,h1,h2,h3,h4⟩:=h.out;exact ⟨tb,fb,fg,F,d,r,T,wv,root,tx,h1,h2,h3,h4.below hb⟩
theorem SX.mono{w:World}{i j k m:Nat}(h:SX base A w0 w ob db i j)(hi:i≤k)(hj:j≤m):SX base A w0 w ob db k m:=by
 obtain ⟨tb,fb,fg,F,d,r,T,wv,root,tx,h1,h2,h3,h4⟩:=h.out;exact ⟨tb,fb,fg,F,d,r,T,wv,root,tx,by omega,by omega,h3,h4⟩
theorem oU{L:List Nat}{r:cT}(hL:L.Perm (eh r))(cM:eD r)(hn:(aD r).length≤400):3000≤(Q.gB (iu (Q.T0 4000) L) 4000).length:=by
 have h1:=LG L (Q.T0 4000) 4000;have h2:=BO 3998 (by decide)
 have h3:=hL.length_eq;have h4:=kn cM;rw [show (3998:Nat)+2=4000 from rfl] at h2
 omega
theorem SX.store{w:World}{i j:Nat}(h:SX base A w0 w ob db i j)(hi:i≤400∧j≤100000):Calls prog 26 #[.pointer (some ⟨ob,0,none⟩)] w fun e w'=>e = .returned (.bool true)∧SX base A w0 w' ob db i (j+1):=by
 obtain ⟨tb,fb,fg,F,d,r,T,wv,root,tx,h1,h2,h3,h4⟩:=h.out;have ue:=kn h4.ts.ok;refine (tK h4 (by omega) (by omega) (by omega)).mono fun e w' ⟨he,eZ⟩=>⟨he,?_⟩
 obtain ⟨X6,X5,F2,d2,L,E6,ho,_,_⟩:=eZ.out;have il:aD (laid T r)=aD r:=(wD h4.ts.ok).2;rw [← il] at ho;exact ⟨tb,X6,X5,F2,d2,_,_,wv,_,_,by rw [il];omega,by omega,oU E6 ho.ts.ok (by rw [il];omega),ho⟩
theorem SX.WV{w:World}{i j:Nat}(h:SX base A w0 w ob db i j)(hi:i≤400∧j≤100000):Calls prog 25 #[.pointer (some ⟨ob,0,none⟩)] w fun e w'=>e = .returned (.bool true)∧SX base A w0 w' ob db i (j+1):=by
 obtain ⟨tb,fb,fg,F,d,r,T,wv,root,tx,h1,h2,h3,h4⟩:=h.out;have ue:=kn h4.ts.ok;refine (G7 h4 (by omega) (by omega) (by omega)).mono fun e w' ⟨he,eZ⟩=>⟨he,?_⟩
 obtain ⟨qA,X6,X5,F2,d2,L,E6,ho,_⟩:=eZ.out;have il:aD (laid T r)=aD r:=(wD h4.ts.ok).2;rw [← il] at ho;exact ⟨qA,X6,X5,F2,d2,_,_,wv,_,_,by rw [il];omega,by omega,oU E6 ho.ts.ok (by rw [il];omega),ho⟩
theorem SX.asked{w:World}{i j:Nat}(kind at' n:Int)(key value iO:ByteArray)(h:SX base A w0 w ob db i j)(hi:i≤400∧j≤100000)(cZ:key.size≤140737488355328)(su:n≤9223372036854775807):Calls prog 61 #[.pointer (some ⟨ob,0,none⟩),.agg #[.int .i64 kind,.int .i64 at',.int .i64 n,.string key,.string value,.string iO]] w fun e w'=>e = .returned (.bool true)∧SX base A w0 w' ob db i j:=by
 obtain ⟨tb,fb,fg,F,d,r,T,wv,root,tx,h1,h2,h3,h4⟩:=h.out;have fin:∀ {w'},Os base A w0 w' ob db tb fb fg F d r T wv root tx (aD r)→SX base A w0 w' ob db i j:=fun h=>⟨tb,fb,fg,F,d,r,T,wv,root,tx,h1,h2,h3,h⟩
 by_cases k3:kind=3
 ·subst k3;exact (Nn at' n key value iO h4 (by omega) cZ).mono fun e w' ⟨he,ho,_⟩=>⟨he,fin ho⟩
 ·by_cases k4:kind=4
  ·subst k4;by_cases Qw:n<0
   ·exact (Nl at' n key value iO h4 (by omega) Qw).mono fun e w' ⟨he,ho,_⟩=>⟨he,fin ho⟩
   ·exact (FL at' n key value iO h4 (by omega) (by omega) su).mono fun e w' ⟨he,ho,_⟩=>⟨he,fin ho⟩
  ·by_cases k5:kind=5
   ·subst k5;exact (FN at' n key value iO h4 (by omega)).mono fun e w' ⟨he,ho,_⟩=>⟨he,fin ho⟩
   ·exact (FM kind at' n key value iO ⟨k3,k4,k5⟩ h4).mono fun e w' ⟨he,ho,_⟩=>⟨he,fin ho⟩
theorem SX.step{w:World}{i j:Nat}(kind at' n:Int)(key value iO:ByteArray)(h:SX base A w0 w ob db i j)(hi:i≤400∧j≤100000)(cZ:key.size≤140737488355328)(Cg:value.size≤140737488355328)(su:n≤9223372036854775807):Calls prog 24 #[.pointer (some ⟨ob,0,none⟩),.agg #[.int .i64 kind,.int .i64 at',.int .i64 n,.string key,.string value,.string iO]] w fun e w'=>e = .returned (.bool true)∧SX base A w0 w' ob db (i+1) (j+1):=by
 by_cases h12:kind=1∨kind=2
 ·obtain ⟨tb,fb,fg,F,d,r,T,wv,root,tx,h1,h2,h3,h4⟩:=h.out;refine (Pq kind at' n key value iO h12 h4 (by omega) cZ Cg).mono fun e w' ⟨he,r',vZ,hs,ho,_⟩=>⟨he,?_⟩
  have:=tD hs h4.ts.ok;exact ⟨tb,fb,fg,F,d,r',T,vZ,root,tx,by omega,by omega,h3,ho⟩
 ·have n1:(kind == 1)=false:=by rw [beq_eq_false_iff_ne];exact fun e=>h12 (.inl e)
  have n2:(kind == 2)=false:=by rw [beq_eq_false_iff_ne];exact fun e=>h12 (.inr e)
  have q0:=ai w (.cells #[.int .i64 kind,.int .i64 at',.int .i64 n,.string key,.string value,.string iO] 44);have x0:=B.au.new w #[.int .i64 kind,.int .i64 at',.int .i64 n,.string key,.string value,.string iO] 44;have k0:=x0.cell 0 (by simp)
  have k1:=x0.cell 1 (by simp)
  have k2:=x0.cell 2 (by simp)
  have k3:=x0.cell 3 (by simp)
  have k4:=x0.cell 4 (by simp)
  have k5:=x0.cell 5 (by simp)
  simp only [a8,List.getElem_cons_zero,List.getElem_cons_succ] at k0 k1 k2 k3 k4 k5;have hb:=h.below q0;have gy:=ab (hb.store hi);have HRE:=ab (hb.WV hi);have HAS:=ab (hb.asked kind at' n key value iO hi cZ su);clear h hb q0 x0 h12 cZ Cg;by_cases h10:kind=10
  ·subst h10;go_enter func24,ntmps24;go_wp2_with fail;refine gy.out.mono ?_
   rintro e w1 ⟨rfl,h1⟩;go_wp2;go_ret;exact ⟨rfl,h1.mono (by omega) (by omega)⟩
  ·by_cases h12:kind=12
   ·subst h12;go_enter func24,ntmps24;go_wp2_with fail;refine gy.out.mono ?_
    rintro e w1 ⟨rfl,h1⟩;go_wp2;go_ret;exact ⟨rfl,h1.mono (by omega) (by omega)⟩
   ·by_cases h13:kind=13
    ·subst h13;go_enter func24,ntmps24;go_wp2_with fail;refine HRE.out.mono ?_
     rintro e w1 ⟨rfl,h1⟩;go_wp2;go_ret;exact ⟨rfl,h1.mono (by omega) (by omega)⟩
    ·have n10:(kind == 10)=false:=by rw [beq_eq_false_iff_ne];exact h10
     have n12:(kind == 12)=false:=by rw [beq_eq_false_iff_ne];exact h12
     have n13:(kind == 13)=false:=by rw [beq_eq_false_iff_ne];exact h13
     clear h10 h12 h13;go_enter func24,ntmps24;go_wp2_with fail;refine HAS.out.mono ?_
     rintro e w1 ⟨rfl,h1⟩;go_wp2;go_ret;exact ⟨rfl,h1.mono (by omega) (by omega)⟩
end
variable {bd:Bool} {high:ByteArray} {lo hi:Option ByteArray} {low k:ByteArray} {α:Type} {P:α→Option ByteArray→Option ByteArray→Prop} {cs:List α} {ks:List ByteArray} {h n:Nat}
def Xd(lo:Option ByteArray)(ks:List ByteArray):Nat→Option ByteArray
 | 0=>lo
 | i+1=>ks[i]?
def QF(hi:Option ByteArray)(ks:List ByteArray)(i:Nat):Option ByteArray:=match ks[i]? with
 | some k=>some k
 | none=>hi
theorem G8{α:Type}{P:α→Option ByteArray→Option ByteArray→Prop}:∀ {lo hi:Option ByteArray} {ks:List ByteArray} {cs:List α},gi P lo hi ks cs→∀ (i:Nat) (c:α),cs[i]?=some c→P c (Xd lo ks i) (QF hi ks i)
 | _,_,[],[_],h,i,c,hc=>by
  cases i with
  | zero=>cases hc;exact h
  | succ i=>simp at hc
 | _,_,[],[],h,_,_,_=>by simp [gi] at h
 | _,_,[],_::_::_,h,_,_,_=>by simp [gi] at h
 | _,_,_::_,[],h,_,_,_=>by simp [gi] at h
 | _,_,_::_,_::_,h,i,c,hc=>by
  cases i with
  | zero=>cases hc;exact h.2.2.1
  | succ i =>
   have:=G8 h.2.2.2 i c hc;cases i with
   | zero=>exact this
   | succ i=>exact this
theorem AL{α:Type}{P:α→Option ByteArray→Option ByteArray→Prop}:∀ {lo hi:Option ByteArray} {ks:List ByteArray} {cs:List α},gi P lo hi ks cs→∀ k ∈ ks,ltB k hi
 | _,_,[],_,_,k,hk=>by simp at hk
 | _,_,_::_,[],h,_,_=>by simp [gi] at h
 | _,_,_::_,_::_,h,k,hk=>by
  rcases List.mem_cons.1 hk with rfl | hk
  ·exact h.1.2
  ·exact AL h.2.2.2 k hk
def BA(k low high:ByteArray)(bd:Bool):Bool:=!cR k low && (!bd || cR k high)
def S1(lo hi:Option ByteArray)(low high:ByteArray)(bd:Bool):Prop:=(∀ k,geB lo k→cR k low=false)∧∀ k,ltB k hi→bd=false∨cR k high=true
theorem S1.in(h:S1 lo hi low high bd)(hk:In lo hi k):BA k low high bd=true:=by
 unfold BA;rw [h.1 k hk.1];rcases h.2 k hk.2 with h | h <;> rw [h] <;> simp
theorem S1.key(h:S1 lo hi low high bd)(ho:gi P lo hi ks cs)(hk:k ∈ ks):BA k low high bd=true :=
 h.in ⟨fun l hl=>kT (tL ho k hk l hl),AL ho k hk⟩
def JQ(low:ByteArray)(ks:List ByteArray):Nat→ByteArray
 | 0=>low
 | i+1=>ks.getD i ⟨#[]⟩
theorem S1.qi(h:S1 lo hi low high bd)(i:Nat)(mc:i≤ks.length):S1 (Xd lo ks i) (QF hi ks i) (JQ low ks i) ((ks[i]?).getD high) (bd || decide (i<ks.length)):=by
 refine ⟨?_,?_⟩
 ·cases i with
  | zero=>exact h.1
  | succ i =>
   intro k hk;have:=hk (ks[i]'(by omega)) (af (by omega))
   show cR k (ks.getD i ⟨#[]⟩)=false
   rw [aF,af (by omega)]
   exact this
 ·intro k hk;by_cases hl:i<ks.length
  ·have e:=af hl;rw [e];exact .inr (hk _ (by unfold QF;rw [e];rfl))
  ·have e:=bu (by omega:ks.length≤i)
   rw [e,decide_eq_false hl,Bool.or_false];exact h.2 k (by unfold QF at hk;rw [e] at hk;exact hk)
theorem Bi{cs:List (Nd h)}(hl:2≤cs.length)(hc:∀ c ∈ cs,2 ^ n≤(flat h c).length):2 ^ (n+1)≤(cs.flatMap (flat h)).length:=by
 match cs,hl,hc with
 | a::b::cs,_,hc =>
  have h1:=hc a (by simp)
  have h2:=hc b (by simp)
  rw [List.flatMap_cons,List.flatMap_cons,ae,ae,Nat.pow_succ];omega
theorem JM(h:gi P lo hi ks cs){c:α}(hc:c ∈ cs):∃ l u,P c l u:=by
 obtain ⟨i,hi,rfl⟩:=aK hc;exact ⟨_,_,G8 h i _ (af hi)⟩
theorem D6:∀ (h:Nat) {t:Nd h} {lo hi:Option ByteArray},kG h t lo hi→2 ^ (h+1)≤(flat h t).length
 | 0,t,_,_,ho=>by
  have h1:1556≤fB t.2:=ho.2.1;show 2≤t.2.length
  have hm:∀ p ∈ t.2,cQ p=true:=fun p hp=>(ho.1.2 p hp).1
  generalize t.2=l at *;match l,h1,hm with
  | [],h1,_=>simp [lG] at h1
  | [p],h1,hm =>
   have:=dY (hm p (by simp))
   rw [mj,lG] at h1;unfold zG at h1;omega
  | _::_::_,_,_=>simp
 | h+1,t,lo,hi,ho=>by
  have hc:=(eS h t lo hi).1 ho.1;have hl:=iD hc;have h1:1777≤eI t.2.1:=ho.2.1;refine Bi (h:=h) (cs:=t.2.2) ?_ fun c hm=>?_
  ·cases hk:t.2.1 with
   | nil=>rw [hk] at h1;simp [eI] at h1
   | cons _ _=>rw [hk] at hl;simp at hl;omega
  ·obtain ⟨l,u,hp⟩:=JM hc hm;exact D6 h hp
theorem GQ{t:Nd h}(hr:eD (some ⟨h,t⟩))(hn:(flat h t).length≤500):h+1≤8:=by
 obtain ⟨ho,_,h1⟩:=hr;cases h with
 | zero=>omega
 | succ h =>
  have h1:t.2.1≠[]:=h1;have hc:=(eS h t none none).1 ho;have hl:=iD hc;have:=List.length_pos_iff.2 h1;have h2:2 ^ (h+2)≤(t.2.2.flatMap (flat h)).length:=Bi (h:=h) (cs:=t.2.2) (by omega) fun c hm=>by
   obtain ⟨l,u,hp⟩:=JM hc hm;exact D6 h hp
  have h3:2 ^ (h+2)≤500:=ar h2 hn;have h4:2 ^ (h+2)<2 ^ 9:=Nat.lt_of_le_of_lt h3 (by decide)
  have:=(Nat.pow_lt_pow_iff_right (by omega:1<2)).1 h4
  omega
theorem D1{id:Int}(h:(n:Int)=id)(h2:2≤id):cU n=[n]:=by unfold cU;rw [if_neg (by omega)]
variable {v:Value} {w:World} {base:Nat} {l:List Nat}
theorem FF(k lo hi:ByteArray)(b:Bool)(w:World):Calls prog 115 #[.string k,.string lo,.string hi,.bool b] w fun e w'=>e = .returned (.bool (BA k lo hi b))∧w=w':=by
 unfold BA;cases h1:cR k lo with
 | true =>
  have Gl:Op.bytesLess k.toList lo.toList=true:=h1;clear h1;go_enter func115,ntmps115;go_wp2;go_ret;exact ⟨rfl,rfl⟩
 | false =>
  have Gl:Op.bytesLess k.toList lo.toList=false:=h1;clear h1;cases b with
  | false =>
   go_enter func115,ntmps115;go_wp2;go_ret;exact ⟨rfl,rfl⟩
  | true =>
   cases h2:cR k hi with
   | true =>
    have Mr:Op.bytesLess k.toList hi.toList=true:=h2;clear h2;go_enter func115,ntmps115;go_wp2;go_ret;exact ⟨rfl,rfl⟩
   | false =>
    have Mr:Op.bytesLess k.toList hi.toList=false:=h2;clear h2;go_enter func115,ntmps115;go_wp2;go_ret;exact ⟨rfl,rfl⟩
def sZ(w:World)(base:Nat)(v:Value)(l:List Nat):Prop:=w.ownsRow base 3 1 v l.length (Q.gZ l)
theorem oE(l:List Nat):(Q.gZ l).length=l.length:=by unfold Q.gZ;rw [az]
theorem sZ.at{w:World}{base:Nat}{v:Value}{l:List Nat}(h:sZ w base v l):lF w v (Q.gZ l):=by
 rcases h.2 with ⟨rfl,h0⟩ | ⟨g,cap,cur,rfl,hb,hg,hn,sA,fI,lE⟩
 ·have:l=[]:=List.length_eq_zero_iff.1 h0;subst this;exact ⟨none,0,rfl,aj _,fun _=>rfl,fun j u hj=>by simp [Q.gZ] at hj⟩
 ·refine ⟨some ⟨g,0,none⟩,cap,by rw [oE],by rw [oE];exact hn,(fun e=>by cases e),fun j u hj=>⟨g,0,rfl,?_⟩⟩
  have:=World.ownsRow.cells h (g:=g) rfl j u hj;rw [bh] at this;exact this
theorem sZ.form(h:sZ w base v l):∃ a c,v = .slice a l.length c:=by
 obtain ⟨a,c,h,_⟩:=h.at;exact ⟨a,c,by rw [h,oE]⟩
theorem sZ.dx(h:sZ w base v l):∀ k,v.ownBlock=some k→base≤k∧k<w.heap.size:=World.ownsRow.lt h
theorem sZ.same{w':World}(h:sZ w base v l)(hb:∀ k,v.ownBlock=some k→w'.heap[k]?=w.heap[k]?):sZ w' base v l:=by
 refine ⟨h.1,?_⟩;rcases h.2 with h' | ⟨g,cap,cur,rfl,h1,h2,hr⟩
 ·exact .inl h'
 ·exact .inr ⟨g,cap,cur,rfl,h1,(hb g rfl).trans h2,hr⟩
theorem sZ.app(base:Nat)(v s:Value)(xs us:List Nat)(w:World)(h:sZ w base v xs)(hs:lF w s (Q.gZ us))(hb:xs.length+us.length≤1099511627776)(dd:base≤w.heap.size):∃ a' c' w',(Builtin.append_ #[69,69] 69 #[v,s]).run prog w = .ok (.slice a' (xs.length+us.length) c') w'∧sZ w' base (.slice a' (xs.length+us.length) c') (xs++us)∧w.grownBy w' v.ownBlock:=by
 obtain ⟨a',c',w',hr,ho,hg⟩:=jW 69 3 (.int .i64 0) 8 JZ underlying69 rfl base xs.length v (Q.gZ xs) w h s (Q.gZ us) hs (fun u hu=>by obtain ⟨n,_,rfl⟩:=List.mem_map.1 hu;rfl) (by rw [oE];omega) (by decide) dd
 rw [oE] at hr ho;exact ⟨a',c',w',hr,by show w'.ownsRow _ _ _ _ (xs++us).length _;rw [ae,Q.oF];exact ho,hg⟩
theorem AP(base:Nat)(A:Nat→Addr)(db:Nat)(F:Nat→Prop)(d:S.V.bE)(id:Int)(p:PD)(w:World)(hv:Dv base A db F d w)(hp:cF d id=some p):Calls prog 113 #[.pointer (some ⟨db,0,none⟩),.int .i64 id] w fun e w'=>∃ (s:S.Sh),e = .returned (.tuple #[.agg #[.int .i64 s.kind,.int .i64 s.id,.int .u64 (s.rD:Int),.int .i64 s.count,.string s.body],.nilIface])∧0≤s.count∧gj s p∧Dv base A db F d w'∧Mv db F w w':=by
 obtain ⟨d0,J4,hd⟩:=hv.dev;have QN:d0.dead=false:=by obtain ⟨n,rfl⟩:=J4;exact hv.alive
 have ru:cF d0=cF d:=by obtain ⟨n,rfl⟩:=J4;rfl
 obtain ⟨Y8,fI⟩:=uY d0 id QN;rw [← ru] at hp;obtain ⟨s0,tY,hh0⟩:=tI hp;refine (S.AQ base A db F d0 id w hd hv.env hv.up).mono ?_
 rintro e w1 ⟨rfl,zq,ja,kP⟩;rcases fI with ⟨hc,CP⟩ | ⟨_,fl⟩
 ·rw [hc];have hs:=pB CP tY;rw [hs];exact ⟨s0,rfl,tY.1.2.1.1,hh0,⟨⟨_,J4.trans Y8,zq⟩,hv.env.step ja hv.up,yG kP hd zq hv.errs,hv.up,hv.alive,hv.lo⟩,⟨ja,kP⟩⟩
 ·exact absurd tY (fl s0)
variable {l:List Pr} {v:Value} {w:World} {base:Nat} {w':World} {d:S.V.bE} {ob db:Nat} {F:Nat→Prop} {A:Nat→Addr} {b:Nat} {x y z u:Value}
theorem DQ(h:fJ w base v l)(hb:∀ k,v.ownBlock=some k→w'.heap[k]?=w.heap[k]?):fJ w' base v l:=by
 refine ⟨h.1,?_⟩;rcases h.2 with h' | ⟨g,cap,cur,rfl,h1,h2,hr⟩
 ·exact .inl h'
 ·exact .inr ⟨g,cap,cur,rfl,h1,(hb g rfl).trans h2,hr⟩
structure FR(base:Nat)(A:Nat→Addr)(db:Nat)(F:Nat→Prop)(d:S.V.bE)(ob:Nat)(w:World):Prop where
 dv:Dv base A db F d w
 o:w.cell? ⟨ob,1,none⟩=some (.pointer (some ⟨db,0,none⟩))
 ne:ob≠db
 lt:db<w.heap.size
theorem FR.mv(h:FR base A db F d ob w)(hv:Dv base A db F d w')(hm:Mv db F w w'):FR base A db F d ob w' :=
 ⟨hv,bP (hm.one.block ob (World.block_lt_of_cell? w _ h.o) h.ne) h.o,h.ne,aq h.lt hm.size⟩
theorem FR.below{base:Nat}{A:Nat→Addr}{db:Nat}{F:Nat→Prop}{d:S.V.bE}{ob:Nat}{w w':World}(h:FR base A db F d ob w)(hb:Below w.heap.size w w'):FR base A db F d ob w':=h.mv (h.dv.below hb) (Mv.of hb)
def RZ(base:Nat)(A:Nat→Addr)(db:Nat)(F:Nat→Prop)(d:S.V.bE)(w:World)(h:Nat)(t:Nd h)(e:Ending)(w':World):Prop :=
 ∃ pv qv,e = .returned (.agg #[pv,qv,.int .i64 ((h+1:Nat):Int),.bool true])∧sZ w' w.heap.size pv (cD h t)∧fJ w' w.heap.size qv (flat h t)∧Dv base A db F d w'∧Mv db F w w'
theorem B6(h:Mv db F w w'){k:Nat}(hk:k<w.heap.size)(cY:k≠db):w'.heap[k]?=w.heap[k]?:=h.one.block k hk cY
theorem fJ.mvO(h:fJ w base v l)(hm:Mv db F w w')(hb:db<base):fJ w' base v l:=DQ h fun k hk=>B6 hm (h.dx k hk).2 (by have:=(h.dx k hk).1;omega)
theorem sZ.mvO{l:List Nat}(h:sZ w base v l)(hm:Mv db F w w')(hb:db<base):sZ w' base v l:=h.same fun k hk=>B6 hm (h.dx k hk).2 (by have:=(h.dx k hk).1;omega)
theorem sZ.mono{b2:Nat}{l:List Nat}(h:sZ w b v l)(hb:b2≤b):sZ w b2 v l:=by
 refine ⟨h.1,?_⟩;rcases h.2 with h' | ⟨g,cap,cur,h',h1,hr⟩
 ·exact .inl h'
 ·exact .inr ⟨g,cap,cur,h',ar hb h1,hr⟩
theorem DD{t:TypeId}(h:B.au w b #[x,y,z,u] t)(x' y' z' u':Value):B.au ((((w.setCell ⟨b,0,none⟩ x').setCell ⟨b,1,none⟩ y').setCell ⟨b,2,none⟩ z').setCell ⟨b,3,none⟩ u') b #[x',y',z',u'] t:=by
 unfold B.au;rw [heap_setCell_same _ b 3 _ t _ (heap_setCell_same _ b 2 _ t _ (heap_setCell_same _ b 1 _ t _ (heap_setCell_same w b 0 _ t _ h)))];rfl
theorem yS{B:Nat}{w0:World}(h:Below B w0 w)(hb:B≤b):Below B w0 ((((w.setCell ⟨b,0,none⟩ x).setCell ⟨b,1,none⟩ y).setCell ⟨b,2,none⟩ z).setCell ⟨b,3,none⟩ u):=(((h.setCell hb _).setCell hb _).setCell hb _).setCell hb _
theorem JS(w:World)(n:Nat):sZ (w.alloc (.cells #[.int .i64 (n:Int)] 3)) w.heap.size (.slice (some ⟨w.heap.size,0,none⟩) 1 1) [n] :=
 ⟨rfl,.inr ⟨w.heap.size,1,#[.int .i64 (n:Int)],rfl,aj _,heap_alloc_new w _,aj _,by decide,rfl,rfl⟩⟩
theorem Rv{l:List Pr}{root:Bool}(hr:gK l)(hm:∀ p ∈ l,cQ p=true)(hs:fB l≤4072)(h1:l≠[])(hf:root=false→1556≤fB l):wL l root=none:=by
 unfold wL;rw [if_neg (by rw [List.all_eq_true.2 hm];decide),if_neg (by simpa using hr),if_neg (by omega),if_neg]
 rintro (h | ⟨h2,h3⟩)
 ·exact h1 h
 ·have:=hf h2;omega
theorem LJ(t:Nd 0)(id:Int)(lo hi:Option ByteArray)(low high:ByteArray)(bd root:Bool)(deep:Nat)(w:World)(h:FR base A db F d ob w)(hp:fu (cF d) 0 id t)(ho:Ok 0 t lo hi)(b8:mQ 0 t≤4072)(ja:qf 0 t)(hf:root=false→Full 0 t)(hb:S1 lo hi low high bd)(Gh:deep≤9):Calls prog 75 #[.pointer (some ⟨ob,0,none⟩),.int .i64 id,.string low,.string high,.bool bd,.bool root,.int .i64 (deep:Int)] w (RZ base A db F d w 0 t):=by
 obtain ⟨hid,ru,hPG⟩:=hp;obtain ⟨P0,l⟩:=t;have kV:wL l root=none:=Rv ho.1 (fun p hp=>(ho.2 p hp).1) b8 ja (fun e=>(hf e).1)
 have Ie:∀ p ∈ l,BA p.1 low high bd=true:=fun p hp=>hb.in (ho.2 p hp).2
 have Qu:SQ l:=fun p hp=>by have:=dY (ho.2 p hp).1;omega
 have Ba:l.length≤4000:=by have:=gT l;have:fB l≤4072:=b8;omega
 have yt:cD 0 ((P0,l):Nd 0)=[P0]:=D1 ru hid.1;obtain ⟨W0,sW⟩ : ∃ W0,w.alloc (.cells #[.slice none 0 0,.slice none 0 0,.int .i64 0,.bool false] 134)=W0:=⟨_,rfl⟩;have q0:=ai w (.cells #[.slice none 0 0,.slice none 0 0,.int .i64 0,.bool false] 134);have x0:=B.au.new w #[.slice none 0 0,.slice none 0 0,.int .i64 0,.bool false] 134;rw [sW] at q0 x0;have h0:=h.below q0;have c1:(w.alloc (.cells #[.slice none 0 0,.slice none 0 0,.int .i64 0,.bool false] 134)).cell? ⟨ob,1,none⟩=some (.pointer (some ⟨db,0,none⟩)):=by rw [sW];exact h0.o
 have hL:=AP base A db F d id (.leaf l) W0 h0.dv hPG;have Ur:¬ (9:Int)<(deep:Int):=by omega
 obtain ⟨RB,hRB⟩ : ∃ RB,RB=w.heap.size:=⟨_,rfl⟩;have HX:=ab x0;have HL:=ab hL;have Vi:=ab q0;have Ve:=ab sW;have HH:=ab h;have HN:=ab h0;have nM:=ab kV;have YG:=ab Ie;have od:=ab Qu;have kR:=ab Ba;have Yo:=ab yt;have HID:=ab ru;have uL:=ab hRB;clear h h0 q0 x0 hL kV Ie Qu Ba yt ru hPG ho b8 ja hf hb Gh sW;go_enter func75,ntmps75;go_wp2_with fail;rw [Ve.out];refine HL.out.mono ?_
 rintro e w1 ⟨⟨kd,zK,tx,cn,bo⟩,rfl,qQ,hh,fD,fo⟩;simp only at qQ hh ⊢;obtain ⟨hk,pY,hl⟩ : kd=76∧lV cn.toNat bo.data.toList∧l=Ab cn.toNat bo.data.toList:=by
  rcases hh with ⟨h1,h2,h3⟩ | ⟨_,_,h3⟩
  ·exact ⟨h1,h2,by simpa using h3⟩
  ·cases h3
 subst hk;obtain ⟨W2,Ip⟩ : ∃ W2,w1.alloc (.cells #[.int .i64 76,.int .i64 zK,.int .u64 (tx:Int),.int .i64 cn,.string bo] 87)=W2:=⟨_,rfl⟩;have q2:=ai w1 (.cells #[.int .i64 76,.int .i64 zK,.int .u64 (tx:Int),.int .i64 cn,.string bo] 87);have x2:=B.au.new w1 #[.int .i64 76,.int .i64 zK,.int .u64 (tx:Int),.int .i64 cn,.string bo] 87;have k0:=x2.cell 0 (by simp)
 have k3:=x2.cell 3 (by simp)
 have k4:=x2.cell 4 (by simp)
 simp only [a8,List.getElem_cons_zero,List.getElem_cons_succ] at k0 k3 k4;have jD:Mv db F w (w1.alloc (.cells #[.int .i64 76,.int .i64 zK,.int .u64 (tx:Int),.int .i64 cn,.string bo] 87)):=((Mv.of Vi.out).trans fo).trans (Mv.of q2);have nC:Hid (Calls prog 114 #[.int .i64 cn,.string bo] (w1.alloc (.cells #[.int .i64 76,.int .i64 zK,.int .u64 (tx:Int),.int .i64 cn,.string bo] 87)) fun e w'=>∃ (ua:Option Addr) (uc:Nat),e = .returned (.tuple #[.slice ua l.length uc,.nilIface])∧fJ w' W0.heap.size (.slice ua l.length uc) l∧FR base A db F d ob w'∧Mv db F w w'∧B.au w' RB #[.slice none 0 0,.slice none 0 0,.int .i64 0,.bool false] 134):=by
  have je:=fD.below q2;refine (yh A cn bo _ je.uq).mono fun e w' ⟨hv,hb⟩=>?_
  rcases hv with ⟨_,_,u,he,ho⟩ | ⟨fl,_⟩
  ·rw [← hl] at ho;obtain ⟨ua,uc,hu⟩:=ho.form;subst hu;have lX:=jD.trans (Mv.of hb);refine ⟨ua,uc,he,ho.mono (fo.trans (Mv.of q2)).size,HH.out.mv (je.below hb) lX,lX,?_⟩;rw [uL.out];have EX:=(fo.trans (Mv.of q2)).trans (Mv.of hb);exact tF EX HX.out (by have:=HH.out.lt;omega)
  ·exact absurd ⟨qQ,pY⟩ fl
 have Oa:=ab fo;clear fo jD fD hh qQ pY hl q2 x2 HL c1 Ip;go_wp2_with fail;refine nC.out.mono ?_
 rintro e w3 ⟨ua,uc,rfl,ho,Mf,lX,nF⟩;have wT:=ab (nj A (.slice ua l.length uc) l root w3 od.out (by have:=kR.out;omega) ho.at Mf.dv.uq)
 rw [nM.out] at wT;have WE:Hid (Calls prog 79 #[.slice ua l.length uc,.bool root] w3 fun e w'=>e = .returned .nilIface∧fJ w' W0.heap.size (.slice ua l.length uc) l∧FR base A db F d ob w'∧Mv db F w w'∧B.au w' RB #[.slice none 0 0,.slice none 0 0,.int .i64 0,.bool false] 134) :=
  wT.out.mono fun e w' ⟨he,hb⟩=>⟨he,ho.below hb,Mf.below hb,lX.trans (Mv.of hb),nF.below hb⟩
 obtain ⟨N,hN⟩ : ∃ N,N=l.length:=⟨_,rfl⟩;rw [← hN] at WE ⊢;have BH:=ab hN;have hNb:N≤4000:=by have:=kR.out;omega
 clear wT ho Mf lX nF hN nC k0 k3 k4;go_wp2_with fail;refine WE.out.mono ?_
 rintro e w4 ⟨rfl,Cj,VZ,EX,EK⟩;have FY:=ab Cj;have HK4:=ab VZ;have Wt:=ab EX;have Zw:=ab EK;have HCE:Hid (∀ i (h:i<l.length),∃ g o,ua=some ⟨g,o,none⟩∧w4.cell? ⟨g,o+i*2,none⟩=some (.string l[i].1)):=fun i h=>by
  obtain ⟨a,c,hv,_,_,hc⟩:=Cj.at;simp only [Value.slice.injEq] at hv;obtain ⟨rfl,-,-⟩:=hv;obtain ⟨g,o,ha,h1,_⟩:=hc i h;exact ⟨g,o,ha,h1⟩
 clear Cj VZ EX EK WE;go_wp2;go_loopw [19,20] (fun okv iv wr=>∃ i:Nat,okv = .bool true∧iv = .int .i64 (i:Int)∧i≤N∧wr=w4) (fun _ iv _=>N - (intOf iv).toNat)
 case atStart=>exact ⟨0,rfl,rfl,aB _,rfl⟩
 case round =>
  obtain ⟨i,rfl,rfl,hi,rfl⟩:=hrel;by_cases bO:i<N
  ·have Bb:i<l.length:=by have:=BH.out;omega
   have dE:(i:Int)<(N:Int):=by omega
   have e0:(0:Int)≤(i:Int):=by omega
   obtain ⟨g,o,rfl,c1⟩:=HCE.out i Bb;have HBT:=ab (FF l[i].1 low high bd wr);rw [YG.out _ (aJ Bb)] at HBT;generalize l[i].1=key at *;clear HCE;go_wp2_with fail;refine HBT.out.mono ?_
   rintro e w5 ⟨rfl,rfl⟩;go_wp2;go_roundw
   case rel=>exact ⟨i+1,rfl,by go_num,by omega,by first | trivial | rfl⟩
   case measure=>simp [intOf];omega
  ·have dE:¬ (i:Int)<(N:Int):=by omega
   have ql:=ai wr (.cells #[.int .i64 id] 3);have J3:=Zw.out.below ql;rw [uL.out] at J3;have s0:=J3.cell 0 (by simp)
   have s1:=J3.cell 1 (by simp)
   have s2:=J3.cell 2 (by simp)
   have s3:=J3.cell 3 (by simp)
   simp only [a8,List.getElem_cons_zero,List.getElem_cons_succ] at s0 s1 s2 s3;have z0:=J3.free 0;have z1:=J3.free 1;have z2:=J3.free 2;have z3:=J3.free 3;have Wo:=ab J3;have Sf:=ab ql;clear HCE J3 ql;go_wp2;have Xr:W0.heap.size=w.heap.size+1:=by rw [← Ve.out];simp
   have tV:=Wt.out.size;have hR:=DD Wo.out (.slice (some ⟨wr.heap.size,0,none⟩) 1 1) (.slice ua N uc) (.int .i64 1) (.bool true);have hBl:Below w.heap.size wr _:=yS (b:=w.heap.size) (x:=.slice (some ⟨wr.heap.size,0,none⟩) 1 1) (y:=.slice ua N uc) (z:=.int .i64 1) (u:=.bool true) (Sf.out.mono tV) (aj _);have EO:∀ k,k≠w.heap.size→∀ (W:World) (x y z u:Value),((((W.setCell ⟨w.heap.size,0,none⟩ x).setCell ⟨w.heap.size,1,none⟩ y).setCell ⟨w.heap.size,2,none⟩ z).setCell ⟨w.heap.size,3,none⟩ u).heap[k]?=W.heap[k]?:=fun k hk W x y z u=>by
    rw [heap_setCell_other _ _ k _ hk,heap_setCell_other _ _ k _ hk,heap_setCell_other _ _ k _ hk,heap_setCell_other _ _ k _ hk]
   obtain ⟨hv9,hm9⟩:=HK4.out.dv.grown hBl Wt.out HH.out.dv;have EY:=JS wr P0;rw [HID.out] at EY;have nP:W0.heap.size≤wr.heap.size:=by have:=Zw.out.lt;have:=uL.out;omega
   refine bodyPost_ret (results_cell_row rfl _ _ w.heap.size 134 _ (0,0) _ rfl hR underlying134 rfl (by kernel_rfl)) rfl ⟨_,_,rfl,?_,?_,hv9,hm9⟩
   ·rw [Yo.out];exact (EY.mono tV).same fun k hk=>EO k (by cases hk;show wr.heap.size≠_;omega) _ _ _ _ _
   ·have ho9:=(FY.out.below Sf.out);refine (DQ (ho9.mono (b2:=w.heap.size) (by omega)) fun k hk=>EO k (by have:=(ho9.dx k hk).1;omega) _ _ _ _ _)
end T
end Go.Proofs.YtihmgigfkmofnaaGreatDoor
