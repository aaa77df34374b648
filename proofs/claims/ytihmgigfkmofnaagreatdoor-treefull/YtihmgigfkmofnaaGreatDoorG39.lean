import Derived.Test.YtihmgigfkmofnaaGreatDoorG38
import Derived.Deep.CutRange
set_option maxHeartbeats 16000000
set_option maxRecDepth 100000
open Go.Proofs.Tryz
namespace Go.Proofs.YtihmgigfkmofnaaGreatDoor
namespace T
open Go.RowKit
section
variable {base:Nat} {A:Nat→Addr} {w0:World} {ob db tb fb fg:Nat} {F:Nat→Prop} {d:S.V.bw} {r:cC} {T:Nat→Bool} {wv:Value} {root tx:Nat} {l:List Pr}
theorem Fh{w:World}(at' n:Int)(key value iN:ByteArray)(h:Os base A w0 w ob db tb fb fg F d r T wv root tx (aD r))(hn:(aD r).length≤1000000):Calls prog 61 #[.pointer (some ⟨ob,0,none⟩),.agg #[.int .i64 5,.int .i64 at',.int .i64 n,.string key,.string value,.string iN]] w fun e w'=>e = .returned (.bool true)∧Os base A w0 w' ob db tb fb fg F d r T wv root tx (aD r)∧Fr db tb ob w w':=by
 obtain ⟨row,bE⟩ : ∃ row:Array Value,row=#[.int .i64 5,.int .i64 at',.int .i64 n,.string key,.string value,.string iN]:=⟨_,rfl⟩;have h1:=h.box row;have zR:=ab (dC (db:=db) (tb:=tb) (ob:=ob) (ai w (.cells row 44)));rw [bE] at h1 zR;obtain ⟨W1,gL⟩ : ∃ W1,w.alloc (.cells #[.int .i64 5,.int .i64 at',.int .i64 n,.string key,.string value,.string iN] 44)=W1:=⟨_,rfl⟩;obtain ⟨XB,qE⟩ : ∃ XB,XB=w.heap.size:=⟨_,rfl⟩;rw [gL,← qE] at h1;rw [gL] at zR;rw [← bE] at h1;have HC:Hid (∀ W,zT base A w0 W ob db tb fb fg F d r T wv root tx (aD r) XB row→W.cell? ⟨ob,3,none⟩=some (.pointer (some ⟨tb,0,none⟩))∧W.cell? ⟨ob,4,none⟩=some wv∧W.cell? ⟨XB,0,none⟩=some (.int .i64 5)∧W.cell? ⟨XB,2,none⟩=some (.int .i64 n)∧W.cell? ⟨XB,3,none⟩=some (.string key)∧W.cell? ⟨XB,5,none⟩=some (.string iN)):=fun W hb=>by
  have hx:=hb.bx;rw [bE] at hx;refine ⟨hb.os.c.1,hb.os.c.2.1,?_,?_,?_,?_⟩
  ·have:=hx.cell 0 (by simp)
   simpa using this
  ·have:=hx.cell 2 (by simp)
   simpa using this
  ·have:=hx.cell 3 (by simp)
   simpa using this
  ·have:=hx.cell 5 (by simp)
   simpa using this
 obtain ⟨L,hL⟩ : ∃ L,L=sg (aD r) key:=⟨_,rfl⟩;obtain ⟨s1,ke⟩ : ∃ s1,s1=(iy L).1:=⟨_,rfl⟩;obtain ⟨s2,jv⟩ : ∃ s2,s2=(iy L).2:=⟨_,rfl⟩;obtain ⟨bb,BV⟩ : ∃ bb,bb=!L.isEmpty:=⟨_,rfl⟩;have Qh:∀ k,F k→k<W1.heap.size:=fun k hk=>by
  obtain ⟨d',_,hd⟩:=h1.os.ts.dv.dev;exact hd.lt _ hk
 have X5:=h1.os.new (aj W1.heap.size);have UD:Hid (∀ W,Below W1.heap.size W1 W→Calls prog 18 #[.pointer (some ⟨tb,0,none⟩),.string key] W fun e w'=>e = .returned (.tuple #[.agg #[.string s1,.string s2],.bool bb,.nilIface])∧Dv base A db F d w'∧Mv db F W w'):=fun W hW=>by
  have hb:=h1.below hW;rw [ke,jv,BV,hL];exact (E9 key hb.os.ts (by omega))
 have HE1:Hid (∀ w2,Dv base A db F d w2→Mv db F (W1.alloc (.cells #[.string ⟨#[]⟩,.string ⟨#[]⟩] 52)).drew w2→B.au w2 W1.heap.size #[.string ⟨#[]⟩,.string ⟨#[]⟩] 52∧zT base A w0 w2 ob db tb fb fg F d r T wv root tx (aD r) XB row∧zT base A w0 ((w2.setCell ⟨W1.heap.size,0,none⟩ (.string s1)).setCell ⟨W1.heap.size,1,none⟩ (.string s2)) ob db tb fb fg F d r T wv root tx (aD r) XB row∧Fr db tb ob W1 ((w2.setCell ⟨W1.heap.size,0,none⟩ (.string s1)).setCell ⟨W1.heap.size,1,none⟩ (.string s2))∧B.au ((w2.setCell ⟨W1.heap.size,0,none⟩ (.string s1)).setCell ⟨W1.heap.size,1,none⟩ (.string s2)) W1.heap.size #[.string s1,.string s2] 52):=fun w2 hv hm=>by
  have aM:Below W1.heap.size W1 (W1.alloc (.cells #[.string ⟨#[]⟩,.string ⟨#[]⟩] 52)).drew:=B.aK (ai W1 _);have fs:Mv db F W1 w2:=(Mv.of aM).trans hm;have xp:B.au w2 W1.heap.size #[.string ⟨#[]⟩,.string ⟨#[]⟩] 52:=(hm.step.block W1.heap.size (by simp [World.drew]) X5.1).trans (B.au.new W1 #[.string ⟨#[]⟩,.string ⟨#[]⟩] 52)
  obtain ⟨yV,sA⟩:=E7 h1.os.env.size (aj _) Qh fs hv (.string s1) (.string s2);exact ⟨xp,h1.fr (h1.os.mv hv fs) (rW fs),h1.fr (h1.os.mv yV sA) (rW sA),rW sA,xp.two _ _⟩
 have VK:Hid (∀ w1 w2,Below W1.heap.size W1 w1→Dv base A db F d w2→Mv db F w1 w2→zT base A w0 w2 ob db tb fb fg F d r T wv root tx (aD r) XB row∧zT base A w0 (w2.alloc (.cells #[.string s1,.string s2] 52)) ob db tb fb fg F d r T wv root tx (aD r) XB row∧Fr db tb ob W1 (w2.alloc (.cells #[.string s1,.string s2] 52))∧B.au (w2.alloc (.cells #[.string s1,.string s2] 52)) w2.heap.size #[.string s1,.string s2] 52):=fun w1 w2 aM hv hm=>by
  have fs:Mv db F W1 w2:=(Mv.of aM).trans hm;have ny:=h1.fr (h1.os.mv hv fs) (rW fs);have hba:=ai w2 (.cells #[.string s1,.string s2] 52);exact ⟨ny,ny.below hba,(rW fs).trans (dC hba),B.au.new w2 _ _⟩
 clear Qh X5;have yP:Hid (∀ W,zT base A w0 W ob db tb fb fg F d r T wv root tx (aD r) XB row→∀ W2,Below W.heap.size W W2→Calls prog 28 #[wv,.string key] W2 fun e w'=>e = .returned (.tuple #[.int .i64 (aP (aD r) key:Int),.bool (bg (aD r) key)])∧Below W.heap.size W w'):=fun W hb W2 hW=>(mn wv (aD r) key W2 (by omega) (hb.below hW).os.want.at).mono fun e w' ⟨he,k,hk⟩=>⟨he,by rw [hk];exact Below.next hW (aA (Below.refl _ _) k)⟩
 obtain ⟨q3,q4,x0,x2,x3,x5⟩:=HC.out W1 h1;obtain ⟨wa,wn,wc,Jj⟩:=gr h.want;have HN:=ab hn;have Fp:Hid (wn=(aD r).length):=by
  obtain ⟨a,c,e2⟩:=h.want.form;rw [Jj] at e2;cases e2;rfl
 subst Jj;have we:=ab gL;have Rg:=ab qE;have lW:=ab hL;have mh:=ab ke;have lD:=ab jv;have lI:=ab BV;clear h h1 hn bE gL hL ke jv BV;by_cases hk:key=⟨#[]⟩
 focus
  have Lo:=IA hk;by_cases h0:wn=0
  focus
   have M0:aD r=[]:=List.length_eq_zero_iff.1 (by have:=Fp.out;omega)
   have JO:Hid (s1=⟨#[]⟩∧s2=⟨#[]⟩∧bb=false):=by
    have M9:L=[]:=by rw [lW.out];unfold sg;rw [if_pos hk];exact M0
    rw [mh.out,lD.out,lI.out,M9];exact ⟨rfl,rfl,rfl⟩
   have hz:((wn:Int) == 0)=true:=by rw [beq_iff_eq];omega
   clear hk M0 h0
  rotate_left;focus
   obtain ⟨J,hJ⟩ : ∃ J,wn=J+1:=⟨wn - 1,by omega⟩
   have HJ:Hid (J<(aD r).length∧J+1=wn):=⟨by have:=Fp.out;omega,hJ.symm⟩
   have JO:Hid (s1=((aD r)[J]'HJ.out.1).1∧s2=((aD r)[J]'HJ.out.1).2∧bb=true):=by
    have M9:L=(aD r).take (J+1):=by rw [lW.out];unfold sg;rw [if_pos hk,al (by have:=HJ.out.2;have:=Fp.out;omega)]
    have Cr:iy L=(aD r)[J]'HJ.out.1:=by
     rw [M9,pq (j:=J) (by rw [ag];have:=HJ.out.1;omega),bF]
    rw [mh.out,lD.out,lI.out,Cr];refine ⟨rfl,rfl,?_⟩;rw [M9];cases hx:(aD r).take (J+1) with
    | nil =>
     have:=congrArg List.length hx;rw [ag,List.length_nil] at this;have:=HJ.out.1;omega
    | cons _ _=>rfl
   have rR:IntKind.i64.wrap ((wn:Int) - 1)=(J:Int):=by rw [IntKind.wrap_i64];have:=Fp.out;have:=HN.out;omega
   have hz:((wn:Int) == 0)=false:=by rw [beq_eq_false_iff_ne];omega
   clear hk h0 hJ
 rotate_left 2
 focus
  obtain ⟨Lo,aiD⟩:=CP hk;have aai:=cD (aD r) key;by_cases h0:aP (aD r) key=0
  focus
   have JO:Hid (s1=⟨#[]⟩∧s2=⟨#[]⟩∧bb=false):=by
    have M9:L=[]:=by rw [lW.out];unfold sg;rw [if_neg hk,h0];rfl
    rw [mh.out,lD.out,lI.out,M9];exact ⟨rfl,rfl,rfl⟩
   rw [h0] at yP;clear hk h0 aai
  rotate_left;focus
   obtain ⟨J,hJ⟩ : ∃ J,aP (aD r) key=J+1:=⟨aP (aD r) key - 1,by omega⟩
   have HJ:Hid (J<(aD r).length∧J+1=aP (aD r) key):=⟨by omega,hJ.symm⟩
   have JO:Hid (s1=((aD r)[J]'HJ.out.1).1∧s2=((aD r)[J]'HJ.out.1).2∧bb=true):=by
    have M9:L=(aD r).take (J+1):=by rw [lW.out];unfold sg;rw [if_neg hk,HJ.out.2]
    have Cr:iy L=(aD r)[J]'HJ.out.1:=by
     rw [M9,pq (j:=J) (by rw [ag];have:=HJ.out.1;omega),bF]
    rw [mh.out,lD.out,lI.out,Cr];refine ⟨rfl,rfl,?_⟩;rw [M9];cases hx:(aD r).take (J+1) with
    | nil =>
     have:=congrArg List.length hx;rw [ag,List.length_nil] at this;have:=HJ.out.1;omega
    | cons _ _=>rfl
   have rR:IntKind.i64.wrap (((J+1:Nat):Int) - 1)=(J:Int):=by rw [IntKind.wrap_i64];have:=HJ.out.1;have:=HN.out;omega
   have hz:(((J+1:Nat):Int) == 0)=false:=by rw [beq_eq_false_iff_ne];omega
   simp only [hJ] at yP;clear hk h0 hJ aai
 all_goals
  go_enter func61,ntmps61;go_wp2_with fail;rw [we.out,← qE];clear qE;go_wp2_with fail;go_region_held3 (fun w'=>w'.cell? ⟨ob,3,none⟩=some (.pointer (some ⟨tb,0,none⟩))∧w'.cell? ⟨XB,3,none⟩=some (.string key)) (go_keep)
   (first | (go_at_call 18;refine (UD.out _ ?_).mono ?_;exact B.aK (ai _ _);rintro e w2 ⟨rfl,kD,kO⟩;obtain ⟨xp,aS,bQ,hf3,ve⟩:=HE1.out w2 kD kO;have z0:=xp.c0;have z1:=xp.c1;have y0:=xp.free 0;have y1:=xp.free 1;have aft:Hid (w2=w2):=rfl;have eG:=ab bQ;have Yu:=ab hf3;have yX:=ab ve;obtain ⟨n3,n4,m0,m2,m3,m5⟩:=HC.out w2 aS;obtain ⟨g3,g4,-,-,gx3,-⟩:=HC.out _ bQ;have c0:=ve.c0;have c1:=ve.c1;clear aS bQ hf3 ve xp kD kO) | (go_at_call 18;refine (UD.out _ ?_).mono ?_;(first | exact (Below.refl _ _).drew | exact aA (Below.refl _ _) _ | exact Below.refl _ _);rintro e w2 ⟨rfl,kD,kO⟩;obtain ⟨aS,bQ,hf3,ve⟩:=VK.out _ w2 (by first | exact (Below.refl _ _).drew | exact aA (Below.refl _ _) _ | exact Below.refl _ _) kD kO;have afs:Hid (w2=w2):=rfl;have eG:=ab bQ;have Yu:=ab hf3;have yX:=ab ve;obtain ⟨n3,n4,m0,m2,m3,m5⟩:=HC.out w2 aS;obtain ⟨g3,g4,-,-,gx3,-⟩:=HC.out _ bQ;have c0:=ve.c0;have c1:=ve.c1;clear aS bQ hf3 ve kD kO))
  all_goals
   clear q3 q4 x0 x2 x3 x5 UD HE1 VK n3 n4 m0 m2 m3 m5
   (try clear z0 z1 y0 y1)
   go_wp2_with fail
   first
   | (clear afs
      generalize M6:w2.alloc (.cells #[.string s1,.string s2] 52)=w3 at *;generalize hPB:w2.heap.size=PB at *)
   | (clear aft
      generalize M6:(w2.setCell ⟨W1.heap.size,0,none⟩ (.string s1)).setCell ⟨W1.heap.size,1,none⟩ (.string s2)=w3 at *;generalize hPB:W1.heap.size=PB at *)
   clear M6 hPB;have pS:=ab (yP.out w3 eG.out);have aa1:Hid (∀ W,Below w3.heap.size w3 W→B.au W PB #[.string s1,.string s2] 52):=fun W hW=>yX.out.below hW
   clear yP;go_region_held3 (fun w'=>w'.cell? ⟨ob,4,none⟩=some (.slice wa wn wc)∧w'.cell? ⟨XB,3,none⟩=some (.string key)∧w'.cell? ⟨PB,0,none⟩=some (.string s1)∧w'.cell? ⟨PB,1,none⟩=some (.string s2)) (go_keep)
    (first | (go_at_call 28;refine (pS.out _ ?_).mono ?_;(first | exact (Below.refl _ _).drew | exact aA (Below.refl _ _) _ | exact Below.refl _ _);rintro e w4 ⟨rfl,fW⟩;have iY:=ab (eG.out.below fW);have HF4:=ab (Yu.out.trans (dC fW));obtain ⟨i3,i4,-,-,i5,-⟩:=HC.out w4 iY.out;have j0:=(aa1.out w4 fW).c0;have j1:=(aa1.out w4 fW).c1;clear fW))
   all_goals
    clear g3 g4 gx3 c0 c1 pS i3;have ch:Hid (∀ k,Os base A w0 (w4.drewN k) ob db tb fb fg F d r T (.slice wa wn wc) root tx (aD r)∧Fr db tb ob w (w4.drewN k)):=fun k=>⟨(iY.out.below (aA (Below.refl _ _) k)).os,zR.out.trans (HF4.out.trans (dC (aA (Below.refl _ _) k)))⟩
    obtain ⟨_,_,Y6,_,_,bm⟩:=iY.out.os.want.at;simp only [Value.slice.injEq] at Y6;obtain ⟨rfl,-,rfl⟩:=Y6
    first
    | (obtain ⟨g,o,zD,e0,e1⟩:=bm J HJ.out.1
       subst zD;rw [← JO.out.1] at e0;rw [← JO.out.2.1] at e1;have hbf:=JO.out.2.2;subst hbf;have f0:(0:Int)≤(J:Int):=by omega
       have f1:(J:Int)<(wn:Int):=by have:=HJ.out.1;have:=Fp.out;omega
       have f2:(wn:Int)≤1000000:=by have:=HN.out;have:=Fp.out;omega
       clear bm)
    | (rw [JO.out.1] at j0;rw [JO.out.2.1] at j1;have hbf:=JO.out.2.2;subst hbf;clear bm)
    go_wp2
    (try go_quiet (fail))
    (try go_wp2)
    go_ret
    first | exact ⟨rfl,ch.out _⟩ | exact ⟨rfl,iY.out.os,zR.out.trans HF4.out⟩
end
structure SX(base:Nat)(A:Nat→Addr)(w0 w:World)(ob db i j:Nat):Prop where
 out:∃ (tb fb fg:Nat) (F:Nat→Prop) (d:S.V.bw) (r:cC) (T:Nat→Bool) (wv:Value) (root tx:Nat),(aD r).length≤i∧tx≤j∧3000≤(Q.dU T 4000).length∧Os base A w0 w ob db tb fb fg F d r T wv root tx (aD r)
section
variable {base:Nat} {A:Nat→Addr} {w0:World} {ob db:Nat}
theorem SX.below{w w1:World}{i j:Nat}(h:SX base A w0 w ob db i j)(hb:Below w.heap.size w w1):SX base A w0 w1 ob db i j:=by
 obtain ⟨tb,fb,fg,F,d,r,T,wv,root,tx,h1,h2,h3,h4⟩:=h.out;exact ⟨tb,fb,fg,F,d,r,T,wv,root,tx,h1,h2,h3,h4.below hb⟩
theorem SX.mono{w:World}{i j k m:Nat}(h:SX base A w0 w ob db i j)(hi:i≤k)(hj:j≤m):SX base A w0 w ob db k m:=by
 obtain ⟨tb,fb,fg,F,d,r,T,wv,root,tx,h1,h2,h3,h4⟩:=h.out;exact ⟨tb,fb,fg,F,d,r,T,wv,root,tx,by omega,by omega,h3,h4⟩
theorem uE{L:List Nat}{r:cC}(hL:L.Perm (eJ r))(cO:fc r)(hn:(aD r).length≤400):3000≤(Q.dU (iS (Q.T0 4000) L) 4000).length:=by
 have h1:=KV L (Q.T0 4000) 4000;have h2:=Bj 3998 (by decide)
 have h3:=hL.length_eq;have h4:=kj cO;rw [show (3998:Nat)+2=4000 from rfl] at h2
 omega
theorem SX.store{w:World}{i j:Nat}(h:SX base A w0 w ob db i j)(hi:i≤400∧j≤100000):Calls prog 26 #[.pointer (some ⟨ob,0,none⟩)] w fun e w'=>e = .returned (.bool true)∧SX base A w0 w' ob db i (j+1):=by
 obtain ⟨tb,fb,fg,F,d,r,T,wv,root,tx,h1,h2,h3,h4⟩:=h.out;have tp:=kj h4.ts.ok;refine (Au h4 (by omega) (by omega) (by omega)).mono fun e w' ⟨he,eK⟩=>⟨he,?_⟩
 obtain ⟨fb2,fg2,F2,d2,L,Ly,ho,_,_⟩:=eK.out;have gU:aD (laid T r)=aD r:=(BI h4.ts.ok).2;rw [← gU] at ho;exact ⟨tb,fb2,fg2,F2,d2,_,_,wv,_,_,by rw [gU];omega,by omega,uE Ly ho.ts.ok (by rw [gU];omega),ho⟩
theorem SX.VY{w:World}{i j:Nat}(h:SX base A w0 w ob db i j)(hi:i≤400∧j≤100000):Calls prog 25 #[.pointer (some ⟨ob,0,none⟩)] w fun e w'=>e = .returned (.bool true)∧SX base A w0 w' ob db i (j+1):=by
 obtain ⟨tb,fb,fg,F,d,r,T,wv,root,tx,h1,h2,h3,h4⟩:=h.out;have tp:=kj h4.ts.ok;refine (GB h4 (by omega) (by omega) (by omega)).mono fun e w' ⟨he,eK⟩=>⟨he,?_⟩
 obtain ⟨qj,fb2,fg2,F2,d2,L,Ly,ho,_⟩:=eK.out;have gU:aD (laid T r)=aD r:=(BI h4.ts.ok).2;rw [← gU] at ho;exact ⟨qj,fb2,fg2,F2,d2,_,_,wv,_,_,by rw [gU];omega,by omega,uE Ly ho.ts.ok (by rw [gU];omega),ho⟩
theorem SX.asked{w:World}{i j:Nat}(kind at' n:Int)(key value iN:ByteArray)(h:SX base A w0 w ob db i j)(hi:i≤400∧j≤100000)(de:key.size≤140737488355328)(rP:n≤9223372036854775807):Calls prog 61 #[.pointer (some ⟨ob,0,none⟩),.agg #[.int .i64 kind,.int .i64 at',.int .i64 n,.string key,.string value,.string iN]] w fun e w'=>e = .returned (.bool true)∧SX base A w0 w' ob db i j:=by
 obtain ⟨tb,fb,fg,F,d,r,T,wv,root,tx,h1,h2,h3,h4⟩:=h.out;have fin:∀ {w'},Os base A w0 w' ob db tb fb fg F d r T wv root tx (aD r)→SX base A w0 w' ob db i j:=fun h=>⟨tb,fb,fg,F,d,r,T,wv,root,tx,h1,h2,h3,h⟩
 by_cases k3:kind=3
 ·subst k3;exact (Mz at' n key value iN h4 (by omega) de).mono fun e w' ⟨he,ho,_⟩=>⟨he,fin ho⟩
 ·by_cases k4:kind=4
  ·subst k4;by_cases PM:n<0
   ·exact (My at' n key value iN h4 (by omega) PM).mono fun e w' ⟨he,ho,_⟩=>⟨he,fin ho⟩
   ·exact (Ff at' n key value iN h4 (by omega) (by omega) rP).mono fun e w' ⟨he,ho,_⟩=>⟨he,fin ho⟩
  ·by_cases k5:kind=5
   ·subst k5;exact (Fh at' n key value iN h4 (by omega)).mono fun e w' ⟨he,ho,_⟩=>⟨he,fin ho⟩
   ·exact (Fg kind at' n key value iN ⟨k3,k4,k5⟩ h4).mono fun e w' ⟨he,ho,_⟩=>⟨he,fin ho⟩
theorem SX.step{w:World}{i j:Nat}(kind at' n:Int)(key value iN:ByteArray)(h:SX base A w0 w ob db i j)(hi:i≤400∧j≤100000)(de:key.size≤140737488355328)(vf:value.size≤140737488355328)(rP:n≤9223372036854775807):Calls prog 24 #[.pointer (some ⟨ob,0,none⟩),.agg #[.int .i64 kind,.int .i64 at',.int .i64 n,.string key,.string value,.string iN]] w fun e w'=>e = .returned (.bool true)∧SX base A w0 w' ob db (i+1) (j+1):=by
 by_cases h12:kind=1∨kind=2
 ·obtain ⟨tb,fb,fg,F,d,r,T,wv,root,tx,h1,h2,h3,h4⟩:=h.out;refine (OA kind at' n key value iN h12 h4 (by omega) de vf).mono fun e w' ⟨he,r',yS,hs,ho,_⟩=>⟨he,?_⟩
  have:=z8 hs h4.ts.ok;exact ⟨tb,fb,fg,F,d,r',T,yS,root,tx,by omega,by omega,h3,ho⟩
 ·have n1:(kind == 1)=false:=by rw [beq_eq_false_iff_ne];exact fun e=>h12 (.inl e)
  have n2:(kind == 2)=false:=by rw [beq_eq_false_iff_ne];exact fun e=>h12 (.inr e)
  have q0:=ai w (.cells #[.int .i64 kind,.int .i64 at',.int .i64 n,.string key,.string value,.string iN] 44);have x0:=B.au.new w #[.int .i64 kind,.int .i64 at',.int .i64 n,.string key,.string value,.string iN] 44;have k0:=x0.cell 0 (by simp)
  have k1:=x0.cell 1 (by simp)
  have k2:=x0.cell 2 (by simp)
  have k3:=x0.cell 3 (by simp)
  have k4:=x0.cell 4 (by simp)
  have k5:=x0.cell 5 (by simp)
  simp only [dm,List.getElem_cons_zero,List.getElem_cons_succ] at k0 k1 k2 k3 k4 k5;have hb:=h.below q0;have gP:=ab (hb.store hi);have HRE:=ab (hb.VY hi);have HAS:=ab (hb.asked kind at' n key value iN hi de rP);clear h hb q0 x0 h12 de vf;by_cases h10:kind=10
  ·subst h10;go_enter func24,ntmps24;go_wp2_with fail;refine gP.out.mono ?_
   rintro e w1 ⟨rfl,h1⟩;go_wp2;go_ret;exact ⟨rfl,h1.mono (by omega) (by omega)⟩
  ·by_cases h12:kind=12
   ·subst h12;go_enter func24,ntmps24;go_wp2_with fail;refine gP.out.mono ?_
    rintro e w1 ⟨rfl,h1⟩;go_wp2;go_ret;exact ⟨rfl,h1.mono (by omega) (by omega)⟩
   ·by_cases h13:kind=13
    ·subst h13;go_enter func24,ntmps24;go_wp2_with fail;refine HRE.out.mono ?_
     rintro e w1 ⟨rfl,h1⟩;go_wp2;go_ret;exact ⟨rfl,h1.mono (by omega) (by omega)⟩
    ·have n10:(kind == 10)=false:=by rw [beq_eq_false_iff_ne];exact h10
     have n12:(kind == 12)=false:=by rw [beq_eq_false_iff_ne];exact h12
     have n13:(kind == 13)=false:=by rw [beq_eq_false_iff_ne];exact h13
     clear h10 h12 h13;go_enter func24,ntmps24;go_wp2_with fail;refine HAS.out.mono ?_
     rintro e w1 ⟨rfl,h1⟩;go_wp2;go_ret;exact ⟨rfl,h1.mono (by omega) (by omega)⟩
end
structure LS where
 kind:Int
 at':Int
 n:Int
 key:ByteArray
 value:ByteArray
 iN:ByteArray
def Ia(w:World)(v:Value)(l:List LS):Prop:=∃ a c,v = .slice a l.length c∧∀ j (h:j<l.length),∃ g o,a=some ⟨g,o,none⟩∧w.cell? ⟨g,o+j*6,none⟩=some (.int .i64 l[j].kind)∧w.cell? ⟨g,o+j*6+1,none⟩=some (.int .i64 l[j].at')∧w.cell? ⟨g,o+j*6+2,none⟩=some (.int .i64 l[j].n)∧w.cell? ⟨g,o+j*6+3,none⟩=some (.string l[j].key)∧w.cell? ⟨g,o+j*6+4,none⟩=some (.string l[j].value)∧w.cell? ⟨g,o+j*6+5,none⟩=some (.string l[j].iN)
theorem Ia.below{w w':World}{v:Value}{l:List LS}(h:Ia w v l)(hb:Below w.heap.size w w'):Ia w' v l:=by
 obtain ⟨a,c,hv,hc⟩:=h;refine ⟨a,c,hv,fun j hj=>?_⟩
 obtain ⟨g,o,ha,h0,h1,h2,h3,h4,h5⟩:=hc j hj;have f:∀ {m:Nat} {u:Value},w.cell? ⟨g,m,none⟩=some u→w'.cell? ⟨g,m,none⟩=some u:=fun {m u} hu=>(hb.cell (p:=⟨g,m,none⟩) (World.block_lt_of_cell? w _ hu)).trans hu
 exact ⟨g,o,ha,f h0,f h1,f h2,f h3,f h4,f h5⟩
theorem Ag{base b2:Nat}{A:Nat→Addr}{w:World}(h:S.Env base A w)(h1:base≤b2)(h2:b2≤w.heap.size):S.Env b2 A w:=by
 obtain ⟨⟨a1,a2,a3,⟨b1,b2',b3⟩,hs⟩,c,⟨d1,d2,d3⟩,hL,hT⟩:=h;exact ⟨⟨a1,a2,a3,⟨by omega,by omega,by omega⟩,h2⟩,c,⟨by omega,by omega,by omega⟩,hL,hT⟩
theorem Al{base b2:Nat}{A:Nat→Addr}{w:World}(h:Q.Env base A w)(h1:base≤b2)(h2:b2≤w.heap.size):Q.Env b2 A w :=
 ⟨h.errs,h.tab,fun i hi=>by have:=h.lo i hi;omega,by have:=h.lt;omega,h2⟩
theorem SX.eZ{base:Nat}{A:Nat→Addr}{w0 w:World}{ob db i j:Nat}(h:SX base A w0 w ob db i j):Below base w0 w:=by
 obtain ⟨tb,fb,fg,F,d,r,T,wv,root,tx,h1,h2,h3,h4⟩:=h.out;exact h4.eZ
theorem SX.put{base:Nat}{A:Nat→Addr}{w0 w:World}{ob db i j:Nat}(key value:ByteArray)(h:SX base A w0 w ob db i j)(hi:i≤400)(de:key.size≤140737488355328)(vf:value.size≤140737488355328):Calls prog 10 #[.pointer (some ⟨ob,0,none⟩),.string key,.string value] w fun e w'=>e = .returned (.bool true)∧SX base A w0 w' ob db (i+1) j:=by
 obtain ⟨tb,fb,fg,F,d,r,T,wv,root,tx,h1,h2,h3,h4⟩:=h.out;refine (I5 key value h4 (by omega) de vf).mono fun e w' ⟨he,r',yS,hs,ho,_⟩=>⟨he,?_⟩
 have:=z8 (kind:=1) (.inl ⟨rfl,hs⟩) h4.ts.ok;exact ⟨tb,fb,fg,F,d,r',T,yS,root,tx,by omega,by omega,h3,ho⟩
theorem SX.start{base:Nat}{A:Nat→Addr}(w:World)(M7:Q.Env base A w)(hE:S.Env base A w)(hG:dy 13 eV A w)(pz:∀ i,i<13→eV i<base∧(A i).block<base):Calls prog 9 #[] w fun e w'=>∃ (ob db:Nat),e = .returned (.tuple #[.pointer (some ⟨ob,0,none⟩),.bool true])∧SX base A w w' ob db 0 0:=by
 refine (KP w M7 hE hG pz).mono fun e w' ⟨ob,db,tb,fb,fg,F,d,he,ho⟩=>⟨ob,db,he,?_⟩
 exact ⟨tb,fb,fg,F,d,none,_,_,0,0,aj _,aj _,by rw [show (4000:Nat)=3998+2 from rfl,Bj 3998 (by decide)];decide,ho⟩
theorem mC(T:Nat→Bool):∀ P,(Q.dU T P).Pairwise (· < ·)
 | 0=>List.Pairwise.nil
 | P+1=>by
  rw [Q.dU];split
  ·rw [List.append_nil];exact mC T P
  ·rw [List.pairwise_append];exact ⟨mC T P,by simp,fun a ha b hb=>by
    have:=((Q.js T).1 ha).1;simp at hb
    omega⟩
theorem EG{T:Nat→Bool}{L:List Nat}:∀ {P:Nat},L.Pairwise (· < ·)→(∀ j,j<P→(T j=false↔j ∈ L))→(∀ j ∈ L,j<P)→Q.dU T P=L:=fun {P} hr hT hb=>by
 refine List.Perm.eq_of_pairwise (le:=(· < ·)) (fun a b _ _ h1 h2=>absurd h1 (by omega)) (mC T P) hr ?_
 refine (List.perm_ext_iff_of_nodup ?_ ?_).2 fun a=>?_
 ·exact (mC T P).imp fun h=>by omega
 ·exact hr.imp fun h=>by omega
 ·rw [Q.js];exact ⟨fun h=>(hT a h.1).1 h.2,fun h=>⟨hb a h,(hT a (hb a h)).2 h⟩⟩
def B3(T:Nat→Bool)(L:List Nat):Nat→Bool:=fun i=>T i && !decide (i ∈ L)
theorem Me(T:Nat→Bool)(L:List Nat)(x:Nat):B3 T (L++[x])=fun i=>if i=x then false else B3 T L i:=by
 funext i
 unfold B3;by_cases h:i=x
 ·subst h;simp
 ·simp [h]
theorem YL(w:World)(a:Option Addr)(n cap m:Nat)(hm:m≤cap):(Instr.sliceAt 69 (.slice a n cap) none (some (.int .i64 (m:Int))) none).run prog w = .ok (.slice a m cap) w:=by
 rw [run_sliceAt_slice (h:=underlying69),run_slice_h (ht:=underlying69) (h0:=by omega) (h2:=by omega)]
 have hz:(sizeOf (prog.elem 69)).run prog w = .ok 1 w:=by kernel_rfl
 rw [hz];simp [Result.andThen,sliced,Addr.add]
def pI(T:Nat→Bool)(P i:Nat):Nat→Bool:=B3 (Q.gl T (Q.dU T P)) ((Q.dU T P).take i)
theorem rf{T:Nat→Bool}{P:Nat}(i:Nat):Q.dU (pI T P i) P=(Q.dU T P).take i:=by
 refine EG ((mC T P).sublist (List.take_sublist _ _)) (fun j hj=>?_) fun j hj=>((Q.js T).1 (bn hj)).1
 unfold pI B3 Q.gl;constructor
 ·intro h;by_cases hm:j ∈ (Q.dU T P).take i
  ·exact hm
  ·by_cases ht:T j=true
   ·simp [hm,ht] at h
   ·have:j ∈ Q.dU T P:=(Q.js T).2 ⟨hj,by simpa using ht⟩
    simp [hm,this] at h
 ·intro hm;simp [hm]
theorem NW{T:Nat→Bool}{P:Nat}:pI T P 0=Q.gl T (Q.dU T P):=by
 funext i
 unfold pI B3;simp
theorem Bm{T:Nat→Bool}{P:Nat}(h:Q.kn P T)(i:Nat):Q.kn P (pI T P i):=by
 have hf:∀ j,T j=true→pI T P i j=true:=fun j hj=>by
  have:j ∉ (Q.dU T P).take i:=fun hm=>by have:=((Q.js T).1 (bn hm)).2;rw [hj] at this;cases this
  unfold pI B3 Q.gl;simp [this,hj]
 exact ⟨h.lo,h.hi,hf 0 h.t0,hf 1 h.t1,fun j hj=>hf j (h.up j hj)⟩
theorem NX{T:Nat→Bool}{P:Nat}(h:Q.kn P T)(i:Nat)(hi:i<(Q.dU T P).length):Q.tJ P (pI T P i) ((Q.dU T P)[i] : Nat)=(none,pI T P (i+1)):=by
 have hm:(Q.dU T P)[i] ∈ Q.dU T P:=aI hi;have h1:=(Q.js T).1 hm;have h2:2≤(Q.dU T P)[i]:=by
  rcases a8 (Q.dU T P)[i] 2 with hx | hx
  ·have:(Q.dU T P)[i]=0∨(Q.dU T P)[i]=1:=by omega
   rcases this with e | e
   ·rw [e,h.t0] at h1;cases h1.2
   ·rw [e,h.t1] at h1;cases h1.2
  ·exact hx
 have h3:(Q.dU T P)[i] ∉ (Q.dU T P).take i:=fun hx=>by
  obtain ⟨j,hj,he⟩:=aO hx;rw [ag] at hj;rw [bF] at he;have:=List.pairwise_iff_getElem.1 (mC T P) j i (by omega) hi (by omega)
  omega
 have Wm:Q.kG P (((Q.dU T P)[i] : Nat):Int)=true:=by
  unfold Q.kG;simp only [bU,decide_eq_true_eq];omega
 have mf:pI T P i (Q.dU T P)[i]=true:=by unfold pI B3 Q.gl;simp [h3,hm]
 unfold Q.tJ;rw [if_pos Wm,aW,if_pos mf];congr 1
 unfold pI;rw [ax hi,Me];rfl
theorem Ac{base:Nat}{A:Nat→Addr}{ob fb fg:Nat}{T:Nat→Bool}(n:Nat)(w:World)(hc:w.cell? ⟨ob,2,none⟩=some (.pointer (some ⟨fb,0,none⟩)))(hm:Q.dj w fb fg 4000 T)(hk:Q.kn 4000 T)(hE:Q.Env base A w)(hn:n≤(Q.dU T 4000).length):Calls prog 34 #[.pointer (some ⟨ob,0,none⟩),.int .i64 (n:Int)] w fun e w'=>∃ b g a c,e = .returned (.tuple #[.pointer (some ⟨b,0,none⟩),.slice a n c])∧w.heap.size≤b∧w.heap.size≤g∧Q.dj w' b g 4000 (pI T 4000 n)∧(∀ j (_:j<n),∃ g',a=some ⟨g',0,none⟩∧w.heap.size≤g'∧g'≠g∧w'.cell? ⟨g',j,none⟩=some (.int .i64 (((Q.dU T 4000).getD j 0:Nat):Int)))∧Below w.heap.size w w':=by
 obtain ⟨L,hL⟩ : ∃ L,L=Q.dU T 4000:=⟨_,rfl⟩;have Ev:L.length≤4000:=by
  rw [hL,Q.vU];unfold Q.fr;exact Nat.sub_le _ _
 have Jk:Q.jd 4000 T ((L.length:Nat):Int)=(none,L,Q.gl T L):=by
  have h1:Q.eT T 4000 L.length=L:=by unfold Q.eT;rw [← hL];exact l8
  unfold Q.jd;rw [if_neg (by omega),aW,← hL,if_neg (by omega),h1]
 rw [← hL] at hn;have HCP:=ab (Q.QI fb fg 4000 T w hm);have hE1:∀ W,Below w.heap.size w W→Q.Env base A W:=fun W hW=>hE.keep (hW.mono hE.size)
 have HE:=ab hE1;have HTA:=ab Jk;have HK:=ab hk;have HL:=ab hL;have lW:=ab Ev;clear hm hE hE1 Jk hk Ev hL;rw [← HL.out];obtain ⟨Q0,BW⟩ : ∃ Q0:Ending→World→Prop,Q0=fun e w'=>∃ b g a c,e = .returned (.tuple #[.pointer (some ⟨b,0,none⟩),.slice a n c])∧w.heap.size≤b∧w.heap.size≤g∧Q.dj w' b g 4000 (pI T 4000 n)∧(∀ j (h:j<n),∃ g',a=some ⟨g',0,none⟩∧w.heap.size≤g'∧g'≠g∧w'.cell? ⟨g',j,none⟩=some (.int .i64 ((L.getD j 0:Nat):Int)))∧Below w.heap.size w w':=⟨_,rfl⟩
 rw [← BW];have HQ:=ab BW;clear BW;go_enter func34,ntmps34;go_wp2_with fail;refine HCP.out.mono ?_
 rintro e w1 ⟨b,g,rfl,hb,hg,fs,aM⟩;have Ck:=ab (Q.rV b g 4000 T w1 fs HK.out);rw [← HL.out] at Ck;have MH:=ab (Q.wJ base A b g 4000 T ((L.length:Nat):Int) w1 fs HK.out (HE.out w1 aM));rw [HTA.out] at MH;have bN:=ab aM;have R9:Hid (w.heap.size≤b∧w.heap.size≤g∧g<w1.heap.size):=⟨hb,hg,fs.Rz⟩;clear fs aM HCP hb hg;go_wp2_with fail;refine Ck.out.mono ?_
 rintro e w1' ⟨rfl,rfl⟩;go_wp2_with fail;refine MH.out.mono ?_
 rintro e w2 ⟨v,rfl,hv,kO,ja⟩;have vf:w2.ownsRow w1.heap.size 3 1 v L.length (Q.j7 L):=hv;obtain ⟨va,vc,kq⟩ : ∃ a c,v = .slice a L.length c:=by
  rcases vf.2 with ⟨h',h0⟩ | ⟨g0,cap,cur,h',_⟩
  ·exact ⟨none,0,by rw [h',h0]⟩
  ·exact ⟨_,_,h'⟩
 subst kq;have HVC:Hid (∀ j,j<L.length→∃ g',va=some ⟨g',0,none⟩∧w1.heap.size≤g'∧g'<w2.heap.size∧w2.cell? ⟨g',j,none⟩=some (.int .i64 ((L.getD j 0:Nat):Int))):=fun j hj=>by
  rcases vf.2 with ⟨h',h0⟩ | ⟨g0,cap,cur,h',lZ,oH,_⟩
  ·omega
  ·simp only [Value.slice.injEq] at h';obtain ⟨rfl,-,-⟩:=h';refine ⟨g0,rfl,lZ,(Array.getElem?_eq_some_iff.1 oH).1,?_⟩;have:=World.ownsRow.cells vf (g:=g0) rfl j (.int .i64 ((L.getD j 0:Nat):Int)) (by unfold Q.j7;rw [aL,af hj,aE,af hj];rfl)
   rw [bt,Nat.zero_add] at this;exact this
 have cT:n≤vc:=by
  rcases vf.2 with ⟨h',h0⟩ | ⟨g0,cap,cur,h',lZ,oH,BQ,_⟩
  ·omega
  ·simp only [Value.slice.injEq] at h';omega
 have Ye:Below w.heap.size w w2:=bN.out.trans (ja.below (base:=w.heap.size) (fun k hk=>by rw [hk];exact R9.out.2.1) bN.out.size)
 have gP:Hid (∀ wr,Q.eF (fun k=>k=g) w2 wr→Below w.heap.size w wr∧∀ j,j<L.length→∃ g',va=some ⟨g',0,none⟩∧w.heap.size≤g'∧g'≠g∧wr.cell? ⟨g',j,none⟩=some (.int .i64 ((L.getD j 0:Nat):Int))):=fun wr ho=>⟨Ye.trans (ho.below (base:=w.heap.size) (fun k hk=>by rw [hk];exact R9.out.2.1) Ye.size),fun j hj=>by
  obtain ⟨g',h1,h2,h3,h4⟩:=HVC.out j hj;have dH:g'≠g:=by have:=R9.out.2.2;omega
  exact ⟨g',h1,by have:=bN.out.size;omega,dH,ho.cell h4 dH⟩⟩
 have vw:Hid (Q.dj w2 b g 4000 (pI T 4000 0)):=by
  have h0:=NW (T:=T) (P:=4000);rw [← HL.out] at h0;rw [h0];exact kO
 have WD:decide (((L.length:Nat):Int)<(n:Int))=false:=decide_eq_false (by omega)
 have aiu:decide (L.length<n)=false:=decide_eq_false (by omega)
 have rP:n≤4000:=by have:=lW.out;omega
 have HNL:=ab hn;clear hv vf kO ja MH Ye HVC hn Ck;rw [show gC A (none,L,Q.gl T L).1 = .nilIface from rfl]
 go_wp2;go_loopw [9] (fun iv wr=>∃ i:Nat,iv = .int .i64 (i:Int)∧i≤n∧Q.dj wr b g 4000 (pI T 4000 i)∧Q.eF (fun k=>k=g) w2 wr) (fun iv _=>n - (intOf iv).toNat)
 case atStart=>exact ⟨0,rfl,aB _,vw.out,Q.eF.refl _ _⟩
 case round =>
  obtain ⟨i,rfl,hi,hmi,hoi⟩:=hrel;obtain ⟨hbi,hci⟩:=gP.out wr hoi;by_cases bK:i<n
  ·have dK:(i:Int)<(n:Int):=by omega
   have e0:(0:Int)≤(i:Int):=by omega
   have WJ:i<L.length:=by have:=HNL.out;omega
   have eL:(i:Int)<((L.length:Nat):Int):=by omega
   obtain ⟨g',rfl,_,_,c1⟩:=hci i WJ;have pP:Q.tJ 4000 (pI T 4000 i) ((L.getD i 0:Nat):Int)=(none,pI T 4000 (i+1)):=by
    have h1:=NX HK.out i (by rw [← HL.out];exact WJ)
    have h2:L.getD i 0=(Q.dU T 4000)[i]'(by rw [← HL.out];exact WJ):=by
     rw [aE,af WJ];simp only [jA,HL.out]
    rw [h2];exact h1
   have sq:=ab (Q.Mh base A b g 4000 (pI T 4000 i) ((L.getD i 0:Nat):Int) wr hmi (HE.out wr hbi));rw [pP] at sq;have HOI:=ab hoi;clear hmi hoi hbi hci pP;generalize ((L.getD i 0:Nat):Int)=x at *;go_wp2_with fail;refine sq.out.mono ?_
   rintro e w3 ⟨rfl,sA,lF⟩;have CC:Hid (Q.dj w3 b g 4000 (pI T 4000 (i+1))):=sA;have zN:=ab (HOI.out.trans lF);clear sA lF sq;rw [show gC A (none,pI T 4000 (i+1)).1 = .nilIface from rfl]
   go_wp2;go_roundw
   case rel=>exact ⟨i+1,by go_num,by omega,CC.out,zN.out⟩
   case measure=>simp [intOf];omega
  ·have dK:¬ (i:Int)<(n:Int):=by omega
   have MZ:i=n:=by omega
   subst MZ;have HF:Hid (∀ q,Q0 (.returned (.tuple #[.pointer (some ⟨b,0,none⟩),.slice va i vc])) (wr.drewN q)):=fun q=>by
    rw [HQ.out];refine ⟨b,g,va,vc,rfl,R9.out.1,R9.out.2.1,?_,fun j hj=>?_,aA hbi q⟩
    ·exact hmi.below (aA (Below.refl _ _) q)
    ·obtain ⟨g',h1,h2,h3,h4⟩:=hci j (by have:=HNL.out;omega)
     exact ⟨g',h1,h2,h3,h4⟩
   have pZ:=fun W=>YL W va L.length vc i cT
   clear hmi hoi hbi hci;go_wp2;go_quiet (fail)
   go_wp2;exact HF.out _
section
variable {base:Nat} {A:Nat→Addr} {db:Nat} {F:Nat→Prop} {d:S.V.bw} {W0:World} {r:cC}
theorem KE{w:World}{tb fb fg PP tx:Nat}{T:Nat→Bool}(hc:Ts base A db F d W0 w tb r)(hQ:Q.Env base A w)(hm:Q.dj w fb fg PP T)(hk:Q.kn PP T)(hn:(Q.dU T PP).length<dO r)(P9:dO r≤1000000):Calls prog 35 #[.pointer (some ⟨tb,0,none⟩),.pointer (some ⟨fb,0,none⟩),.int .u64 (tx:Int)] w fun e w'=>e = .returned (.tuple #[.slice none 0 0,.int .i64 0,.iface 360 (.pointer (some (A 6)))])∧Q.dj w' fb fg PP T∧Q.eF (fun k=>k=fg) w w':=by
 have Zg:Q.jd PP T (dO r:Int)=(some 6,[],T):=by
  unfold Q.jd;rw [if_neg (by omega),if_pos (by rw [aW];exact hn)]
 have Il:=ab (iz hc (by omega))
 have MH:=ab (Q.wJ base A fb fg PP T (dO r:Int) w hm hk hQ);rw [Zg] at MH;obtain ⟨N,hN⟩ : ∃ N,N=dO r:=⟨_,rfl⟩;rw [← hN] at Il MH;clear hc hQ hm hk hn P9 Zg hN;go_enter func35,ntmps35;go_wp2_with fail;refine Il.out.mono ?_
 rintro e w1' ⟨rfl,rfl⟩;go_wp2_with fail;refine MH.out.mono ?_
 rintro e w1 ⟨v,rfl,aF,hmap,uz⟩;rw [show gC A (some 6,([] : List Nat),T).1 = .iface 360 (.pointer (some (A 6))) from rfl]
 obtain ⟨pa,pn,pc,kq⟩ : ∃ a n c,v = .slice a n c:=by
  rcases aF.2 with ⟨h',h0⟩ | ⟨g,cap,cur,h',_⟩
  ·exact ⟨none,0,0,by rw [h']⟩
  ·exact ⟨_,_,_,h'⟩
 subst kq;have HM:=ab hmap;have HO:=ab uz;clear aF hmap uz MH Il;go_wp2;go_ret3;exact ⟨rfl,HM.out,HO.out⟩
end
theorem Gq{A:Nat→Addr}(jZ:Int)(sv:Value)(ks:List LS)(w:World)(hE:S.Env w.heap.size A w)(hG:dy 13 eV A w)(pz:∀ i,i<13→eV i<w.heap.size∧(A i).block<w.heap.size)(M7:Q.Env w.heap.size A w)(hs:Ia w sv ks)(_hkl:ks.length≤140737488355328)(jo:∀ s ∈ ks,s.key.size≤140737488355328∧s.value.size≤140737488355328∧s.n≤9223372036854775807):Calls prog 31 #[.agg #[.int .i64 jZ,sv]] w fun e w'=>∃ base W1 ob db,e = .returned (.tuple #[.pointer (some ⟨ob,0,none⟩),.bool true])∧SX base A W1 w' ob db 302 300∧w.heap.size≤base∧(∀ W,Below base W1 W→Below w.heap.size w W):=by
 obtain ⟨sa,sc,Zk⟩ : ∃ a c,sv = .slice a ks.length c:=by obtain ⟨a,c,h,_⟩:=hs;exact ⟨a,c,h⟩
 subst Zk;obtain ⟨K,hK⟩ : ∃ K,K=ks.length:=⟨_,rfl⟩;rw [← hK] at hs ⊢;obtain ⟨W1,gL⟩ : ∃ W1,w.alloc (.cells #[.int .i64 jZ,.slice sa K sc] 37)=W1:=⟨_,rfl⟩;have q0:=ai w (.cells #[.int .i64 jZ,.slice sa K sc] 37);have x0:=B.au.new w #[.int .i64 jZ,.slice sa K sc] 37;rw [gL] at q0 x0;have Eh:W1.heap.size=w.heap.size+1:=by rw [← gL];simp
 obtain ⟨XB,qE⟩ : ∃ XB,XB=w.heap.size:=⟨_,rfl⟩;obtain ⟨base,hB⟩ : ∃ base,base=W1.heap.size:=⟨_,rfl⟩;have mh:=ab (SX.start (base:=base) (A:=A) W1 (Al (M7.keep q0) (by omega) (by omega)) (Ag (hE.up q0) (by omega) (by omega)) (hG.keep q0) (fun i hi=>by have:=pz i hi;omega))
 have gP:=ab (hs.below q0);have HBS:Hid (base=W1.heap.size):=hB;have HX:Hid (B.au W1 XB #[.int .i64 jZ,.slice sa K sc] 37∧XB<base):=⟨by rw [qE];exact x0,by omega⟩
 have jW:Hid (w.heap.size≤base):=by show _≤_;omega
 have me:Hid (∀ w',Below base W1 w'→Below w.heap.size w w'):=fun w' h=>by rw [hB] at h;exact Below.next q0 h
 have HK:=ab hK;have HKS:=ab jo;obtain ⟨Q0,BW⟩ : ∃ Q0:Ending→World→Prop,Q0=fun e w'=>∃ base W1 ob db,e = .returned (.tuple #[.pointer (some ⟨ob,0,none⟩),.bool true])∧SX base A W1 w' ob db 302 300∧w.heap.size≤base∧(∀ W,Below base W1 W→Below w.heap.size w W):=⟨_,rfl⟩
 rw [← BW];have HQ:=ab BW;have Rg:=ab qE;have we:=ab gL;clear hE hG pz M7 hs jo hK q0 x0 Eh BW hB gL;go_enter func31,ntmps31;go_wp2_with fail;rw [we.out,← qE];clear qE;refine mh.out.mono ?_
 rintro e w2 ⟨ob,db,rfl,Zv⟩;have Uv:=ab (Zv.put ⟨#[98,101,103,105,110]⟩ ⟨#[49]⟩ (by omega) (by simp [ByteArray.size]) (by simp [ByteArray.size]))
 clear Zv mh;go_wp2_with fail;refine Uv.out.mono ?_
 rintro e w3 ⟨rfl,Zu⟩;have Uv:=ab (Zu.put ⟨#[101,110,100]⟩ ⟨#[50]⟩ (by omega) (by simp [ByteArray.size]) (by simp [ByteArray.size]))
 clear Zu;go_wp2_with fail;refine Uv.out.mono ?_
 rintro e w6 ⟨rfl,Zt⟩;have HFW:=ab Zt;clear Zt Uv;go_wp2;go_loopw [5,6] (fun okv iv wr=>∃ i:Nat,okv = .bool true∧iv = .int .i64 (i:Int)∧i≤300∧i≤K∧SX base A W1 wr ob db (i+2) i) (fun _ iv _=>300 - (intOf iv).toNat)
 case atStart=>exact ⟨0,rfl,rfl,by omega,aB _,HFW.out⟩
 case round =>
  obtain ⟨i,rfl,rfl,hi,hiK,hse⟩:=hrel;have JO:=ab hse;have xc:wr.cell? ⟨XB,1,none⟩=some (.slice sa K sc):=(hse.eZ.cell (p:=⟨XB,1,none⟩) HX.out.2).trans HX.out.1.c1;clear hse HFW;by_cases bK:i<K∧i<300
  ·obtain ⟨Va,TD⟩:=bK;have HI9:Hid (i+1≤300∧i+1≤K):=⟨by omega,by omega⟩
   have aiz:(i:Int)<(K:Int):=by omega
   have aiy:(i:Int)<300:=by omega
   have e0:(0:Int)≤(i:Int):=by omega
   have aae:i<ks.length:=by have:=HK.out;omega
   obtain ⟨g,o,il,Zw,s0,s1,s2,s3,s4,s5⟩:=(show ∀ j (h:j<ks.length),∃ g o,g<base∧sa=some ⟨g,o,none⟩∧wr.cell? ⟨g,o+j*6,none⟩=some (.int .i64 ks[j].kind)∧wr.cell? ⟨g,o+j*6+1,none⟩=some (.int .i64 ks[j].at')∧wr.cell? ⟨g,o+j*6+2,none⟩=some (.int .i64 ks[j].n)∧wr.cell? ⟨g,o+j*6+3,none⟩=some (.string ks[j].key)∧wr.cell? ⟨g,o+j*6+4,none⟩=some (.string ks[j].value)∧wr.cell? ⟨g,o+j*6+5,none⟩=some (.string ks[j].iN) from fun j h=>by
    obtain ⟨a,c,hv,hc⟩:=gP.out;simp only [Value.slice.injEq] at hv;obtain ⟨rfl,-,-⟩:=hv;obtain ⟨g,o,ha,h0,h1,h2,h3,h4,h5⟩:=hc j h;have f:∀ {m:Nat} {u:Value},W1.cell? ⟨g,m,none⟩=some u→wr.cell? ⟨g,m,none⟩=some u:=fun {m u} hu=>(JO.out.eZ.cell (p:=⟨g,m,none⟩) (by have h9:=HBS.out;have h8:g<W1.heap.size:=World.block_lt_of_cell? W1 _ hu;show g<base;omega)).trans hu
    exact ⟨g,o,(by have h9:=HBS.out;have h8:g<W1.heap.size:=World.block_lt_of_cell? W1 _ h0;omega),ha,f h0,f h1,f h2,f h3,f h4,f h5⟩) i aae
   have jb:=ab (HKS.out ks[i] (aI aae));generalize ks[i]=st at s0 s1 s2 s3 s4 s5 jb;obtain ⟨kind,at',n,key,value,iN⟩:=st;simp only at s0 s1 s2 s3 s4 s5 jb;subst Zw;have HSP:=ab (JO.out.step kind at' n key value iN (by omega) jb.out.1 jb.out.2.1 jb.out.2.2)
   clear jb;go_wp2_with fail;refine HSP.out.mono ?_
   rintro e w7 ⟨rfl,Zs⟩;have aeE:=ab Zs;clear Zs HSP s0 s1 s2 s3 s4 s5 xc il;go_wp2;go_roundw
   case rel =>
    refine ⟨i+1,?_,?_,HI9.out.1,HI9.out.2,aeE.out.mono (by omega) (by omega)⟩
    ·rfl
    ·go_num
   case measure=>simp [intOf];omega
  ·have fI:(¬ (i:Int)<(K:Int))∨((i:Int)<(K:Int)∧¬ (i:Int)<300):=by omega
   have HQF:Hid (Q0 (.returned (.tuple #[.pointer (some ⟨ob,0,none⟩),.bool true])) wr):=by
    show Q0 _ wr
    rw [HQ.out];exact ⟨base,W1,ob,db,rfl,JO.out.mono (by omega) (by omega),jW.out,me.out⟩
   clear bK JO;rcases fI with h1 | ⟨h1,h2⟩
   all_goals
    go_wp2;exact HQF.out
theorem OJ(A:Nat→Addr)(w:World)(h:dy 13 eV A w):Calls prog 14 #[.iface 360 (.pointer (some (A 6)))] w fun e w'=>e = .returned (.int .i64 7)∧w=w':=by
 have c0:w.cell? ⟨0,0,none⟩=some (.iface 360 (.pointer (some (A 0)))):=(h.1 0 (by decide)).1
 have c1:w.cell? ⟨1,0,none⟩=some (.iface 360 (.pointer (some (A 1)))):=(h.1 1 (by decide)).1
 have c2:w.cell? ⟨2,0,none⟩=some (.iface 360 (.pointer (some (A 2)))):=(h.1 2 (by decide)).1
 have c3:w.cell? ⟨3,0,none⟩=some (.iface 360 (.pointer (some (A 3)))):=(h.1 3 (by decide)).1
 have c4:w.cell? ⟨4,0,none⟩=some (.iface 360 (.pointer (some (A 4)))):=(h.1 4 (by decide)).1
 have c5:w.cell? ⟨5,0,none⟩=some (.iface 360 (.pointer (some (A 5)))):=(h.1 5 (by decide)).1
 have c6:w.cell? ⟨6,0,none⟩=some (.iface 360 (.pointer (some (A 6)))):=(h.1 6 (by decide)).1
 have e0:=lq A 6 0 w h (by decide) (by decide) (by decide)
 have e1:=lq A 6 1 w h (by decide) (by decide) (by decide)
 have e2:=lq A 6 2 w h (by decide) (by decide) (by decide)
 have e3:=lq A 6 3 w h (by decide) (by decide) (by decide)
 have e4:=lq A 6 4 w h (by decide) (by decide) (by decide)
 have e5:=lq A 6 5 w h (by decide) (by decide) (by decide)
 have e6:=JA A 6 w;have hn:=fun W=>uL (some (A 6)) W
 clear h;go_enter func14,ntmps14;go_wp2;go_ret;exact ⟨rfl,rfl⟩
theorem KH(i:Int)(n:Nat)(w:World)(h1:1≤n)(h2:n≤2000000):Calls prog 33 #[.int .i64 i,.int .i64 (n:Int)] w fun e w'=>∃ s:Nat,s<n∧e = .returned (.int .i64 (s:Int))∧w=w':=by
 have vj:¬ (n:Int)<1:=by omega
 have bK:=Int.tmod_lt_of_pos i (show (0:Int)<(n:Int) by omega)
 have Vd:=Int.lt_tmod_of_pos i (show (0:Int)<(n:Int) by omega)
 have PO:¬ (n:Int)=0:=by omega
 obtain ⟨r,hr⟩ : ∃ r,r=Int.tmod i (n:Int):=⟨_,rfl⟩;have hr':Int.tmod i (n:Int)=r:=hr.symm;rw [hr'] at bK Vd;clear hr;by_cases h0:r<0
 ·have hw:IntKind.i64.wrap (r+(n:Int))=r+(n:Int):=by rw [IntKind.wrap_i64];omega
  go_enter func33,ntmps33;go_wp2;go_ret;exact ⟨(r+(n:Int)).toNat,by omega,by rw [show (((r+(n:Int)).toNat:Nat):Int)=r+(n:Int) by omega];rfl,rfl⟩
 ·go_enter func33,ntmps33;go_wp2;go_ret;exact ⟨r.toNat,by omega,by rw [show ((r.toNat:Nat):Int)=r by omega];rfl,rfl⟩
theorem KI(i:Int)(w:World):Calls prog 33 #[.int .i64 i,.int .i64 0] w fun e w'=>e = .returned (.int .i64 0)∧w=w':=by
 go_enter func33,ntmps33;go_wp2;go_ret;exact ⟨rfl,rfl⟩
end T
end Go.Proofs.YtihmgigfkmofnaaGreatDoor
