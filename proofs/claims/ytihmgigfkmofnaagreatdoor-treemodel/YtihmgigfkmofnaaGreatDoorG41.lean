import Derived.Test.YtihmgigfkmofnaaGreatDoorG40
set_option maxHeartbeats 8000000
set_option maxRecDepth 100000
open Go.Proofs.Tryz
namespace Go.Proofs.YtihmgigfkmofnaaGreatDoor
namespace T
open Go.RowKit
section
variable {base:Nat} {A:Nat→Addr} {w0:World} {ob db tb fb fg:Nat} {F:Nat→Prop} {d:S.V.bq} {r:cQ} {T:Nat→Bool} {wv:Value} {root tx:Nat} {l:List Pr}
theorem Ff{w:World}(at' n:Int)(key value iV:ByteArray)(h:Os base A w0 w ob db tb fb fg F d r T wv root tx (aC r))(hn:(aC r).length≤1000000):Calls prog 61 #[.pointer (some ⟨ob,0,none⟩),.agg #[.int .i64 5,.int .i64 at',.int .i64 n,.string key,.string value,.string iV]] w fun e w'=>e = .returned (.bool true)∧Os base A w0 w' ob db tb fb fg F d r T wv root tx (aC r)∧Fr F tb ob w w':=by
 obtain ⟨row,bG⟩ : ∃ row:Array Value,row=#[.int .i64 5,.int .i64 at',.int .i64 n,.string key,.string value,.string iV]:=⟨_,rfl⟩;have h1:=h.box row;have ui:=ab (cC (F:=F) (tb:=tb) (ob:=ob) (ai w (.cells row 44)));rw [bG] at h1 ui;obtain ⟨W1,iy⟩ : ∃ W1,w.alloc (.cells #[.int .i64 5,.int .i64 at',.int .i64 n,.string key,.string value,.string iV] 44)=W1:=⟨_,rfl⟩;obtain ⟨XB,pI⟩ : ∃ XB,XB=w.heap.size:=⟨_,rfl⟩;rw [iy,← pI] at h1;rw [iy] at ui;rw [← bG] at h1;have HC:Hid (∀ W,zT base A w0 W ob db tb fb fg F d r T wv root tx (aC r) XB row→W.cell? ⟨ob,3,none⟩=some (.pointer (some ⟨tb,0,none⟩))∧W.cell? ⟨ob,4,none⟩=some wv∧W.cell? ⟨XB,0,none⟩=some (.int .i64 5)∧W.cell? ⟨XB,2,none⟩=some (.int .i64 n)∧W.cell? ⟨XB,3,none⟩=some (.string key)∧W.cell? ⟨XB,5,none⟩=some (.string iV)):=fun W hb=>by
  have hx:=hb.bx;rw [bG] at hx;refine ⟨hb.os.c.1,hb.os.c.2.1,?_,?_,?_,?_⟩
  ·have:=hx.cell 0 (by simp)
   simpa using this
  ·have:=hx.cell 2 (by simp)
   simpa using this
  ·have:=hx.cell 3 (by simp)
   simpa using this
  ·have:=hx.cell 5 (by simp)
   simpa using this
 obtain ⟨L,hL⟩ : ∃ L,L=sC (aC r) key:=⟨_,rfl⟩;obtain ⟨s1,jk⟩ : ∃ s1,s1=(iF L).1:=⟨_,rfl⟩;obtain ⟨s2,jy⟩ : ∃ s2,s2=(iF L).2:=⟨_,rfl⟩;obtain ⟨bb,BQ⟩ : ∃ bb,bb=!L.isEmpty:=⟨_,rfl⟩;have P1:∀ k,F k→k<W1.heap.size:=fun k hk=>by
  obtain ⟨d',_,hd⟩:=h1.os.ts.dv.dev;exact hd.lt _ hk
 have Xu:=h1.os.new (aj W1.heap.size);have CD:Hid (∀ W,Below W1.heap.size W1 W→Calls prog 18 #[.pointer (some ⟨tb,0,none⟩),.string key] W fun e w'=>e = .returned (.tuple #[.agg #[.string s1,.string s2],.bool bb,.nilIface])∧Dv base A db F d w'∧Mv db F W w'):=fun W hW=>by
  have hb:=h1.below hW;rw [jk,jy,BQ,hL];exact (E7 key hb.os.ts (by omega))
 have RM:Hid (∀ w2,Dv base A db F d w2→Mv db F (W1.alloc (.cells #[.string ⟨#[]⟩,.string ⟨#[]⟩] 52)).drew w2→B.ax w2 W1.heap.size #[.string ⟨#[]⟩,.string ⟨#[]⟩] 52∧zT base A w0 w2 ob db tb fb fg F d r T wv root tx (aC r) XB row∧zT base A w0 ((w2.setCell ⟨W1.heap.size,0,none⟩ (.string s1)).setCell ⟨W1.heap.size,1,none⟩ (.string s2)) ob db tb fb fg F d r T wv root tx (aC r) XB row∧Fr F tb ob W1 ((w2.setCell ⟨W1.heap.size,0,none⟩ (.string s1)).setCell ⟨W1.heap.size,1,none⟩ (.string s2))∧B.ax ((w2.setCell ⟨W1.heap.size,0,none⟩ (.string s1)).setCell ⟨W1.heap.size,1,none⟩ (.string s2)) W1.heap.size #[.string s1,.string s2] 52):=fun w2 hv hm=>by
  have aP:Below W1.heap.size W1 (W1.alloc (.cells #[.string ⟨#[]⟩,.string ⟨#[]⟩] 52)).drew:=B.aN (ai W1 _);have eo:Mv db F W1 w2:=(Mv.of aP).trans hm;have xp:B.ax w2 W1.heap.size #[.string ⟨#[]⟩,.string ⟨#[]⟩] 52:=(hm.step.block W1.heap.size (by simp [World.drew]) Xu.1).trans (B.ax.new W1 #[.string ⟨#[]⟩,.string ⟨#[]⟩] 52)
  obtain ⟨yS,yT⟩:=E5 h1.os.env.size (aj _) P1 eo hv (.string s1) (.string s2);exact ⟨xp,h1.fr (h1.os.mv hv eo) (uP eo),h1.fr (h1.os.mv yS yT) (uP yT),uP yT,xp.two _ _⟩
 have JK:Hid (∀ w1 w2,Below W1.heap.size W1 w1→Dv base A db F d w2→Mv db F w1 w2→zT base A w0 w2 ob db tb fb fg F d r T wv root tx (aC r) XB row∧zT base A w0 (w2.alloc (.cells #[.string s1,.string s2] 52)) ob db tb fb fg F d r T wv root tx (aC r) XB row∧Fr F tb ob W1 (w2.alloc (.cells #[.string s1,.string s2] 52))∧B.ax (w2.alloc (.cells #[.string s1,.string s2] 52)) w2.heap.size #[.string s1,.string s2] 52):=fun w1 w2 aP hv hm=>by
  have eo:Mv db F W1 w2:=(Mv.of aP).trans hm;have nz:=h1.fr (h1.os.mv hv eo) (uP eo);have hba:=ai w2 (.cells #[.string s1,.string s2] 52);exact ⟨nz,nz.below hba,(uP eo).trans (cC hba),B.ax.new w2 _ _⟩
 clear P1 Xu;have o8:Hid (∀ W,zT base A w0 W ob db tb fb fg F d r T wv root tx (aC r) XB row→∀ W2,Below W.heap.size W W2→Calls prog 28 #[wv,.string key] W2 fun e w'=>e = .returned (.tuple #[.int .i64 (aJ (aC r) key:Int),.bool (bh (aC r) key)])∧Below W.heap.size W w'):=fun W hb W2 hW=>(mn wv (aC r) key W2 (by omega) (hb.below hW).os.want.at).mono fun e w' ⟨he,k,hk⟩=>⟨he,by rw [hk];exact Below.next hW (aB (Below.refl _ _) k)⟩
 obtain ⟨q3,q4,x0,x2,x3,x5⟩:=HC.out W1 h1;obtain ⟨wa,wn,wc,MJ⟩:=gR h.want;have HN:=ab hn;have Cd:Hid (wn=(aC r).length):=by
  obtain ⟨a,c,e2⟩:=h.want.form;rw [MJ] at e2;cases e2;rfl
 subst MJ;have rn:=ab iy;have QV:=ab pI;have iq:=ab hL;have mh:=ab jk;have lI:=ab jy;have nc:=ab BQ;clear h h1 hn bG iy hL jk jy BQ;by_cases hk:key=⟨#[]⟩
 ·have Lf:=Iv hk;by_cases h0:wn=0
  ·have MO:aC r=[]:=List.length_eq_zero_iff.1 (by have:=Cd.out;omega)
   have FO:Hid (s1=⟨#[]⟩∧s2=⟨#[]⟩∧bb=false):=by
    have MT:L=[]:=by rw [iq.out];unfold sC;rw [if_pos hk];exact MO
    rw [mh.out,lI.out,nc.out,MT];exact ⟨rfl,rfl,rfl⟩
   have hz:((wn:Int) == 0)=true:=by rw [beq_iff_eq];omega
   clear hk MO h0;go_enter func61,ntmps61;go_wp2_with fail;rw [rn.out,← pI];clear pI;go_wp2_with fail;go_region_held3 (fun w'=>w'.cell? ⟨ob,3,none⟩=some (.pointer (some ⟨tb,0,none⟩))∧w'.cell? ⟨XB,3,none⟩=some (.string key)) (go_keep)
    (first | (go_at_call 18;refine (CD.out _ ?_).mono ?_;exact B.aN (ai _ _);rintro e w2 ⟨rfl,iG,iw⟩;obtain ⟨xp,aO,bF,tM,jR⟩:=RM.out w2 iG iw;have z0:=xp.c0;have z1:=xp.c1;have y0:=xp.free 0;have y1:=xp.free 1;have Io:Hid (w2=w2):=rfl;have dD:=ab bF;have CC:=ab tM;have rf:=ab jR;obtain ⟨n3,n4,m0,m2,m3,m5⟩:=HC.out w2 aO;obtain ⟨g3,g4,-,-,P4,-⟩:=HC.out _ bF;have c0:=jR.c0;have c1:=jR.c1;clear aO bF tM jR xp iG iw) | (go_at_call 18;refine (CD.out _ ?_).mono ?_;(first | exact (Below.refl _ _).drew | exact aB (Below.refl _ _) _ | exact Below.refl _ _);rintro e w2 ⟨rfl,iG,iw⟩;obtain ⟨aO,bF,tM,jR⟩:=JK.out _ w2 (by first | exact (Below.refl _ _).drew | exact aB (Below.refl _ _) _ | exact Below.refl _ _) iG iw;have Im:Hid (w2=w2):=rfl;have dD:=ab bF;have CC:=ab tM;have rf:=ab jR;obtain ⟨n3,n4,m0,m2,m3,m5⟩:=HC.out w2 aO;obtain ⟨g3,g4,-,-,P4,-⟩:=HC.out _ bF;have c0:=jR.c0;have c1:=jR.c1;clear aO bF tM jR iG iw))
   all_goals
    clear q3 q4 x0 x2 x3 x5 CD RM JK n3 n4 m0 m2 m3 m5
    (try clear z0 z1 y0 y1)
    go_wp2_with fail
    first
    | (clear Im;generalize zH:w2.alloc (.cells #[.string s1,.string s2] 52)=w3 at *;generalize PX:w2.heap.size=PB at *)
    | (clear Io;generalize zH:(w2.setCell ⟨W1.heap.size,0,none⟩ (.string s1)).setCell ⟨W1.heap.size,1,none⟩ (.string s2)=w3 at *;generalize PX:W1.heap.size=PB at *)
    clear zH PX;have o9:=ab (o8.out w3 dD.out);have yH:Hid (∀ W,Below w3.heap.size w3 W→B.ax W PB #[.string s1,.string s2] 52):=fun W hW=>rf.out.below hW
    clear o8;go_region_held3 (fun w'=>w'.cell? ⟨ob,4,none⟩=some (.slice wa wn wc)∧w'.cell? ⟨XB,3,none⟩=some (.string key)∧w'.cell? ⟨PB,0,none⟩=some (.string s1)∧w'.cell? ⟨PB,1,none⟩=some (.string s2)) (go_keep)
     (first | (go_at_call 28;refine (o9.out _ ?_).mono ?_;(first | exact (Below.refl _ _).drew | exact aB (Below.refl _ _) _ | exact Below.refl _ _);rintro e w4 ⟨rfl,eO⟩;have gr:=ab (dD.out.below eO);have Q8:=ab (CC.out.trans (cC eO));obtain ⟨i3,i4,-,-,i5,-⟩:=HC.out w4 gr.out;have j0:=(yH.out w4 eO).c0;have j1:=(yH.out w4 eO).c1;clear eO))
    all_goals
     clear g3 g4 P4 c0 c1 o9 i3;have bM:Hid (∀ k,Os base A w0 (w4.drewN k) ob db tb fb fg F d r T (.slice wa wn wc) root tx (aC r)∧Fr F tb ob w (w4.drewN k)):=fun k=>⟨(gr.out.below (aB (Below.refl _ _) k)).os,ui.out.trans (Q8.out.trans (cC (aB (Below.refl _ _) k)))⟩
     obtain ⟨_,_,Jd,_,_,aX⟩:=gr.out.os.want.at;simp only [Value.slice.injEq] at Jd;obtain ⟨rfl,-,rfl⟩:=Jd;have lf:Hid (s1=⟨#[]⟩∧s2=⟨#[]⟩∧bb=false):=FO.out;rw [lf.out.1] at j0;rw [lf.out.2.1] at j1;have Ti:=lf.out.2.2;subst Ti;clear aX;go_wp2
     (try go_quiet (fail))
     (try go_wp2)
     go_ret
     first | exact ⟨rfl,bM.out _⟩ | exact ⟨rfl,gr.out.os,ui.out.trans Q8.out⟩
  ·obtain ⟨J,hJ⟩ : ∃ J,wn=J+1:=⟨wn - 1,by omega⟩
   have HJ:Hid (J<(aC r).length∧J+1=wn):=⟨by have:=Cd.out;omega,hJ.symm⟩
   have FO:Hid (s1=((aC r)[J]'HJ.out.1).1∧s2=((aC r)[J]'HJ.out.1).2∧bb=true):=by
    have MT:L=(aC r).take (J+1):=by rw [iq.out];unfold sC;rw [if_pos hk,aq (by have:=HJ.out.2;have:=Cd.out;omega)]
    have Cq:iF L=(aC r)[J]'HJ.out.1:=by
     rw [MT,pF (j:=J) (by rw [ag];have:=HJ.out.1;omega),bD]
    rw [mh.out,lI.out,nc.out,Cq];refine ⟨rfl,rfl,?_⟩;rw [MT];cases hx:(aC r).take (J+1) with
    | nil =>
     have:=congrArg List.length hx;rw [ag,List.length_nil] at this;have:=HJ.out.1;omega
    | cons _ _=>rfl
   have sk:IntKind.i64.wrap ((wn:Int) - 1)=(J:Int):=by rw [IntKind.wrap_i64];have:=Cd.out;have:=HN.out;omega
   have hz:((wn:Int) == 0)=false:=by rw [beq_eq_false_iff_ne];omega
   clear hk h0 hJ;go_enter func61,ntmps61;go_wp2_with fail;rw [rn.out,← pI];clear pI;go_wp2_with fail;go_region_held3 (fun w'=>w'.cell? ⟨ob,3,none⟩=some (.pointer (some ⟨tb,0,none⟩))∧w'.cell? ⟨XB,3,none⟩=some (.string key)) (go_keep)
    (first | (go_at_call 18;refine (CD.out _ ?_).mono ?_;exact B.aN (ai _ _);rintro e w2 ⟨rfl,iG,iw⟩;obtain ⟨xp,aO,bF,tM,jR⟩:=RM.out w2 iG iw;have z0:=xp.c0;have z1:=xp.c1;have y0:=xp.free 0;have y1:=xp.free 1;have Io:Hid (w2=w2):=rfl;have dD:=ab bF;have CC:=ab tM;have rf:=ab jR;obtain ⟨n3,n4,m0,m2,m3,m5⟩:=HC.out w2 aO;obtain ⟨g3,g4,-,-,P4,-⟩:=HC.out _ bF;have c0:=jR.c0;have c1:=jR.c1;clear aO bF tM jR xp iG iw) | (go_at_call 18;refine (CD.out _ ?_).mono ?_;(first | exact (Below.refl _ _).drew | exact aB (Below.refl _ _) _ | exact Below.refl _ _);rintro e w2 ⟨rfl,iG,iw⟩;obtain ⟨aO,bF,tM,jR⟩:=JK.out _ w2 (by first | exact (Below.refl _ _).drew | exact aB (Below.refl _ _) _ | exact Below.refl _ _) iG iw;have Im:Hid (w2=w2):=rfl;have dD:=ab bF;have CC:=ab tM;have rf:=ab jR;obtain ⟨n3,n4,m0,m2,m3,m5⟩:=HC.out w2 aO;obtain ⟨g3,g4,-,-,P4,-⟩:=HC.out _ bF;have c0:=jR.c0;have c1:=jR.c1;clear aO bF tM jR iG iw))
   all_goals
    clear q3 q4 x0 x2 x3 x5 CD RM JK n3 n4 m0 m2 m3 m5
    (try clear z0 z1 y0 y1)
    go_wp2_with fail
    first
    | (clear Im;generalize zH:w2.alloc (.cells #[.string s1,.string s2] 52)=w3 at *;generalize PX:w2.heap.size=PB at *)
    | (clear Io;generalize zH:(w2.setCell ⟨W1.heap.size,0,none⟩ (.string s1)).setCell ⟨W1.heap.size,1,none⟩ (.string s2)=w3 at *;generalize PX:W1.heap.size=PB at *)
    clear zH PX;have o9:=ab (o8.out w3 dD.out);have yH:Hid (∀ W,Below w3.heap.size w3 W→B.ax W PB #[.string s1,.string s2] 52):=fun W hW=>rf.out.below hW
    clear o8;go_region_held3 (fun w'=>w'.cell? ⟨ob,4,none⟩=some (.slice wa wn wc)∧w'.cell? ⟨XB,3,none⟩=some (.string key)∧w'.cell? ⟨PB,0,none⟩=some (.string s1)∧w'.cell? ⟨PB,1,none⟩=some (.string s2)) (go_keep)
     (first | (go_at_call 28;refine (o9.out _ ?_).mono ?_;(first | exact (Below.refl _ _).drew | exact aB (Below.refl _ _) _ | exact Below.refl _ _);rintro e w4 ⟨rfl,eO⟩;have gr:=ab (dD.out.below eO);have Q8:=ab (CC.out.trans (cC eO));obtain ⟨i3,i4,-,-,i5,-⟩:=HC.out w4 gr.out;have j0:=(yH.out w4 eO).c0;have j1:=(yH.out w4 eO).c1;clear eO))
    all_goals
     clear g3 g4 P4 c0 c1 o9 i3;have bM:Hid (∀ k,Os base A w0 (w4.drewN k) ob db tb fb fg F d r T (.slice wa wn wc) root tx (aC r)∧Fr F tb ob w (w4.drewN k)):=fun k=>⟨(gr.out.below (aB (Below.refl _ _) k)).os,ui.out.trans (Q8.out.trans (cC (aB (Below.refl _ _) k)))⟩
     obtain ⟨_,_,Jd,_,_,aX⟩:=gr.out.os.want.at;simp only [Value.slice.injEq] at Jd;obtain ⟨rfl,-,rfl⟩:=Jd;obtain ⟨g,o,yb,e0,e1⟩:=aX J HJ.out.1;subst yb;rw [← FO.out.1] at e0;rw [← FO.out.2.1] at e1;have Ti:=FO.out.2.2;subst Ti;have f0:(0:Int)≤(J:Int):=by omega
     have f1:(J:Int)<(wn:Int):=by have:=HJ.out.1;have:=Cd.out;omega
     have f2:(wn:Int)≤1000000:=by have:=HN.out;have:=Cd.out;omega
     clear aX;go_wp2;go_quiet (fail)
     go_wp2;go_ret
     first | exact ⟨rfl,bM.out _⟩ | exact ⟨rfl,gr.out.os,ui.out.trans Q8.out⟩
 ·obtain ⟨Lf,ahJ⟩:=CN hk;have Zu:=cp (aC r) key;by_cases h0:aJ (aC r) key=0
  ·
   have FO:Hid (s1=⟨#[]⟩∧s2=⟨#[]⟩∧bb=false):=by
    have MT:L=[]:=by rw [iq.out];unfold sC;rw [if_neg hk,h0];rfl
    rw [mh.out,lI.out,nc.out,MT];exact ⟨rfl,rfl,rfl⟩
   rw [h0] at o8;clear hk h0 Zu;go_enter func61,ntmps61;go_wp2_with fail;rw [rn.out,← pI];clear pI;go_wp2_with fail;go_region_held3 (fun w'=>w'.cell? ⟨ob,3,none⟩=some (.pointer (some ⟨tb,0,none⟩))∧w'.cell? ⟨XB,3,none⟩=some (.string key)) (go_keep)
    (first | (go_at_call 18;refine (CD.out _ ?_).mono ?_;exact B.aN (ai _ _);rintro e w2 ⟨rfl,iG,iw⟩;obtain ⟨xp,aO,bF,tM,jR⟩:=RM.out w2 iG iw;have z0:=xp.c0;have z1:=xp.c1;have y0:=xp.free 0;have y1:=xp.free 1;have Io:Hid (w2=w2):=rfl;have dD:=ab bF;have CC:=ab tM;have rf:=ab jR;obtain ⟨n3,n4,m0,m2,m3,m5⟩:=HC.out w2 aO;obtain ⟨g3,g4,-,-,P4,-⟩:=HC.out _ bF;have c0:=jR.c0;have c1:=jR.c1;clear aO bF tM jR xp iG iw) | (go_at_call 18;refine (CD.out _ ?_).mono ?_;(first | exact (Below.refl _ _).drew | exact aB (Below.refl _ _) _ | exact Below.refl _ _);rintro e w2 ⟨rfl,iG,iw⟩;obtain ⟨aO,bF,tM,jR⟩:=JK.out _ w2 (by first | exact (Below.refl _ _).drew | exact aB (Below.refl _ _) _ | exact Below.refl _ _) iG iw;have Im:Hid (w2=w2):=rfl;have dD:=ab bF;have CC:=ab tM;have rf:=ab jR;obtain ⟨n3,n4,m0,m2,m3,m5⟩:=HC.out w2 aO;obtain ⟨g3,g4,-,-,P4,-⟩:=HC.out _ bF;have c0:=jR.c0;have c1:=jR.c1;clear aO bF tM jR iG iw))
   all_goals
    clear q3 q4 x0 x2 x3 x5 CD RM JK n3 n4 m0 m2 m3 m5
    (try clear z0 z1 y0 y1)
    go_wp2_with fail
    first
    | (clear Im;generalize zH:w2.alloc (.cells #[.string s1,.string s2] 52)=w3 at *;generalize PX:w2.heap.size=PB at *)
    | (clear Io;generalize zH:(w2.setCell ⟨W1.heap.size,0,none⟩ (.string s1)).setCell ⟨W1.heap.size,1,none⟩ (.string s2)=w3 at *;generalize PX:W1.heap.size=PB at *)
    clear zH PX;have o9:=ab (o8.out w3 dD.out);have yH:Hid (∀ W,Below w3.heap.size w3 W→B.ax W PB #[.string s1,.string s2] 52):=fun W hW=>rf.out.below hW
    clear o8;go_region_held3 (fun w'=>w'.cell? ⟨ob,4,none⟩=some (.slice wa wn wc)∧w'.cell? ⟨XB,3,none⟩=some (.string key)∧w'.cell? ⟨PB,0,none⟩=some (.string s1)∧w'.cell? ⟨PB,1,none⟩=some (.string s2)) (go_keep)
     (first | (go_at_call 28;refine (o9.out _ ?_).mono ?_;(first | exact (Below.refl _ _).drew | exact aB (Below.refl _ _) _ | exact Below.refl _ _);rintro e w4 ⟨rfl,eO⟩;have gr:=ab (dD.out.below eO);have Q8:=ab (CC.out.trans (cC eO));obtain ⟨i3,i4,-,-,i5,-⟩:=HC.out w4 gr.out;have j0:=(yH.out w4 eO).c0;have j1:=(yH.out w4 eO).c1;clear eO))
    all_goals
     clear g3 g4 P4 c0 c1 o9 i3;have bM:Hid (∀ k,Os base A w0 (w4.drewN k) ob db tb fb fg F d r T (.slice wa wn wc) root tx (aC r)∧Fr F tb ob w (w4.drewN k)):=fun k=>⟨(gr.out.below (aB (Below.refl _ _) k)).os,ui.out.trans (Q8.out.trans (cC (aB (Below.refl _ _) k)))⟩
     obtain ⟨_,_,Jd,_,_,aX⟩:=gr.out.os.want.at;simp only [Value.slice.injEq] at Jd;obtain ⟨rfl,-,rfl⟩:=Jd;have lf:Hid (s1=⟨#[]⟩∧s2=⟨#[]⟩∧bb=false):=FO.out;rw [lf.out.1] at j0;rw [lf.out.2.1] at j1;have Ti:=lf.out.2.2;subst Ti;clear aX;go_wp2
     (try go_quiet (fail))
     (try go_wp2)
     go_ret
     first | exact ⟨rfl,bM.out _⟩ | exact ⟨rfl,gr.out.os,ui.out.trans Q8.out⟩
  ·obtain ⟨J,hJ⟩ : ∃ J,aJ (aC r) key=J+1:=⟨aJ (aC r) key - 1,by omega⟩
   have HJ:Hid (J<(aC r).length∧J+1=aJ (aC r) key):=⟨by omega,hJ.symm⟩
   have FO:Hid (s1=((aC r)[J]'HJ.out.1).1∧s2=((aC r)[J]'HJ.out.1).2∧bb=true):=by
    have MT:L=(aC r).take (J+1):=by rw [iq.out];unfold sC;rw [if_neg hk,HJ.out.2]
    have Cq:iF L=(aC r)[J]'HJ.out.1:=by
     rw [MT,pF (j:=J) (by rw [ag];have:=HJ.out.1;omega),bD]
    rw [mh.out,lI.out,nc.out,Cq];refine ⟨rfl,rfl,?_⟩;rw [MT];cases hx:(aC r).take (J+1) with
    | nil =>
     have:=congrArg List.length hx;rw [ag,List.length_nil] at this;have:=HJ.out.1;omega
    | cons _ _=>rfl
   have sk:IntKind.i64.wrap (((J+1:Nat):Int) - 1)=(J:Int):=by rw [IntKind.wrap_i64];have:=HJ.out.1;have:=HN.out;omega
   have hz:(((J+1:Nat):Int) == 0)=false:=by rw [beq_eq_false_iff_ne];omega
   simp only [hJ] at o8;clear hk h0 hJ Zu;go_enter func61,ntmps61;go_wp2_with fail;rw [rn.out,← pI];clear pI;go_wp2_with fail;go_region_held3 (fun w'=>w'.cell? ⟨ob,3,none⟩=some (.pointer (some ⟨tb,0,none⟩))∧w'.cell? ⟨XB,3,none⟩=some (.string key)) (go_keep)
    (first | (go_at_call 18;refine (CD.out _ ?_).mono ?_;exact B.aN (ai _ _);rintro e w2 ⟨rfl,iG,iw⟩;obtain ⟨xp,aO,bF,tM,jR⟩:=RM.out w2 iG iw;have z0:=xp.c0;have z1:=xp.c1;have y0:=xp.free 0;have y1:=xp.free 1;have Io:Hid (w2=w2):=rfl;have dD:=ab bF;have CC:=ab tM;have rf:=ab jR;obtain ⟨n3,n4,m0,m2,m3,m5⟩:=HC.out w2 aO;obtain ⟨g3,g4,-,-,P4,-⟩:=HC.out _ bF;have c0:=jR.c0;have c1:=jR.c1;clear aO bF tM jR xp iG iw) | (go_at_call 18;refine (CD.out _ ?_).mono ?_;(first | exact (Below.refl _ _).drew | exact aB (Below.refl _ _) _ | exact Below.refl _ _);rintro e w2 ⟨rfl,iG,iw⟩;obtain ⟨aO,bF,tM,jR⟩:=JK.out _ w2 (by first | exact (Below.refl _ _).drew | exact aB (Below.refl _ _) _ | exact Below.refl _ _) iG iw;have Im:Hid (w2=w2):=rfl;have dD:=ab bF;have CC:=ab tM;have rf:=ab jR;obtain ⟨n3,n4,m0,m2,m3,m5⟩:=HC.out w2 aO;obtain ⟨g3,g4,-,-,P4,-⟩:=HC.out _ bF;have c0:=jR.c0;have c1:=jR.c1;clear aO bF tM jR iG iw))
   all_goals
    clear q3 q4 x0 x2 x3 x5 CD RM JK n3 n4 m0 m2 m3 m5
    (try clear z0 z1 y0 y1)
    go_wp2_with fail
    first
    | (clear Im;generalize zH:w2.alloc (.cells #[.string s1,.string s2] 52)=w3 at *;generalize PX:w2.heap.size=PB at *)
    | (clear Io;generalize zH:(w2.setCell ⟨W1.heap.size,0,none⟩ (.string s1)).setCell ⟨W1.heap.size,1,none⟩ (.string s2)=w3 at *;generalize PX:W1.heap.size=PB at *)
    clear zH PX;have o9:=ab (o8.out w3 dD.out);have yH:Hid (∀ W,Below w3.heap.size w3 W→B.ax W PB #[.string s1,.string s2] 52):=fun W hW=>rf.out.below hW
    clear o8;go_region_held3 (fun w'=>w'.cell? ⟨ob,4,none⟩=some (.slice wa wn wc)∧w'.cell? ⟨XB,3,none⟩=some (.string key)∧w'.cell? ⟨PB,0,none⟩=some (.string s1)∧w'.cell? ⟨PB,1,none⟩=some (.string s2)) (go_keep)
     (first | (go_at_call 28;refine (o9.out _ ?_).mono ?_;(first | exact (Below.refl _ _).drew | exact aB (Below.refl _ _) _ | exact Below.refl _ _);rintro e w4 ⟨rfl,eO⟩;have gr:=ab (dD.out.below eO);have Q8:=ab (CC.out.trans (cC eO));obtain ⟨i3,i4,-,-,i5,-⟩:=HC.out w4 gr.out;have j0:=(yH.out w4 eO).c0;have j1:=(yH.out w4 eO).c1;clear eO))
    all_goals
     clear g3 g4 P4 c0 c1 o9 i3;have bM:Hid (∀ k,Os base A w0 (w4.drewN k) ob db tb fb fg F d r T (.slice wa wn wc) root tx (aC r)∧Fr F tb ob w (w4.drewN k)):=fun k=>⟨(gr.out.below (aB (Below.refl _ _) k)).os,ui.out.trans (Q8.out.trans (cC (aB (Below.refl _ _) k)))⟩
     obtain ⟨_,_,Jd,_,_,aX⟩:=gr.out.os.want.at;simp only [Value.slice.injEq] at Jd;obtain ⟨rfl,-,rfl⟩:=Jd;obtain ⟨g,o,yb,e0,e1⟩:=aX J HJ.out.1;subst yb;rw [← FO.out.1] at e0;rw [← FO.out.2.1] at e1;have Ti:=FO.out.2.2;subst Ti;have f0:(0:Int)≤(J:Int):=by omega
     have f1:(J:Int)<(wn:Int):=by have:=HJ.out.1;have:=Cd.out;omega
     have f2:(wn:Int)≤1000000:=by have:=HN.out;have:=Cd.out;omega
     clear aX;go_wp2;go_quiet (fail)
     go_wp2;go_ret
     first | exact ⟨rfl,bM.out _⟩ | exact ⟨rfl,gr.out.os,ui.out.trans Q8.out⟩
end
structure SE(base:Nat)(A:Nat→Addr)(w0 w:World)(ob db i:Nat):Prop where
 out:∃ (tb fb fg:Nat) (F:Nat→Prop) (d:S.V.bq) (r:cQ) (T:Nat→Bool) (wv:Value) (root tx:Nat),(aC r).length≤i∧tx≤i∧3000≤(Q.gx T 4000).length∧Os base A w0 w ob db tb fb fg F d r T wv root tx (aC r)
section
variable {base:Nat} {A:Nat→Addr} {w0:World} {ob db:Nat}
theorem SE.below{w w1:World}{i:Nat}(h:SE base A w0 w ob db i)(hb:Below w.heap.size w w1):SE base A w0 w1 ob db i:=by
 obtain ⟨tb,fb,fg,F,d,r,T,wv,root,tx,h1,h2,h3,h4⟩:=h.out;exact ⟨tb,fb,fg,F,d,r,T,wv,root,tx,h1,h2,h3,h4.below hb⟩
theorem SE.mono{w:World}{i j:Nat}(h:SE base A w0 w ob db i)(hj:i≤j):SE base A w0 w ob db j:=by
 obtain ⟨tb,fb,fg,F,d,r,T,wv,root,tx,h1,h2,h3,h4⟩:=h.out;exact ⟨tb,fb,fg,F,d,r,T,wv,root,tx,by omega,by omega,h3,h4⟩
theorem uO{L:List Nat}{r:cQ}(hL:L.Perm (eD r))(cT:eW r)(hn:(aC r).length≤400):3000≤(Q.gx (ja (Q.T0 4000) L) 4000).length:=by
 have h1:=KO L (Q.T0 4000) 4000;have h2:=Bf 3998 (by decide)
 have h3:=hL.length_eq;have h4:=ky cT;rw [show (3998:Nat)+2=4000 from rfl] at h2
 omega
theorem SE.store{w:World}{i:Nat}(h:SE base A w0 w ob db i)(hi:i≤400):Calls prog 26 #[.pointer (some ⟨ob,0,none⟩)] w fun e w'=>e = .returned (.bool true)∧SE base A w0 w' ob db (i+1):=by
 obtain ⟨tb,fb,fg,F,d,r,T,wv,root,tx,h1,h2,h3,h4⟩:=h.out;have uL:=ky h4.ts.ok;refine (Aq h4 (by omega) (by omega) (by omega)).mono fun e w' ⟨he,fi⟩=>⟨he,?_⟩
 obtain ⟨Z5,Z4,F2,d2,L,Jm,ho,_,_⟩:=fi.out;have iB:aC (laid T r)=aC r:=(vP h4.ts.ok).2;rw [← iB] at ho;exact ⟨tb,Z5,Z4,F2,d2,_,_,wv,_,_,by rw [iB];omega,by omega,uO Jm ho.ts.ok (by rw [iB];omega),ho⟩
theorem SE.Vp{w:World}{i:Nat}(h:SE base A w0 w ob db i)(hi:i≤400):Calls prog 25 #[.pointer (some ⟨ob,0,none⟩)] w fun e w'=>e = .returned (.bool true)∧SE base A w0 w' ob db (i+1):=by
 obtain ⟨tb,fb,fg,F,d,r,T,wv,root,tx,h1,h2,h3,h4⟩:=h.out;have uL:=ky h4.ts.ok;refine (xu h4 (by omega) (by omega) (by omega)).mono fun e w' ⟨he,fi⟩=>⟨he,?_⟩
 obtain ⟨pP,Z5,Z4,F2,d2,L,Jm,ho,_⟩:=fi.out;have iB:aC (laid T r)=aC r:=(vP h4.ts.ok).2;rw [← iB] at ho;exact ⟨pP,Z5,Z4,F2,d2,_,_,wv,_,_,by rw [iB];omega,by omega,uO Jm ho.ts.ok (by rw [iB];omega),ho⟩
theorem SE.asked{w:World}{i:Nat}(kind at' n:Int)(key value iV:ByteArray)(h:SE base A w0 w ob db i)(hi:i≤400)(dm:key.size≤140737488355328)(sO:n≤9223372036854775807):Calls prog 61 #[.pointer (some ⟨ob,0,none⟩),.agg #[.int .i64 kind,.int .i64 at',.int .i64 n,.string key,.string value,.string iV]] w fun e w'=>e = .returned (.bool true)∧SE base A w0 w' ob db i:=by
 obtain ⟨tb,fb,fg,F,d,r,T,wv,root,tx,h1,h2,h3,h4⟩:=h.out;have fin:∀ {w'},Os base A w0 w' ob db tb fb fg F d r T wv root tx (aC r)→SE base A w0 w' ob db i:=fun h=>⟨tb,fb,fg,F,d,r,T,wv,root,tx,h1,h2,h3,h⟩
 by_cases k3:kind=3
 ·subst k3;exact (Mm at' n key value iV h4 (by omega) dm).mono fun e w' ⟨he,ho,_⟩=>⟨he,fin ho⟩
 ·by_cases k4:kind=4
  ·subst k4;by_cases Pp:n<0
   ·exact (Ml at' n key value iV h4 (by omega) Pp).mono fun e w' ⟨he,ho,_⟩=>⟨he,fin ho⟩
   ·exact (Fc at' n key value iV h4 (by omega) (by omega) sO).mono fun e w' ⟨he,ho,_⟩=>⟨he,fin ho⟩
  ·by_cases k5:kind=5
   ·subst k5;exact (Ff at' n key value iV h4 (by omega)).mono fun e w' ⟨he,ho,_⟩=>⟨he,fin ho⟩
   ·exact (Fe kind at' n key value iV ⟨k3,k4,k5⟩ h4).mono fun e w' ⟨he,ho,_⟩=>⟨he,fin ho⟩
theorem SE.step{w:World}{i:Nat}(kind at' n:Int)(key value iV:ByteArray)(h:SE base A w0 w ob db i)(hi:i≤400)(dm:key.size≤140737488355328)(Eg:value.size≤140737488355328)(sO:n≤9223372036854775807):Calls prog 24 #[.pointer (some ⟨ob,0,none⟩),.agg #[.int .i64 kind,.int .i64 at',.int .i64 n,.string key,.string value,.string iV]] w fun e w'=>e = .returned (.bool true)∧SE base A w0 w' ob db (i+1):=by
 by_cases h12:kind=1∨kind=2
 ·obtain ⟨tb,fb,fg,F,d,r,T,wv,root,tx,h1,h2,h3,h4⟩:=h.out;refine (Oh kind at' n key value iV h12 h4 (by omega) dm Eg).mono fun e w' ⟨he,r',zV,hs,ho,_⟩=>⟨he,?_⟩
  have:=Kf hs h4.ts.ok;exact ⟨tb,fb,fg,F,d,r',T,zV,root,tx,by omega,by omega,h3,ho⟩
 ·have n1:(kind == 1)=false:=by rw [beq_eq_false_iff_ne];exact fun e=>h12 (.inl e)
  have n2:(kind == 2)=false:=by rw [beq_eq_false_iff_ne];exact fun e=>h12 (.inr e)
  have q0:=ai w (.cells #[.int .i64 kind,.int .i64 at',.int .i64 n,.string key,.string value,.string iV] 44);have x0:=B.ax.new w #[.int .i64 kind,.int .i64 at',.int .i64 n,.string key,.string value,.string iV] 44;have k0:=x0.cell 0 (by simp)
  have k1:=x0.cell 1 (by simp)
  have k2:=x0.cell 2 (by simp)
  have k3:=x0.cell 3 (by simp)
  have k4:=x0.cell 4 (by simp)
  have k5:=x0.cell 5 (by simp)
  simp only [bT,List.getElem_cons_zero,List.getElem_cons_succ] at k0 k1 k2 k3 k4 k5;have hb:=h.below q0;have gY:=ab (hb.store hi);have HRE:=ab (hb.Vp hi);have HAS:=ab (hb.asked kind at' n key value iV hi dm sO);clear h hb q0 x0 h12 dm Eg;by_cases h10:kind=10
  ·subst h10;go_enter func24,ntmps24;go_wp2_with fail;refine gY.out.mono ?_
   rintro e w1 ⟨rfl,h1⟩;go_wp2;go_ret;exact ⟨rfl,h1⟩
  ·by_cases h12:kind=12
   ·subst h12;go_enter func24,ntmps24;go_wp2_with fail;refine gY.out.mono ?_
    rintro e w1 ⟨rfl,h1⟩;go_wp2;go_ret;exact ⟨rfl,h1⟩
   ·by_cases h13:kind=13
    ·subst h13;go_enter func24,ntmps24;go_wp2_with fail;refine HRE.out.mono ?_
     rintro e w1 ⟨rfl,h1⟩;go_wp2;go_ret;exact ⟨rfl,h1⟩
    ·have n10:(kind == 10)=false:=by rw [beq_eq_false_iff_ne];exact h10
     have n12:(kind == 12)=false:=by rw [beq_eq_false_iff_ne];exact h12
     have n13:(kind == 13)=false:=by rw [beq_eq_false_iff_ne];exact h13
     clear h10 h12 h13;go_enter func24,ntmps24;go_wp2_with fail;refine HAS.out.mono ?_
     rintro e w1 ⟨rfl,h1⟩;go_wp2;go_ret;exact ⟨rfl,h1.mono (by omega)⟩
end
structure LS where
 kind:Int
 at':Int
 n:Int
 key:ByteArray
 value:ByteArray
 iV:ByteArray
def Ms(w:World)(v:Value)(l:List LS):Prop:=∃ a c,v = .slice a l.length c∧∀ j (h:j<l.length),∃ g o,a=some ⟨g,o,none⟩∧w.cell? ⟨g,o+j*6,none⟩=some (.int .i64 l[j].kind)∧w.cell? ⟨g,o+j*6+1,none⟩=some (.int .i64 l[j].at')∧w.cell? ⟨g,o+j*6+2,none⟩=some (.int .i64 l[j].n)∧w.cell? ⟨g,o+j*6+3,none⟩=some (.string l[j].key)∧w.cell? ⟨g,o+j*6+4,none⟩=some (.string l[j].value)∧w.cell? ⟨g,o+j*6+5,none⟩=some (.string l[j].iV)
theorem Ms.below{w w':World}{v:Value}{l:List LS}(h:Ms w v l)(hb:Below w.heap.size w w'):Ms w' v l:=by
 obtain ⟨a,c,hv,hc⟩:=h;refine ⟨a,c,hv,fun j hj=>?_⟩
 obtain ⟨g,o,ha,h0,h1,h2,h3,h4,h5⟩:=hc j hj;have f:∀ {m:Nat} {u:Value},w.cell? ⟨g,m,none⟩=some u→w'.cell? ⟨g,m,none⟩=some u:=fun {m u} hu=>(hb.cell (p:=⟨g,m,none⟩) (World.block_lt_of_cell? w _ hu)).trans hu
 exact ⟨g,o,ha,f h0,f h1,f h2,f h3,f h4,f h5⟩
end T
end Go.Proofs.YtihmgigfkmofnaaGreatDoor
