import Derived.Test.YtihmgigfkmofnaaGreatDoorG37
import Derived.Deep.CutRange
set_option maxHeartbeats 16000000
set_option maxRecDepth 100000
open Go.Proofs.Tryz
namespace Go.Proofs.YtihmgigfkmofnaaGreatDoor
namespace T
open Go.RowKit
section
variable {base:Nat} {A:Nat→Addr} {w0:World} {ob db tb fb fg:Nat} {F:Nat→Prop} {d:S.V.bq} {r:ch} {T:Nat→Bool} {wv:Value} {root tx:Nat} {l:List Pr}
theorem uH{w:World}(at' n:Int)(key value eW:ByteArray)(h:Os base A w0 w ob db tb fb fg F d r T wv root tx (aB r))(hn:(aB r).length≤1000000):Calls prog 61 #[.pointer (some ⟨ob,0,none⟩),.agg #[.int .i64 5,.int .i64 at',.int .i64 n,.string key,.string value,.string eW]] w fun e w'=>e = .returned (.bool true)∧Os base A w0 w' ob db tb fb fg F d r T wv root tx (aB r)∧Fr db tb ob w w':=by
 obtain ⟨row,bE⟩ : ∃ row:Array Value,row=#[.int .i64 5,.int .i64 at',.int .i64 n,.string key,.string value,.string eW]:=⟨_,rfl⟩;have h1:=h.box row;have tG:=ab (cV (db:=db) (tb:=tb) (ob:=ob) (ai w (.cells row 44)));rw [bE] at h1 tG;obtain ⟨W1,gF⟩ : ∃ W1,w.alloc (.cells #[.int .i64 5,.int .i64 at',.int .i64 n,.string key,.string value,.string eW] 44)=W1:=⟨_,rfl⟩;obtain ⟨XB,si⟩ : ∃ XB,XB=w.heap.size:=⟨_,rfl⟩;rw [gF,← si] at h1;rw [gF] at tG;rw [← bE] at h1;have HC:Hid (∀ W,zr base A w0 W ob db tb fb fg F d r T wv root tx (aB r) XB row→W.cell? ⟨ob,3,none⟩=some (.pointer (some ⟨tb,0,none⟩))∧W.cell? ⟨ob,4,none⟩=some wv∧W.cell? ⟨XB,0,none⟩=some (.int .i64 5)∧W.cell? ⟨XB,2,none⟩=some (.int .i64 n)∧W.cell? ⟨XB,3,none⟩=some (.string key)∧W.cell? ⟨XB,5,none⟩=some (.string eW)):=fun W hb=>by
  have hx:=hb.bx;rw [bE] at hx;refine ⟨hb.os.c.1,hb.os.c.2.1,?_,?_,?_,?_⟩
  ·have:=hx.cell 0 (by simp)
   simpa using this
  ·have:=hx.cell 2 (by simp)
   simpa using this
  ·have:=hx.cell 3 (by simp)
   simpa using this
  ·have:=hx.cell 5 (by simp)
   simpa using this
 obtain ⟨L,hL⟩ : ∃ L,L=rS (aB r) key:=⟨_,rfl⟩;obtain ⟨s1,kn⟩ : ∃ s1,s1=(il L).1:=⟨_,rfl⟩;obtain ⟨s2,jm⟩ : ∃ s2,s2=(il L).2:=⟨_,rfl⟩;obtain ⟨bb,BA⟩ : ∃ bb,bb=!L.isEmpty:=⟨_,rfl⟩;have PK:∀ k,F k→k<W1.heap.size:=fun k hk=>by
  obtain ⟨d',_,hd⟩:=h1.os.ts.dv.dev;exact hd.lt _ hk
 have Xu:=h1.os.new (aj W1.heap.size);have T3:Hid (∀ W,Below W1.heap.size W1 W→Calls prog 18 #[.pointer (some ⟨tb,0,none⟩),.string key] W fun e w'=>e = .returned (.tuple #[.agg #[.string s1,.string s2],.bool bb,.nilIface])∧Dv base A db F d w'∧Mv db F W w'):=fun W hW=>by
  have hb:=h1.below hW;rw [kn,jm,BA,hL];exact (EN key hb.os.ts (by omega))
 have HE1:Hid (∀ w2,Dv base A db F d w2→Mv db F (W1.alloc (.cells #[.string ⟨#[]⟩,.string ⟨#[]⟩] 52)).drew w2→B.au w2 W1.heap.size #[.string ⟨#[]⟩,.string ⟨#[]⟩] 52∧zr base A w0 w2 ob db tb fb fg F d r T wv root tx (aB r) XB row∧zr base A w0 ((w2.setCell ⟨W1.heap.size,0,none⟩ (.string s1)).setCell ⟨W1.heap.size,1,none⟩ (.string s2)) ob db tb fb fg F d r T wv root tx (aB r) XB row∧Fr db tb ob W1 ((w2.setCell ⟨W1.heap.size,0,none⟩ (.string s1)).setCell ⟨W1.heap.size,1,none⟩ (.string s2))∧B.au ((w2.setCell ⟨W1.heap.size,0,none⟩ (.string s1)).setCell ⟨W1.heap.size,1,none⟩ (.string s2)) W1.heap.size #[.string s1,.string s2] 52):=fun w2 hv hm=>by
  have aL:Below W1.heap.size W1 (W1.alloc (.cells #[.string ⟨#[]⟩,.string ⟨#[]⟩] 52)).drew:=B.aO (ai W1 _);have fK:Mv db F W1 w2:=(Mv.of aL).trans hm;have xp:B.au w2 W1.heap.size #[.string ⟨#[]⟩,.string ⟨#[]⟩] 52:=(hm.step.block W1.heap.size (by simp [World.drew]) Xu.1).trans (B.au.new W1 #[.string ⟨#[]⟩,.string ⟨#[]⟩] 52)
  obtain ⟨yw,yx⟩:=EL h1.os.env.size (aj _) PK fK hv (.string s1) (.string s2);exact ⟨xp,h1.fr (h1.os.mv hv fK) (rM fK),h1.fr (h1.os.mv yw yx) (rM yx),rM yx,xp.two _ _⟩
 have Ve:Hid (∀ w1 w2,Below W1.heap.size W1 w1→Dv base A db F d w2→Mv db F w1 w2→zr base A w0 w2 ob db tb fb fg F d r T wv root tx (aB r) XB row∧zr base A w0 (w2.alloc (.cells #[.string s1,.string s2] 52)) ob db tb fb fg F d r T wv root tx (aB r) XB row∧Fr db tb ob W1 (w2.alloc (.cells #[.string s1,.string s2] 52))∧B.au (w2.alloc (.cells #[.string s1,.string s2] 52)) w2.heap.size #[.string s1,.string s2] 52):=fun w1 w2 aL hv hm=>by
  have fK:Mv db F W1 w2:=(Mv.of aL).trans hm;have mU:=h1.fr (h1.os.mv hv fK) (rM fK);have hba:=ai w2 (.cells #[.string s1,.string s2] 52);exact ⟨mU,mU.below hba,(rM fK).trans (cV hba),B.au.new w2 _ _⟩
 clear PK Xu;have yo:Hid (∀ W,zr base A w0 W ob db tb fb fg F d r T wv root tx (aB r) XB row→∀ W2,Below W.heap.size W W2→Calls prog 28 #[wv,.string key] W2 fun e w'=>e = .returned (.tuple #[.int .i64 (aN (aB r) key:Int),.bool (bf (aB r) key)])∧Below W.heap.size W w'):=fun W hb W2 hW=>(lZ wv (aB r) key W2 (by omega) (hb.below hW).os.want.at).mono fun e w' ⟨he,k,hk⟩=>⟨he,by rw [hk];exact Below.next hW (aA (Below.refl _ _) k)⟩
 obtain ⟨q3,q4,x0,x2,x3,x5⟩:=HC.out W1 h1;obtain ⟨wa,wn,wc,Fb⟩:=et h.want;have HN:=ab hn;have EY:Hid (wn=(aB r).length):=by
  obtain ⟨a,c,e2⟩:=h.want.form;rw [Fb] at e2;cases e2;rfl
 subst Fb;have zl:=ab gF;have QH:=ab si;have lU:=ab hL;have lT:=ab kn;have ll:=ab jm;have mJ:=ab BA;clear h h1 hn bE gF hL kn jm BA;by_cases hk:key=⟨#[]⟩
 focus
  have K6:=Il hk;by_cases h0:wn=0
  focus
   have Ee:aB r=[]:=List.length_eq_zero_iff.1 (by have:=EY.out;omega)
   have Jv:Hid (s1=⟨#[]⟩∧s2=⟨#[]⟩∧bb=false):=by
    have MM:L=[]:=by rw [lU.out];unfold rS;rw [if_pos hk];exact Ee
    rw [lT.out,ll.out,mJ.out,MM];exact ⟨rfl,rfl,rfl⟩
   have hz:((wn:Int) == 0)=true:=by rw [beq_iff_eq];omega
   clear hk Ee h0
  rotate_left;focus
   obtain ⟨J,hJ⟩ : ∃ J,wn=J+1:=⟨wn - 1,by omega⟩
   have HJ:Hid (J<(aB r).length∧J+1=wn):=⟨by have:=EY.out;omega,hJ.symm⟩
   have Jv:Hid (s1=((aB r)[J]'HJ.out.1).1∧s2=((aB r)[J]'HJ.out.1).2∧bb=true):=by
    have MM:L=(aB r).take (J+1):=by rw [lU.out];unfold rS;rw [if_pos hk,al (by have:=HJ.out.2;have:=EY.out;omega)]
    have B7:il L=(aB r)[J]'HJ.out.1:=by
     rw [MM,oY (j:=J) (by rw [ag];have:=HJ.out.1;omega),bK]
    rw [lT.out,ll.out,mJ.out,B7];refine ⟨rfl,rfl,?_⟩;rw [MM];cases hx:(aB r).take (J+1) with
    | nil =>
     have:=congrArg List.length hx;rw [ag,List.length_nil] at this;have:=HJ.out.1;omega
    | cons _ _=>rfl
   have rG:IntKind.i64.wrap ((wn:Int) - 1)=(J:Int):=by rw [IntKind.wrap_i64];have:=EY.out;have:=HN.out;omega
   have hz:((wn:Int) == 0)=false:=by rw [beq_eq_false_iff_ne];omega
   clear hk h0 hJ
 rotate_left 2
 focus
  obtain ⟨K6,aie⟩:=Cr hk;have ZG:=cD (aB r) key;by_cases h0:aN (aB r) key=0
  focus
   have Jv:Hid (s1=⟨#[]⟩∧s2=⟨#[]⟩∧bb=false):=by
    have MM:L=[]:=by rw [lU.out];unfold rS;rw [if_neg hk,h0];rfl
    rw [lT.out,ll.out,mJ.out,MM];exact ⟨rfl,rfl,rfl⟩
   rw [h0] at yo;clear hk h0 ZG
  rotate_left;focus
   obtain ⟨J,hJ⟩ : ∃ J,aN (aB r) key=J+1:=⟨aN (aB r) key - 1,by omega⟩
   have HJ:Hid (J<(aB r).length∧J+1=aN (aB r) key):=⟨by omega,hJ.symm⟩
   have Jv:Hid (s1=((aB r)[J]'HJ.out.1).1∧s2=((aB r)[J]'HJ.out.1).2∧bb=true):=by
    have MM:L=(aB r).take (J+1):=by rw [lU.out];unfold rS;rw [if_neg hk,HJ.out.2]
    have B7:il L=(aB r)[J]'HJ.out.1:=by
     rw [MM,oY (j:=J) (by rw [ag];have:=HJ.out.1;omega),bK]
    rw [lT.out,ll.out,mJ.out,B7];refine ⟨rfl,rfl,?_⟩;rw [MM];cases hx:(aB r).take (J+1) with
    | nil =>
     have:=congrArg List.length hx;rw [ag,List.length_nil] at this;have:=HJ.out.1;omega
    | cons _ _=>rfl
   have rG:IntKind.i64.wrap (((J+1:Nat):Int) - 1)=(J:Int):=by rw [IntKind.wrap_i64];have:=HJ.out.1;have:=HN.out;omega
   have hz:(((J+1:Nat):Int) == 0)=false:=by rw [beq_eq_false_iff_ne];omega
   simp only [hJ] at yo;clear hk h0 hJ ZG
 all_goals
  go_enter func61,ntmps61;go_wp2_with fail;rw [zl.out,← si];clear si;go_wp2_with fail;go_region_held3 (fun w'=>w'.cell? ⟨ob,3,none⟩=some (.pointer (some ⟨tb,0,none⟩))∧w'.cell? ⟨XB,3,none⟩=some (.string key)) (go_keep)
   (first | (go_at_call 18;refine (T3.out _ ?_).mono ?_;exact B.aO (ai _ _);rintro e w2 ⟨rfl,km,lq⟩;obtain ⟨xp,aU,bT,ZI,uO⟩:=HE1.out w2 km lq;have z0:=xp.c0;have z1:=xp.c1;have y0:=xp.free 0;have y1:=xp.free 1;have ae7:Hid (w2=w2):=rfl;have eG:=ab bT;have XR:=ab ZI;have yA:=ab uO;obtain ⟨n3,n4,m0,m2,m3,m5⟩:=HC.out w2 aU;obtain ⟨g3,g4,-,-,gx3,-⟩:=HC.out _ bT;have c0:=uO.c0;have c1:=uO.c1;clear aU bT ZI uO xp km lq) | (go_at_call 18;refine (T3.out _ ?_).mono ?_;(first | exact (Below.refl _ _).drew | exact aA (Below.refl _ _) _ | exact Below.refl _ _);rintro e w2 ⟨rfl,km,lq⟩;obtain ⟨aU,bT,ZI,uO⟩:=Ve.out _ w2 (by first | exact (Below.refl _ _).drew | exact aA (Below.refl _ _) _ | exact Below.refl _ _) km lq;have ae6:Hid (w2=w2):=rfl;have eG:=ab bT;have XR:=ab ZI;have yA:=ab uO;obtain ⟨n3,n4,m0,m2,m3,m5⟩:=HC.out w2 aU;obtain ⟨g3,g4,-,-,gx3,-⟩:=HC.out _ bT;have c0:=uO.c0;have c1:=uO.c1;clear aU bT ZI uO km lq))
  all_goals
   clear q3 q4 x0 x2 x3 x5 T3 HE1 Ve n3 n4 m0 m2 m3 m5
   (try clear z0 z1 y0 y1)
   go_wp2_with fail
   first
   | (clear ae6
      generalize MJ:w2.alloc (.cells #[.string s1,.string s2] 52)=w3 at *;generalize hPB:w2.heap.size=PB at *)
   | (clear ae7
      generalize MJ:(w2.setCell ⟨W1.heap.size,0,none⟩ (.string s1)).setCell ⟨W1.heap.size,1,none⟩ (.string s2)=w3 at *;generalize hPB:W1.heap.size=PB at *)
   clear MJ hPB;have rW:=ab (yo.out w3 eG.out);have aat:Hid (∀ W,Below w3.heap.size w3 W→B.au W PB #[.string s1,.string s2] 52):=fun W hW=>yA.out.below hW
   clear yo;go_region_held3 (fun w'=>w'.cell? ⟨ob,4,none⟩=some (.slice wa wn wc)∧w'.cell? ⟨XB,3,none⟩=some (.string key)∧w'.cell? ⟨PB,0,none⟩=some (.string s1)∧w'.cell? ⟨PB,1,none⟩=some (.string s2)) (go_keep)
    (first | (go_at_call 28;refine (rW.out _ ?_).mono ?_;(first | exact (Below.refl _ _).drew | exact aA (Below.refl _ _) _ | exact Below.refl _ _);rintro e w4 ⟨rfl,gj⟩;have iU:=ab (eG.out.below gj);have HF4:=ab (XR.out.trans (cV gj));obtain ⟨i3,i4,-,-,i5,-⟩:=HC.out w4 iU.out;have j0:=(aat.out w4 gj).c0;have j1:=(aat.out w4 gj).c1;clear gj))
   all_goals
    clear g3 g4 gx3 c0 c1 rW i3;have b8:Hid (∀ k,Os base A w0 (w4.drewN k) ob db tb fb fg F d r T (.slice wa wn wc) root tx (aB r)∧Fr db tb ob w (w4.drewN k)):=fun k=>⟨(iU.out.below (aA (Below.refl _ _) k)).os,tG.out.trans (HF4.out.trans (cV (aA (Below.refl _ _) k)))⟩
    obtain ⟨_,_,Yv,_,_,bh⟩:=iU.out.os.want.at;simp only [Value.slice.injEq] at Yv;obtain ⟨rfl,-,rfl⟩:=Yv
    first
    | (obtain ⟨g,o,yY,e0,e1⟩:=bh J HJ.out.1
       subst yY;rw [← Jv.out.1] at e0;rw [← Jv.out.2.1] at e1;have ZW:=Jv.out.2.2;subst ZW;have f0:(0:Int)≤(J:Int):=by omega
       have f1:(J:Int)<(wn:Int):=by have:=HJ.out.1;have:=EY.out;omega
       have f2:(wn:Int)≤1000000:=by have:=HN.out;have:=EY.out;omega
       clear bh)
    | (rw [Jv.out.1] at j0;rw [Jv.out.2.1] at j1;have ZW:=Jv.out.2.2;subst ZW;clear bh)
    go_wp2
    (try go_quiet (fail))
    (try go_wp2)
    go_ret
    first | exact ⟨rfl,b8.out _⟩ | exact ⟨rfl,iU.out.os,tG.out.trans HF4.out⟩
end
structure AQ(w w':World):Prop where
 size:w.heap.size≤w'.heap.size
 block:∀ k,k<w.heap.size→w'.heap[k]?=w.heap[k]?∨QF w k∨∃ q rv,B.au w k #[.pointer q,rv] 100∧(rv = .nilIface∨∃ t x,rv = .iface t x)
theorem AQ.str{w w':World}(h:AQ w w'){g o:Nat}{s:ByteArray}(hc:w.cell? ⟨g,o,none⟩=some (.string s)):w'.heap[g]?=w.heap[g]?:=by
 rcases h.block g (World.block_lt_of_cell? w _ hc) with e | e | ⟨q,rv,hr,hv⟩
 ·exact e
 ·exact absurd rfl ((e.1 o _ hc).1 s)
 ·rcases kJ hr hc with ⟨_,e⟩ | ⟨_,e⟩
  ·cases e
  ·rcases hv with rfl | ⟨t,x,rfl⟩ <;> cases e
theorem dH.rT{w w':World}(h:AQ w w'){b:Nat}{n:SN}{pv lv cv:Value}(hs:dH w b n pv lv cv)(hu:n.us.length=0∨2≤n.us.length):dH w' b n pv lv cv:=by
 refine ⟨?_,?_,?_,?_,hs.fine⟩
 ·rcases h.block b hs.row.lt with e | e | ⟨q,rv,hr,hv⟩
  ·exact e.trans hs.row
  ·exact absurd hs.row (e.2.1 _ _)
  ·have h1:=hs.row;unfold B.au at h1 hr;rw [hr] at h1;simp at h1
 ·obtain ⟨a,cap,hv,hle,hn,hc⟩:=hs.iy;refine ⟨a,cap,hv,hle,hn,fun j hj=>?_⟩
  obtain ⟨g,o,ha,h1,h2⟩:=hc j hj;have hg:=h.str h1;exact ⟨g,o,ha,bB hg h1,bB hg h2⟩
 ·obtain ⟨a,cap,hv,hle,hn,hc⟩:=hs.a8;refine ⟨a,cap,hv,hle,hn,fun j hj=>?_⟩
  obtain ⟨g,o,ha,h1,h2⟩:=hc j hj;have hg:=h.str h1;exact ⟨g,o,ha,bB hg h1,bB hg h2⟩
 ·obtain ⟨a,cap,hv,hle,hn,hc⟩:=hs.kids;refine ⟨a,cap,hv,hle,hn,fun j v hj=>?_⟩
  have Zz:j<n.us.length:=by
   have:=(List.getElem?_eq_some_iff.1 hj).1;rw [C.aS] at this;omega
  have h2:2≤n.us.length:=hu.resolve_left (by omega)
  obtain ⟨g,o,ha,h1⟩:=hc j v hj;obtain ⟨g0,o0,Z4,c0⟩:=hc 0 _ (C.fw n.us 0 (by omega))
  obtain ⟨g1,o1,Z3,c1⟩:=hc 1 _ (C.fw n.us 1 (by omega))
  rw [ha] at Z4 Z3;cases Z4;cases Z3;obtain ⟨t,x,e0⟩:=bM (n.us[0]'(by omega))
  rw [e0] at c0;have hg:w'.heap[g]?=w.heap[g]?:=by
   rcases h.block g (World.block_lt_of_cell? w _ h1) with e | e | ⟨q,rv,hr,hv⟩
   ·exact e
   ·exact absurd rfl ((e.1 _ _ c0).2 t x)
   ·have k0:=kJ hr c0;have k1:=kJ hr c1;rcases k0 with ⟨_,e⟩ | ⟨k0,_⟩
    ·cases e
    ·rcases k1 with ⟨k1,_⟩ | ⟨k1,_⟩ <;> omega
  exact ⟨g,o,ha,bB hg h1⟩
section
variable {PG:Int→Option PD} {w w':World}
theorem aT.rT(ha:AQ w w'):∀ (h:Nat) {n:SN} {t:Nd h},aT PG w h n t→jl ⟨h,t⟩→aT PG w' h n t
 | 0,_,_,hn,_=>hn
 | h+1,n,t,hn,hg=>⟨hn.1,hn.2.1,hn.2.2.1,hn.2.2.2.1,fun i p c h1 h2=>by
  have hk:=hn.2.2.2.2 i p c h1 h2;have UG:=kX hg h2;cases p with
  | pg id=>exact hk
  | nd b =>
   obtain ⟨h0,m,pv,lv,cv,hs,hm⟩:=hk;exact ⟨h0,m,pv,lv,cv,hs.rT ha (iD (x:=⟨h,c⟩) hm UG).kids,aT.rT ha h hm UG⟩⟩
theorem ez.rT(ha:AQ w w'){v:Value}{r:ch}(hr:ez PG w v r)(cN:eP r):ez PG w' v r:=by
 rcases hr with h | ⟨p,h,t,e1,rfl,hk⟩
 ·exact .inl h
 ·refine .inr ⟨p,h,t,e1,rfl,?_⟩;have hg:=iL cN;cases p with
  | pg id=>exact hk
  | nd b =>
   obtain ⟨h0,m,pv,lv,cv,hs,hm⟩:=hk;exact ⟨h0,m,pv,lv,cv,hs.rT ha (iD (x:=⟨h,t⟩) hm hg).kids,hm.rT ha h hg⟩
end
section
variable {base:Nat} {A:Nat→Addr} {w0:World} {ob db tb fb fg:Nat} {F:Nat→Prop} {d:S.V.bq} {r:ch} {T:Nat→Bool} {wv:Value} {root tx:Nat} {l:List Pr}
theorem Tn{w:World}(hv:Dv base A db F d w):QF w db:=by
 obtain ⟨d',_,hd⟩:=hv.dev;refine ⟨fun j v hc=>jF hd hc,?_,?_⟩
 ·intro cs fr h1;obtain ⟨mb,nb,FX,av,Dn,hb⟩:=hd;rw [hb.dr] at h1;simp at h1
 ·intro cs fr h1;obtain ⟨mb,nb,FX,av,Dn,hb⟩:=hd;rw [hb.dr] at h1;simp at h1
theorem Os.rT{w w':World}(h:Os base A w0 w ob db tb fb fg F d r T wv root tx l)(hf:Fr db tb ob w w'):AQ w w':=⟨hf.1,fun k hk=>by
 by_cases h1:k=db
 ·exact .inr (.inl (h1▸Tn h.ts.dv))
 by_cases h2:k=tb
 ·obtain ⟨rv,t1,t2⟩:=h.ts.tr;exact .inr (.inr ⟨_,rv,h2▸t1,t2.form⟩)
 by_cases h3:k=ob
 ·exact .inr (.inl (h3▸Bd h.row (et h.want)))
 exact .inl (hf.2 k hk h1 h2 h3)⟩
theorem Ii{w:World}{b:Nat}{v:Value}{cs:Array Value}{k:Nat}{t:TypeId}(h:ij w base v l)(hk:v.ownBlock=some k)(hr:B.au w b cs t)(ht:t≠52):k≠b:=by
 rcases h.2 with ⟨h',_⟩ | ⟨g,cap,cur,h',_,h2,_⟩
 ·rw [h'] at hk;simp [Value.ownBlock] at hk
 ·rw [h'] at hk;simp only [Value.ownBlock,Option.some.injEq] at hk;subst hk;intro e;subst e;unfold B.au at hr;rw [hr] at h2;simp at h2
  exact ht h2.2
theorem Os.other{w w':World}{Yj nD:Nat}{r1 r2:ch}{wv1 wv2:Value}{Ye tx1 ed nS:Nat}{l1 l2:List Pr}(h:Os base A w0 w ob db tb fb fg F d r T wv root tx l)(h':Os base A w0 w' ob db tb fb fg F d r1 T wv1 Ye tx1 l1)(hf:Fr db tb ob w w')(ho:Yj≠ob)(ht:nD≠tb)(h2:Os base A w0 w Yj db nD fb fg F d r2 T wv2 ed nS l2):Os base A w0 w' Yj db nD fb fg F d r2 T wv2 ed nS l2:=by
 obtain ⟨rv,t1,t2⟩:=h.ts.tr;obtain ⟨rv2,u1,u2⟩:=h2.ts.tr;have Y2:Yj≠tb:=fun e=>by
  have e1:=h2.row;rw [e] at e1;unfold B.au at e1 t1;rw [t1] at e1;simp at e1
 have Uo:nD≠ob:=fun e=>by
  have e1:=h.row;rw [← e] at e1;unfold B.au at e1 u1;rw [u1] at e1;simp at e1
 have hb:∀ k,k<w.heap.size→¬ F k→k≠tb→k≠ob→w'.heap[k]?=w.heap[k]?:=fun k hk a b c=>hf.2 k hk (fun e=>a (e▸h.ts.dv.own)) b c
 have m:=h2.mp;refine ⟨(hb Yj h2.row.lt h2.ap.2.1 Y2 ho).trans h2.row,⟨h'.ts.dv,⟨rv2,(hb nD u1.lt h2.ts.lo.2 ht Uo).trans u1,u2.rT (h.rT hf) h2.ts.ok⟩,h2.ts.ok,S.V.Step.refl _ _,h2.ts.lo⟩,⟨iP m.map (hb _ m.map.Q3 m.nf.2 h.mp.nt.2 h.ap.2.2.2.1.symm) (hb _ m.map.Q2 m.nf.1 h.mp.nt.1 h.ap.2.2.2.2.symm),m.ok,m.lo,m.nf,m.nt⟩,h'.env,h2.want.same fun k hk=>hb k (h2.want.dr k hk).2 (h2.wn k hk).1 (Ii h2.want hk t1 (by decide)) (Ii h2.want hk h.row (by decide)),h2.nd,h2.pt,h2.pr,h2.kG,h'.ew,h2.ap,h2.wn⟩
end
section
variable {base:Nat} {A:Nat→Addr} {w0:World} {ob db tb fb fg:Nat} {F:Nat→Prop} {d:S.V.bq} {r:ch} {T:Nat→Bool} {wv:Value} {root tx:Nat}
theorem Kv{w:World}(kind at' n:Int)(key value eW:ByteArray)(h4:Os base A w0 w ob db tb fb fg F d r T wv root tx (aB r))(hl:(aB r).length≤1000)(cL:key.size≤140737488355328)(nL:n≤9223372036854775807):Calls prog 61 #[.pointer (some ⟨ob,0,none⟩),.agg #[.int .i64 kind,.int .i64 at',.int .i64 n,.string key,.string value,.string eW]] w fun e w'=>e = .returned (.bool true)∧Os base A w0 w' ob db tb fb fg F d r T wv root tx (aB r)∧Fr db tb ob w w':=by
 by_cases k3:kind=3
 ·subst k3;exact AL at' n key value eW h4 (by omega) cL
 ·by_cases k4:kind=4
  ·subst k4;by_cases GO:n<0
   ·exact AK at' n key value eW h4 (by omega) GO
   ·exact uF at' n key value eW h4 (by omega) (by omega) nL
  ·by_cases k5:kind=5
   ·subst k5;exact uH at' n key value eW h4 (by omega)
   ·exact uG kind at' n key value eW ⟨k3,k4,k5⟩ h4
theorem Dd{w:World}(kind at' n:Int)(key value eW:ByteArray)(h:Os base A w0 w ob db tb fb fg F d r T wv root tx (aB r))(hk:¬ (kind=10∨kind=12∨kind=13))(hl:(aB r).length≤1000)(cL:key.size≤140737488355328)(se:value.size≤140737488355328)(nL:n≤9223372036854775807):Calls prog 24 #[.pointer (some ⟨ob,0,none⟩),.agg #[.int .i64 kind,.int .i64 at',.int .i64 n,.string key,.string value,.string eW]] w fun e w'=>e = .returned (.bool true)∧∃ r' nj,(aB r').length≤(aB r).length+1∧Os base A w0 w' ob db tb fb fg F d r' T nj root tx (aB r')∧Fr db tb ob w w':=by
 by_cases h12:kind=1∨kind=2
 ·exact (Dc kind at' n key value eW h12 h (by omega) cL se).mono fun e w' ⟨he,r',nj,hs,ho,hf⟩=>⟨he,r',nj,sH hs h.ts.ok,ho,hf⟩
 ·have n1:(kind == 1)=false:=by rw [beq_eq_false_iff_ne];exact fun e=>h12 (.inl e)
  have n2:(kind == 2)=false:=by rw [beq_eq_false_iff_ne];exact fun e=>h12 (.inr e)
  have n10:(kind == 10)=false:=by rw [beq_eq_false_iff_ne];exact fun e=>hk (.inl e)
  have n12:(kind == 12)=false:=by rw [beq_eq_false_iff_ne];exact fun e=>hk (.inr (.inl e))
  have n13:(kind == 13)=false:=by rw [beq_eq_false_iff_ne];exact fun e=>hk (.inr (.inr e))
  have q0:=ai w (.cells #[.int .i64 kind,.int .i64 at',.int .i64 n,.string key,.string value,.string eW] 44);have x0:=B.au.new w #[.int .i64 kind,.int .i64 at',.int .i64 n,.string key,.string value,.string eW] 44;have k0:=x0.cell 0 (by simp)
  have k1:=x0.cell 1 (by simp)
  have k2:=x0.cell 2 (by simp)
  have k3:=x0.cell 3 (by simp)
  have k4:=x0.cell 4 (by simp)
  have k5:=x0.cell 5 (by simp)
  simp only [bQ,List.getElem_cons_zero,List.getElem_cons_succ] at k0 k1 k2 k3 k4 k5;have HAS:=ab (Kv kind at' n key value eW (h.below q0) hl cL nL);have tG:=ab (cV (db:=db) (tb:=tb) (ob:=ob) q0);clear h q0 x0 h12 cL se hk hl;go_enter func24,ntmps24;go_wp2_with fail;refine HAS.out.mono ?_
  rintro e w1 ⟨rfl,h1,hf1⟩;have HR:Hid (∃ r' nj,(aB r').length≤(aB r).length+1∧Os base A w0 w1 ob db tb fb fg F d r' T nj root tx (aB r')∧Fr db tb ob w w1):=⟨r,wv,Nat.le_succ _,h1,tG.out.trans hf1⟩;clear h1 hf1 tG HAS;go_wp2;go_ret;exact ⟨rfl,HR.out⟩
theorem Ku{w:World}(kind at' n:Int)(key value eW:ByteArray)(h:Os base A w0 w ob db tb fb fg F d r T wv root tx (aB r))(hl:(aB r).length≤1000)(cL:key.size≤140737488355328)(se:value.size≤140737488355328)(nL:n≤9223372036854775807):Calls prog 32 #[.pointer (some ⟨ob,0,none⟩),.agg #[.int .i64 kind,.int .i64 at',.int .i64 n,.string key,.string value,.string eW]] w fun e w'=>e = .returned (.bool true)∧∃ r' nj,(aB r').length≤(aB r).length+1∧Os base A w0 w' ob db tb fb fg F d r' T nj root tx (aB r')∧Fr db tb ob w w':=by
 have q0:=ai w (.cells #[.int .i64 kind,.int .i64 at',.int .i64 n,.string key,.string value,.string eW] 44);have x0:=B.au.new w #[.int .i64 kind,.int .i64 at',.int .i64 n,.string key,.string value,.string eW] 44;have k0:=x0.cell 0 (by simp)
 have k1:=x0.cell 1 (by simp)
 have k2:=x0.cell 2 (by simp)
 have k3:=x0.cell 3 (by simp)
 have k4:=x0.cell 4 (by simp)
 have k5:=x0.cell 5 (by simp)
 simp only [bQ,List.getElem_cons_zero,List.getElem_cons_succ] at k0 k1 k2 k3 k4 k5;have hb:=h.below q0;have Ee:=cV (db:=db) (tb:=tb) (ob:=ob) q0;by_cases h10:kind=10∨kind=12∨kind=13
 ·have HR:Hid (∃ r' nj,(aB r').length≤(aB r).length+1∧Os base A w0 (w.alloc (.cells #[.int .i64 kind,.int .i64 at',.int .i64 n,.string key,.string value,.string eW] 44)) ob db tb fb fg F d r' T nj root tx (aB r')∧Fr db tb ob w (w.alloc (.cells #[.int .i64 kind,.int .i64 at',.int .i64 n,.string key,.string value,.string eW] 44))):=⟨r,wv,Nat.le_succ _,hb,Ee⟩;clear h hb q0 x0 cL se hl Ee;rcases h10 with rfl | rfl | rfl
  all_goals
   go_enter func32,ntmps32;go_wp2;go_ret;exact ⟨rfl,HR.out⟩
 ·have n10:(kind == 10)=false:=by rw [beq_eq_false_iff_ne];exact fun e=>h10 (.inl e)
  have n12:(kind == 12)=false:=by rw [beq_eq_false_iff_ne];exact fun e=>h10 (.inr (.inl e))
  have n13:(kind == 13)=false:=by rw [beq_eq_false_iff_ne];exact fun e=>h10 (.inr (.inr e))
  have HS:=ab (Dd kind at' n key value eW hb h10 hl cL se nL);have tG:=ab Ee;clear h hb q0 x0 h10 cL se hl Ee;go_enter func32,ntmps32;go_wp2_with fail;refine HS.out.mono ?_
  rintro e w1 ⟨rfl,r',nj,h1,h2,h3⟩;have HR:Hid (∃ r' nj,(aB r').length≤(aB r).length+1∧Os base A w0 w1 ob db tb fb fg F d r' T nj root tx (aB r')∧Fr db tb ob w w1):=⟨r',nj,h1,h2,tG.out.trans h3⟩;clear h1 h2 h3 tG HS;go_wp2;go_ret;exact ⟨rfl,HR.out⟩
end
theorem Qb{w:World}{tb:Nat}{q:Option Addr}{rv:Value}(ht:B.au w tb #[.pointer q,rv] 100)(xC:rv = .nilIface∨∃ t x,rv = .iface t x):Calls prog 21 #[.pointer (some ⟨tb,0,none⟩)] w fun e w'=>∃ tb',e = .returned (.pointer (some ⟨tb',0,none⟩))∧w.heap.size≤tb'∧B.au w' tb' #[.pointer q,rv] 100∧Below w.heap.size w w':=by
 have c0:=ht.c0;have c1:=ht.c1;have HN:Hid (∀ k,w.heap.size≤w.heap.size∧B.au ((w.drewN k).alloc (.cells #[.pointer q,rv] 100)) w.heap.size #[.pointer q,rv] 100∧Below w.heap.size w ((w.drewN k).alloc (.cells #[.pointer q,rv] 100))):=fun k=>by
  have hd:Below w.heap.size w (w.drewN k):=aA (Below.refl _ _) k;exact ⟨aj _,B.au.new (w.drewN k) #[.pointer q,rv] 100,Below.next hd (ai (w.drewN k) (.cells #[.pointer q,rv] 100))⟩
 clear ht;rcases xC with rfl | ⟨t,x,rfl⟩
 all_goals
  go_enter func21,ntmps21;go_wp2_with fail;go_region
  all_goals
   go_wp2;go_ret;exact ⟨_,rfl,HN.out _⟩
structure Du(base:Nat)(A:Nat→Addr)(w0 w:World)(ob oc db tb tc fb fg:Nat)(F:Nat→Prop)(d:S.V.bq)(r s:ch)(T:Nat→Bool)(wv wu:Value)(root tx ed nS:Nat):Prop where
 o1:Os base A w0 w ob db tb fb fg F d r T wv root tx (aB r)
 o2:Os base A w0 w oc db tc fb fg F d s T wu ed nS (aB s)
 ne:ob≠oc∧tb≠tc
structure Dx(base:Nat)(A:Nat→Addr)(w0 w:World)(ob oc db i:Nat):Prop where
 out:∃ (tb tc fb fg:Nat) (F:Nat→Prop) (d:S.V.bq) (r s:ch) (T:Nat→Bool) (wv wu:Value) (root tx ed nS:Nat),(aB r).length≤i∧(aB s).length≤i∧Du base A w0 w ob oc db tb tc fb fg F d r s T wv wu root tx ed nS
section
variable {base:Nat} {A:Nat→Addr} {w0:World} {ob oc db tb tc fb fg:Nat} {F:Nat→Prop} {d:S.V.bq} {r s:ch} {T:Nat→Bool} {wv wu:Value} {root tx ed nS:Nat}
theorem Du.swap{w:World}(h:Du base A w0 w ob oc db tb tc fb fg F d r s T wv wu root tx ed nS):Du base A w0 w oc ob db tc tb fb fg F d s r T wu wv ed nS root tx:=⟨h.o2,h.o1,h.ne.1.symm,h.ne.2.symm⟩
theorem Du.below{w w1:World}(h:Du base A w0 w ob oc db tb tc fb fg F d r s T wv wu root tx ed nS)(hb:Below w.heap.size w w1):Du base A w0 w1 ob oc db tb tc fb fg F d r s T wv wu root tx ed nS:=⟨h.o1.below hb,h.o2.below hb,h.ne⟩
theorem Du.has{w:World}(h:Du base A w0 w ob oc db tb tc fb fg F d r s T wv wu root tx ed nS)(hn:(aB r).length≤1000):Calls prog 23 #[.pointer (some ⟨tb,0,none⟩),wv] w fun e w'=>e = .returned (.bool true)∧Du base A w0 w' ob oc db tb tc fb fg F d r s T wv wu root tx ed nS :=
 (Sj h.o1 (by omega) (.inl ⟨rfl,rfl⟩)).mono fun _ _ ⟨h1,h2,h3⟩=>⟨h1,h2,h.o1.other h2 h3 h.ne.1.symm h.ne.2.symm h.o2,h.ne⟩
theorem Dx.swap{w:World}{i:Nat}(h:Dx base A w0 w ob oc db i):Dx base A w0 w oc ob db i:=by
 obtain ⟨tb,tc,fb,fg,F,d,r,s,T,wv,wu,root,tx,ed,nS,h1,h2,h3⟩:=h.out;exact ⟨tc,tb,fb,fg,F,d,s,r,T,wu,wv,ed,nS,root,tx,h2,h1,h3.swap⟩
theorem Dx.mono{w:World}{i j:Nat}(h:Dx base A w0 w ob oc db i)(Ro:i≤j):Dx base A w0 w ob oc db j:=by
 obtain ⟨tb,tc,fb,fg,F,d,r,s,T,wv,wu,root,tx,ed,nS,h1,h2,h3⟩:=h.out;exact ⟨tb,tc,fb,fg,F,d,r,s,T,wv,wu,root,tx,ed,nS,by omega,by omega,h3⟩
theorem Dx.ew{w:World}{i:Nat}(h:Dx base A w0 w ob oc db i):Below base w0 w:=by
 obtain ⟨tb,tc,fb,fg,F,d,r,s,T,wv,wu,root,tx,ed,nS,h1,h2,h3⟩:=h.out;exact h3.o1.ew
theorem Dx.Uh{w:World}{i:Nat}(kind at' n:Int)(key value eW:ByteArray)(h:Dx base A w0 w ob oc db i)(hi:i≤990)(cL:key.size≤140737488355328)(se:value.size≤140737488355328)(nL:n≤9223372036854775807):Calls prog 32 #[.pointer (some ⟨ob,0,none⟩),.agg #[.int .i64 kind,.int .i64 at',.int .i64 n,.string key,.string value,.string eW]] w fun e w'=>e = .returned (.bool true)∧Dx base A w0 w' ob oc db (i+1):=by
 obtain ⟨tb,tc,fb,fg,F,d,r,s,T,wv,wu,root,tx,ed,nS,h1,h2,h3⟩:=h.out;refine (Ku kind at' n key value eW h3.o1 (by omega) cL se nL).mono fun e w' ⟨he,r',nj,hs,ho,hf⟩=>⟨he,?_⟩
 exact ⟨tb,tc,fb,fg,F,d,r',s,T,nj,wu,root,tx,ed,nS,by omega,by omega,ho,h3.o1.other ho hf h3.ne.1.symm h3.ne.2.symm h3.o2,h3.ne⟩
theorem Os.copied{w W w':World}{oc tc:Nat}{q:Value}{l:List Pr}(h:Os base A w0 w ob db tb fb fg F d r T wv root tx l)(hq:ez (cM d) w q r)(hb:Below w.heap.size w W)(aU:Below W.heap.size W w')(yU:w.heap.size≤tc)(O9:w.heap.size≤oc)(dE:oc≠tc)(ht:B.au W tc #[.pointer (some ⟨db,0,none⟩),q] 100)(hr:B.au w' oc (jq db fb tc wv root tx) 65):Os base A w0 w' oc db tc fb fg F d r T wv root tx l:=by
 have h1:=(h.below hb).below aU;have n1:=h.new yU;have n2:=h.new O9;have MG:base≤w.heap.size:=h.env.size;refine ⟨hr,⟨h1.ts.dv,⟨q,ht.below aU,(hq.cC (cP.of hb)).cC (cP.of aU)⟩,h.ts.ok,S.V.Step.refl _ _,by omega,n1.1⟩,⟨h1.mp.map,h1.mp.ok,h1.mp.lo,h1.mp.nf,n1.2.2.2.2.symm,n1.2.2.2.1.symm⟩,h1.env,h1.want,h.nd,h.pt,h.pr,h.kG,h1.ew,⟨by omega,n2.1,dE,n2.2.2.2⟩,fun k hk=>⟨(h.wn k hk).1,?_,?_,(h.wn k hk).2.2.2⟩⟩
 ·have:=(h.want.dr k hk).2;omega
 ·have:=(h.want.dr k hk).2;omega
end
structure SX(base:Nat)(A:Nat→Addr)(w0 w:World)(ob db i j:Nat):Prop where
 out:∃ (tb fb fg:Nat) (F:Nat→Prop) (d:S.V.bq) (r:ch) (T:Nat→Bool) (wv:Value) (root tx:Nat),(aB r).length≤i∧tx≤j∧3000≤(Q.gv T 4000).length∧Os base A w0 w ob db tb fb fg F d r T wv root tx (aB r)
section
variable {base:Nat} {A:Nat→Addr} {w0:World} {ob db:Nat}
theorem SX.below{w w1:World}{i j:Nat}(h:SX base A w0 w ob db i j)(hb:Below w.heap.size w w1):SX base A w0 w1 ob db i j:=by
 obtain ⟨tb,fb,fg,F,d,r,T,wv,root,tx,h1,h2,h3,h4⟩:=h.out;exact ⟨tb,fb,fg,F,d,r,T,wv,root,tx,h1,h2,h3,h4.below hb⟩
theorem SX.mono{w:World}{i j k m:Nat}(h:SX base A w0 w ob db i j)(hi:i≤k)(hj:j≤m):SX base A w0 w ob db k m:=by
 obtain ⟨tb,fb,fg,F,d,r,T,wv,root,tx,h1,h2,h3,h4⟩:=h.out;exact ⟨tb,fb,fg,F,d,r,T,wv,root,tx,by omega,by omega,h3,h4⟩
theorem ue{L:List Nat}{r:ch}(hL:L.Perm (eB r))(cN:eP r)(hn:(aB r).length≤400):3000≤(Q.gv (iO (Q.T0 4000) L) 4000).length:=by
 have h1:=KC L (Q.T0 4000) 4000;have h2:=AW 3998 (by decide)
 have h3:=hL.length_eq;have h4:=ld cN;rw [show (3998:Nat)+2=4000 from rfl] at h2
 omega
theorem SX.store{w:World}{i j:Nat}(h:SX base A w0 w ob db i j)(hi:i≤400∧j≤100000):Calls prog 26 #[.pointer (some ⟨ob,0,none⟩)] w fun e w'=>e = .returned (.bool true)∧SX base A w0 w' ob db i (j+1):=by
 obtain ⟨tb,fb,fg,F,d,r,T,wv,root,tx,h1,h2,h3,h4⟩:=h.out;have uU:=ld h4.ts.ok;refine (zX h4 (by omega) (by omega) (by omega)).mono fun e w' ⟨he,fj⟩=>⟨he,?_⟩
 obtain ⟨fb2,fg2,F2,d2,L,Li,ho,_,_⟩:=fj.out;have iH:aB (laid T r)=aB r:=(Bj h4.ts.ok).2;rw [← iH] at ho;exact ⟨tb,fb2,fg2,F2,d2,_,_,wv,_,_,by rw [iH];omega,by omega,ue Li ho.ts.ok (by rw [iH];omega),ho⟩
theorem SX.Vr{w:World}{i j:Nat}(h:SX base A w0 w ob db i j)(hi:i≤400∧j≤100000):Calls prog 25 #[.pointer (some ⟨ob,0,none⟩)] w fun e w'=>e = .returned (.bool true)∧SX base A w0 w' ob db i (j+1):=by
 obtain ⟨tb,fb,fg,F,d,r,T,wv,root,tx,h1,h2,h3,h4⟩:=h.out;have uU:=ld h4.ts.ok;refine (Gf h4 (by omega) (by omega) (by omega)).mono fun e w' ⟨he,fj⟩=>⟨he,?_⟩
 obtain ⟨nD,fb2,fg2,F2,d2,L,Li,ho,_⟩:=fj.out;have iH:aB (laid T r)=aB r:=(Bj h4.ts.ok).2;rw [← iH] at ho;exact ⟨nD,fb2,fg2,F2,d2,_,_,wv,_,_,by rw [iH];omega,by omega,ue Li ho.ts.ok (by rw [iH];omega),ho⟩
theorem SX.asked{w:World}{i j:Nat}(kind at' n:Int)(key value eW:ByteArray)(h:SX base A w0 w ob db i j)(hi:i≤400∧j≤100000)(cL:key.size≤140737488355328)(nL:n≤9223372036854775807):Calls prog 61 #[.pointer (some ⟨ob,0,none⟩),.agg #[.int .i64 kind,.int .i64 at',.int .i64 n,.string key,.string value,.string eW]] w fun e w'=>e = .returned (.bool true)∧SX base A w0 w' ob db i j:=by
 obtain ⟨tb,fb,fg,F,d,r,T,wv,root,tx,h1,h2,h3,h4⟩:=h.out;have fin:∀ {w'},Os base A w0 w' ob db tb fb fg F d r T wv root tx (aB r)→SX base A w0 w' ob db i j:=fun h=>⟨tb,fb,fg,F,d,r,T,wv,root,tx,h1,h2,h3,h⟩
 by_cases k3:kind=3
 ·subst k3;exact (AL at' n key value eW h4 (by omega) cL).mono fun e w' ⟨he,ho,_⟩=>⟨he,fin ho⟩
 ·by_cases k4:kind=4
  ·subst k4;by_cases GO:n<0
   ·exact (AK at' n key value eW h4 (by omega) GO).mono fun e w' ⟨he,ho,_⟩=>⟨he,fin ho⟩
   ·exact (uF at' n key value eW h4 (by omega) (by omega) nL).mono fun e w' ⟨he,ho,_⟩=>⟨he,fin ho⟩
  ·by_cases k5:kind=5
   ·subst k5;exact (uH at' n key value eW h4 (by omega)).mono fun e w' ⟨he,ho,_⟩=>⟨he,fin ho⟩
   ·exact (uG kind at' n key value eW ⟨k3,k4,k5⟩ h4).mono fun e w' ⟨he,ho,_⟩=>⟨he,fin ho⟩
theorem SX.step{w:World}{i j:Nat}(kind at' n:Int)(key value eW:ByteArray)(h:SX base A w0 w ob db i j)(hi:i≤400∧j≤100000)(cL:key.size≤140737488355328)(se:value.size≤140737488355328)(nL:n≤9223372036854775807):Calls prog 24 #[.pointer (some ⟨ob,0,none⟩),.agg #[.int .i64 kind,.int .i64 at',.int .i64 n,.string key,.string value,.string eW]] w fun e w'=>e = .returned (.bool true)∧SX base A w0 w' ob db (i+1) (j+1):=by
 by_cases h12:kind=1∨kind=2
 ·obtain ⟨tb,fb,fg,F,d,r,T,wv,root,tx,h1,h2,h3,h4⟩:=h.out;refine (Dc kind at' n key value eW h12 h4 (by omega) cL se).mono fun e w' ⟨he,r',nj,hs,ho,_⟩=>⟨he,?_⟩
  have:=sH hs h4.ts.ok;exact ⟨tb,fb,fg,F,d,r',T,nj,root,tx,by omega,by omega,h3,ho⟩
 ·have n1:(kind == 1)=false:=by rw [beq_eq_false_iff_ne];exact fun e=>h12 (.inl e)
  have n2:(kind == 2)=false:=by rw [beq_eq_false_iff_ne];exact fun e=>h12 (.inr e)
  have q0:=ai w (.cells #[.int .i64 kind,.int .i64 at',.int .i64 n,.string key,.string value,.string eW] 44);have x0:=B.au.new w #[.int .i64 kind,.int .i64 at',.int .i64 n,.string key,.string value,.string eW] 44;have k0:=x0.cell 0 (by simp)
  have k1:=x0.cell 1 (by simp)
  have k2:=x0.cell 2 (by simp)
  have k3:=x0.cell 3 (by simp)
  have k4:=x0.cell 4 (by simp)
  have k5:=x0.cell 5 (by simp)
  simp only [bQ,List.getElem_cons_zero,List.getElem_cons_succ] at k0 k1 k2 k3 k4 k5;have hb:=h.below q0;have gS:=ab (hb.store hi);have HRE:=ab (hb.Vr hi);have HAS:=ab (hb.asked kind at' n key value eW hi cL nL);clear h hb q0 x0 h12 cL se;by_cases h10:kind=10
  ·subst h10;go_enter func24,ntmps24;go_wp2_with fail;refine gS.out.mono ?_
   rintro e w1 ⟨rfl,h1⟩;go_wp2;go_ret;exact ⟨rfl,h1.mono (by omega) (by omega)⟩
  ·by_cases h12:kind=12
   ·subst h12;go_enter func24,ntmps24;go_wp2_with fail;refine gS.out.mono ?_
    rintro e w1 ⟨rfl,h1⟩;go_wp2;go_ret;exact ⟨rfl,h1.mono (by omega) (by omega)⟩
   ·by_cases h13:kind=13
    ·subst h13;go_enter func24,ntmps24;go_wp2_with fail;refine HRE.out.mono ?_
     rintro e w1 ⟨rfl,h1⟩;go_wp2;go_ret;exact ⟨rfl,h1.mono (by omega) (by omega)⟩
    ·have n10:(kind == 10)=false:=by rw [beq_eq_false_iff_ne];exact h10
     have n12:(kind == 12)=false:=by rw [beq_eq_false_iff_ne];exact h12
     have n13:(kind == 13)=false:=by rw [beq_eq_false_iff_ne];exact h13
     clear h10 h12 h13;go_enter func24,ntmps24;go_wp2_with fail;refine HAS.out.mono ?_
     rintro e w1 ⟨rfl,h1⟩;go_wp2;go_ret;exact ⟨rfl,h1.mono (by omega) (by omega)⟩
end
structure LS where
 kind:Int
 at':Int
 n:Int
 key:ByteArray
 value:ByteArray
 eW:ByteArray
def pG(w:World)(v:Value)(l:List LS):Prop:=∃ a c,v = .slice a l.length c∧∀ j (h:j<l.length),∃ g o,a=some ⟨g,o,none⟩∧w.cell? ⟨g,o+j*6,none⟩=some (.int .i64 l[j].kind)∧w.cell? ⟨g,o+j*6+1,none⟩=some (.int .i64 l[j].at')∧w.cell? ⟨g,o+j*6+2,none⟩=some (.int .i64 l[j].n)∧w.cell? ⟨g,o+j*6+3,none⟩=some (.string l[j].key)∧w.cell? ⟨g,o+j*6+4,none⟩=some (.string l[j].value)∧w.cell? ⟨g,o+j*6+5,none⟩=some (.string l[j].eW)
theorem pG.below{w w':World}{v:Value}{l:List LS}(h:pG w v l)(hb:Below w.heap.size w w'):pG w' v l:=by
 obtain ⟨a,c,hv,hc⟩:=h;refine ⟨a,c,hv,fun j hj=>?_⟩
 obtain ⟨g,o,ha,h0,h1,h2,h3,h4,h5⟩:=hc j hj;have f:∀ {m:Nat} {u:Value},w.cell? ⟨g,m,none⟩=some u→w'.cell? ⟨g,m,none⟩=some u:=fun {m u} hu=>(hb.cell (p:=⟨g,m,none⟩) (World.block_lt_of_cell? w _ hu)).trans hu
 exact ⟨g,o,ha,f h0,f h1,f h2,f h3,f h4,f h5⟩
theorem zK{base b2:Nat}{A:Nat→Addr}{w:World}(h:S.Env base A w)(h1:base≤b2)(h2:b2≤w.heap.size):S.Env b2 A w:=by
 obtain ⟨⟨a1,a2,a3,⟨b1,b2',b3⟩,hs⟩,c,⟨d1,d2,d3⟩,hL,hT⟩:=h;exact ⟨⟨a1,a2,a3,⟨by omega,by omega,by omega⟩,h2⟩,c,⟨by omega,by omega,by omega⟩,hL,hT⟩
theorem zP{base b2:Nat}{A:Nat→Addr}{w:World}(h:Q.Env base A w)(h1:base≤b2)(h2:b2≤w.heap.size):Q.Env b2 A w :=
 ⟨h.errs,h.tab,fun i hi=>by have:=h.lo i hi;omega,by have:=h.lt;omega,h2⟩
theorem SX.ew{base:Nat}{A:Nat→Addr}{w0 w:World}{ob db i j:Nat}(h:SX base A w0 w ob db i j):Below base w0 w:=by
 obtain ⟨tb,fb,fg,F,d,r,T,wv,root,tx,h1,h2,h3,h4⟩:=h.out;exact h4.ew
theorem SX.put{base:Nat}{A:Nat→Addr}{w0 w:World}{ob db i j:Nat}(key value:ByteArray)(h:SX base A w0 w ob db i j)(hi:i≤400)(cL:key.size≤140737488355328)(se:value.size≤140737488355328):Calls prog 10 #[.pointer (some ⟨ob,0,none⟩),.string key,.string value] w fun e w'=>e = .returned (.bool true)∧SX base A w0 w' ob db (i+1) j:=by
 obtain ⟨tb,fb,fg,F,d,r,T,wv,root,tx,h1,h2,h3,h4⟩:=h.out;refine (IQ key value h4 (by omega) cL se).mono fun e w' ⟨he,r',nj,hs,ho,_⟩=>⟨he,?_⟩
 have:=sH (kind:=1) (.inl ⟨rfl,hs⟩) h4.ts.ok;exact ⟨tb,fb,fg,F,d,r',T,nj,root,tx,by omega,by omega,h3,ho⟩
theorem SX.start{base:Nat}{A:Nat→Addr}(w:World)(MK:Q.Env base A w)(hE:S.Env base A w)(hG:dA 13 eR A w)(o8:∀ i,i<13→eR i<base∧(A i).block<base):Calls prog 9 #[] w fun e w'=>∃ (ob db:Nat),e = .returned (.tuple #[.pointer (some ⟨ob,0,none⟩),.bool true])∧SX base A w w' ob db 0 0:=by
 refine (Kr w MK hE hG o8).mono fun e w' ⟨ob,db,tb,fb,fg,F,d,he,ho⟩=>⟨ob,db,he,?_⟩
 exact ⟨tb,fb,fg,F,d,none,_,_,0,0,aj _,aj _,by rw [show (4000:Nat)=3998+2 from rfl,AW 3998 (by decide)];decide,ho⟩
theorem FY{A:Nat→Addr}(wO:Int)(sv:Value)(ks:List LS)(w:World)(hE:S.Env w.heap.size A w)(hG:dA 13 eR A w)(o8:∀ i,i<13→eR i<w.heap.size∧(A i).block<w.heap.size)(MK:Q.Env w.heap.size A w)(hs:pG w sv ks)(_hkl:ks.length≤140737488355328)(ju:∀ s ∈ ks,s.key.size≤140737488355328∧s.value.size≤140737488355328∧s.n≤9223372036854775807):Calls prog 31 #[.agg #[.int .i64 wO,sv]] w fun e w'=>∃ base W1 ob db,e = .returned (.tuple #[.pointer (some ⟨ob,0,none⟩),.bool true])∧SX base A W1 w' ob db 302 300∧w.heap.size≤base∧(∀ W,Below base W1 W→Below w.heap.size w W):=by
 obtain ⟨sa,sc,hsv⟩ : ∃ a c,sv = .slice a ks.length c:=by obtain ⟨a,c,h,_⟩:=hs;exact ⟨a,c,h⟩
 subst hsv;obtain ⟨K,hK⟩ : ∃ K,K=ks.length:=⟨_,rfl⟩;rw [← hK] at hs ⊢;obtain ⟨W1,gF⟩ : ∃ W1,w.alloc (.cells #[.int .i64 wO,.slice sa K sc] 37)=W1:=⟨_,rfl⟩;have q0:=ai w (.cells #[.int .i64 wO,.slice sa K sc] 37);have x0:=B.au.new w #[.int .i64 wO,.slice sa K sc] 37;rw [gF] at q0 x0;have GI:W1.heap.size=w.heap.size+1:=by rw [← gF];simp
 obtain ⟨XB,si⟩ : ∃ XB,XB=w.heap.size:=⟨_,rfl⟩;obtain ⟨base,hB⟩ : ∃ base,base=W1.heap.size:=⟨_,rfl⟩;have lT:=ab (SX.start (base:=base) (A:=A) W1 (zP (MK.keep q0) (by omega) (by omega)) (zK (hE.up q0) (by omega) (by omega)) (hG.keep q0) (fun i hi=>by have:=o8 i hi;omega))
 have gS:=ab (hs.below q0);have HBS:Hid (base=W1.heap.size):=hB;have HX:Hid (B.au W1 XB #[.int .i64 wO,.slice sa K sc] 37∧XB<base):=⟨by rw [si];exact x0,by omega⟩
 have jQ:Hid (w.heap.size≤base):=by show _≤_;omega
 have mB:Hid (∀ w',Below base W1 w'→Below w.heap.size w w'):=fun w' h=>by rw [hB] at h;exact Below.next q0 h
 have HK:=ab hK;have HKS:=ab ju;obtain ⟨Q0,GY⟩ : ∃ Q0:Ending→World→Prop,Q0=fun e w'=>∃ base W1 ob db,e = .returned (.tuple #[.pointer (some ⟨ob,0,none⟩),.bool true])∧SX base A W1 w' ob db 302 300∧w.heap.size≤base∧(∀ W,Below base W1 W→Below w.heap.size w W):=⟨_,rfl⟩
 rw [← GY];have HQ:=ab GY;have QH:=ab si;have zl:=ab gF;clear hE hG o8 MK hs ju hK q0 x0 GI GY hB gF;go_enter func31,ntmps31;go_wp2_with fail;rw [zl.out,← si];clear si;refine lT.out.mono ?_
 rintro e w2 ⟨ob,db,rfl,YR⟩;have TT:=ab (YR.put ⟨#[98,101,103,105,110]⟩ ⟨#[49]⟩ (by omega) (by simp [ByteArray.size]) (by simp [ByteArray.size]))
 clear YR lT;go_wp2_with fail;refine TT.out.mono ?_
 rintro e w3 ⟨rfl,YQ⟩;have TT:=ab (YQ.put ⟨#[101,110,100]⟩ ⟨#[50]⟩ (by omega) (by simp [ByteArray.size]) (by simp [ByteArray.size]))
 clear YQ;go_wp2_with fail;refine TT.out.mono ?_
 rintro e w6 ⟨rfl,YP⟩;have HFW:=ab YP;clear YP TT;go_wp2;go_loopw [5,6] (fun okv iv wr=>∃ i:Nat,okv = .bool true∧iv = .int .i64 (i:Int)∧i≤300∧i≤K∧SX base A W1 wr ob db (i+2) i) (fun _ iv _=>300 - (intOf iv).toNat)
 case atStart=>exact ⟨0,rfl,rfl,by omega,aD _,HFW.out⟩
 case round =>
  obtain ⟨i,rfl,rfl,hi,hiK,hse⟩:=hrel;have Jv:=ab hse;have xc:wr.cell? ⟨XB,1,none⟩=some (.slice sa K sc):=(hse.ew.cell (p:=⟨XB,1,none⟩) HX.out.2).trans HX.out.1.c1;clear hse HFW;by_cases bN:i<K∧i<300
  ·obtain ⟨UD,K4⟩:=bN;have HI9:Hid (i+1≤300∧i+1≤K):=⟨by omega,by omega⟩
   have acZ:(i:Int)<(K:Int):=by omega
   have aia:(i:Int)<300:=by omega
   have e0:(0:Int)≤(i:Int):=by omega
   have ZC:i<ks.length:=by have:=HK.out;omega
   obtain ⟨g,o,ib,SK,s0,s1,s2,s3,s4,s5⟩:=(show ∀ j (h:j<ks.length),∃ g o,g<base∧sa=some ⟨g,o,none⟩∧wr.cell? ⟨g,o+j*6,none⟩=some (.int .i64 ks[j].kind)∧wr.cell? ⟨g,o+j*6+1,none⟩=some (.int .i64 ks[j].at')∧wr.cell? ⟨g,o+j*6+2,none⟩=some (.int .i64 ks[j].n)∧wr.cell? ⟨g,o+j*6+3,none⟩=some (.string ks[j].key)∧wr.cell? ⟨g,o+j*6+4,none⟩=some (.string ks[j].value)∧wr.cell? ⟨g,o+j*6+5,none⟩=some (.string ks[j].eW) from fun j h=>by
    obtain ⟨a,c,hv,hc⟩:=gS.out;simp only [Value.slice.injEq] at hv;obtain ⟨rfl,-,-⟩:=hv;obtain ⟨g,o,ha,h0,h1,h2,h3,h4,h5⟩:=hc j h;have f:∀ {m:Nat} {u:Value},W1.cell? ⟨g,m,none⟩=some u→wr.cell? ⟨g,m,none⟩=some u:=fun {m u} hu=>(Jv.out.ew.cell (p:=⟨g,m,none⟩) (by have h9:=HBS.out;have h8:g<W1.heap.size:=World.block_lt_of_cell? W1 _ hu;show g<base;omega)).trans hu
    exact ⟨g,o,(by have h9:=HBS.out;have h8:g<W1.heap.size:=World.block_lt_of_cell? W1 _ h0;omega),ha,f h0,f h1,f h2,f h3,f h4,f h5⟩) i ZC
   have gD:=ab (HKS.out ks[i] (aG ZC));generalize ks[i]=st at s0 s1 s2 s3 s4 s5 gD;obtain ⟨kind,at',n,key,value,eW⟩:=st;simp only at s0 s1 s2 s3 s4 s5 gD;subst SK;have Rv:=ab (Jv.out.step kind at' n key value eW (by omega) gD.out.1 gD.out.2.1 gD.out.2.2)
   clear gD;go_wp2_with fail;refine Rv.out.mono ?_
   rintro e w7 ⟨rfl,YO⟩;have aee:=ab YO;clear YO Rv s0 s1 s2 s3 s4 s5 xc ib;go_wp2;go_roundw
   case rel =>
    refine ⟨i+1,?_,?_,HI9.out.1,HI9.out.2,aee.out.mono (by omega) (by omega)⟩
    ·rfl
    ·go_num
   case measure=>simp [intOf];omega
  ·have fH:(¬ (i:Int)<(K:Int))∨((i:Int)<(K:Int)∧¬ (i:Int)<300):=by omega
   have HQF:Hid (Q0 (.returned (.tuple #[.pointer (some ⟨ob,0,none⟩),.bool true])) wr):=by
    show Q0 _ wr
    rw [HQ.out];exact ⟨base,W1,ob,db,rfl,Jv.out.mono (by omega) (by omega),jQ.out,mB.out⟩
   clear bN Jv;rcases fH with h1 | ⟨h1,h2⟩
   all_goals
    go_wp2;exact HQF.out
end T
end Go.Proofs.YtihmgigfkmofnaaGreatDoor
