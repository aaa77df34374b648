import Derived.Test.YtihmgigfkmofnaaGreatDoorG38
set_option maxHeartbeats 32000000
set_option maxRecDepth 100000
open Go.Proofs.Tryz
namespace Go.Proofs.YtihmgigfkmofnaaGreatDoor
namespace T
open Go.RowKit
theorem Ke{base b2:Nat}{A:Nat→Addr}{w:World}(h:S.Env base A w)(h1:base≤b2)(h2:b2≤w.heap.size):S.Env b2 A w:=by
 obtain ⟨⟨a1,a2,a3,⟨b1,b2',b3⟩,hs⟩,c,⟨d1,d2,d3⟩,hL,hT⟩:=h;exact ⟨⟨a1,a2,a3,⟨by omega,by omega,by omega⟩,h2⟩,c,⟨by omega,by omega,by omega⟩,hL,hT⟩
theorem Ki{base b2:Nat}{A:Nat→Addr}{w:World}(h:Q.Env base A w)(h1:base≤b2)(h2:b2≤w.heap.size):Q.Env b2 A w :=
 ⟨h.errs,h.tab,fun i hi=>by have:=h.lo i hi;omega,by have:=h.lt;omega,h2⟩
structure Fw(base:Nat)(A:Nat→Addr)(w0 w:World)(ob db tb:Nat)(i:Nat):Prop where
 out:∃ (fb fg:Nat) (F:Nat→Prop) (d:S.V.bD) (r:cT) (T:Nat→Bool) (wv:Value) (root tx:Nat),(aP r).length≤i+1∧tx≤i∧3000≤(Q.fY T 4000).length∧Os base A w0 w ob db tb fb fg F d r T wv root tx (aP r)
theorem Lf{r':cT}{key value:ByteArray}(hm:cF (key,value)=true)(hu:pQ key (fun l=>eT l key value) none r'):bY r'=1∧(aP r').length≤1:=by
 have cp:=(ll hm).size [];rw [kW] at cp;obtain ⟨g1,g2,_⟩:=wD (f:=fun l=>eT l key value) (by omega) (r:=none) trivial hu
 have hf:=(km (ll hm) (r:=none) trivial hu).2;have h1:aP r'=[(key,value)]:=hf;have ey:r'≠none:=fun e=>by rw [e] at h1;cases h1
 have e0:jo none=0:=rfl;rw [e0] at g1;exact ⟨by have:=g2 ey;omega,by rw [h1];simp⟩
theorem oa{l:List Nat}(h:l.Nodup):(iG l).Pairwise (· < ·):=by
 have h1:(iG l).Pairwise (fun x y=>decide (x≤y)=true):=List.pairwise_mergeSort (fun a b c h1 h2=>decide_eq_true (by have:=of_decide_eq_true h1;have:=of_decide_eq_true h2;omega)) (fun a b=>by simp;omega) _
 have h2:(iG l).Nodup:=(oY l).nodup_iff.2 (List.Pairwise.map _ (fun a b zh e=>zh (by omega)) h)
 exact (h1.and h2).imp fun ⟨a,b⟩=>by have:=of_decide_eq_true a;omega
theorem vD{l m:List Nat}(h:l.Sublist m):∀ x ∈ iG l,x ∈ iG m:=fun x hx=>by
 obtain ⟨n,hn,rfl⟩:=List.mem_map.1 ((oY l).mem_iff.1 hx);exact (oY m).mem_iff.2 (gK (h.subset hn))
theorem tN{r2:cT}{fd my:Bool}(f4:bY r2=0↔(((1:Int)=2∧fd=false)∨(my=false∧(1:Int)=1))∨(aP r2=[]∧bz r2=[]))(cC:dU r2):(my=false∧((bY r2:Int) == 0)=true)∨(my=true∧((bY r2:Int) == 0)=true∧(((aP r2).length:Int) == 0)=true∧(((bz r2).length:Int) == 0)=true)∨(my=true∧((bY r2:Int) == 0)=false∧(((aP r2).length:Int) == 0)=false):=by
 cases my with
 | false =>
  have:=f4.2 (.inl (.inr ⟨rfl,rfl⟩));exact .inl ⟨rfl,by rw [this];rfl⟩
 | true =>
  by_cases hf:aP r2=[]
  ·have:=(AS cC).1 hf;subst this;exact .inr (.inl ⟨rfl,rfl,rfl,rfl⟩)
  ·have ey:bY r2≠0:=fun e=>by
    rcases f4.1 e with (⟨h,_⟩ | ⟨h,_⟩) | ⟨h,_⟩
    ·exact absurd h (by decide)
    ·cases h
    ·exact hf h
   have hl:(aP r2).length≠0:=fun e=>hf (List.length_eq_zero_iff.1 e)
   refine .inr (.inr ⟨rfl,?_,?_⟩)
   ·rw [beq_eq_false_iff_ne];omega
   ·rw [beq_eq_false_iff_ne];omega
theorem AV{r2:cT}{fd my:Bool}(f4:bY r2=0↔(((2:Int)=2∧fd=false)∨(my=false∧(2:Int)=1))∨(aP r2=[]∧bz r2=[]))(cC:dU r2):(fd=false∧((bY r2:Int) == 0)=true)∨(fd=true∧((bY r2:Int) == 0)=true∧(((aP r2).length:Int) == 0)=true∧(((bz r2).length:Int) == 0)=true)∨(fd=true∧((bY r2:Int) == 0)=false∧(((aP r2).length:Int) == 0)=false):=by
 refine tN (fd:=my) ⟨fun h=>?_,fun h=>?_⟩ cC
 ·rcases f4.1 h with (⟨_,h⟩ | ⟨_,h⟩) | h
  ·exact .inl (.inr ⟨h,rfl⟩)
  ·exact absurd h (by decide)
  ·exact .inr h
 ·rcases h with (⟨h,_⟩ | ⟨h,_⟩) | h
  ·exact absurd h (by decide)
  ·exact f4.2 (.inl (.inl ⟨rfl,h⟩))
  ·exact f4.2 (.inr h)
theorem vW{r:cT}(cC:dU r)(hn:(aP r).length≤4611686018427387904):jo r≤64:=by
 cases r with
 | none=>exact aC _
 | some x=>exact og (h:=x.1) (t:=x.2) cC hn
theorem SW{A:Nat→Addr}(rN:Int)(sv:Value)(ks:List LS)(w:World)(hE:S.Env w.heap.size A w)(hG:dk 13 fl A w)(tG:∀ i,i<13→fl i<w.heap.size∧(A i).block<w.heap.size)(VQ:Q.Env w.heap.size A w)(hs:L5 w sv ks)(_hkl:ks.length≤140737488355328)(ny:∀ s ∈ ks,s.key.size≤140737488355328∧s.value.size≤140737488355328):Calls prog 5 #[.agg #[.int .i64 rN,sv]] w fun e w'=>e = .returned (.bool true)∧Below w.heap.size w w':=by
 obtain ⟨sa,sc,hsv⟩ : ∃ a c,sv = .slice a ks.length c:=by obtain ⟨a,c,h,_⟩:=hs;exact ⟨a,c,h⟩
 subst hsv;obtain ⟨K,hK⟩ : ∃ K,K=ks.length:=⟨_,rfl⟩;rw [← hK] at hs ⊢;obtain ⟨W1,lf⟩ : ∃ W1,w.alloc (.cells #[.int .i64 rN,.slice sa K sc] 37)=W1:=⟨_,rfl⟩;have q0:=ai w (.cells #[.int .i64 rN,.slice sa K sc] 37);have x0:=B.au.new w #[.int .i64 rN,.slice sa K sc] 37;rw [lf] at q0 x0;have OQ:W1.heap.size=w.heap.size+1:=by rw [← lf];simp
 obtain ⟨XB,hXB⟩ : ∃ XB,XB=w.heap.size:=⟨_,rfl⟩;obtain ⟨base,hB⟩ : ∃ base,base=W1.heap.size:=⟨_,rfl⟩;have qe:=ab (Ku (base:=base) (A:=A) W1 (Ki (VQ.keep q0) (by omega) (by omega)) (Ke (hE.up q0) (by omega) (by omega)) (hG.keep q0) (fun i hi=>by have:=tG i hi;omega))
 have gN:=ab (hs.below q0);have HBS:Hid (base=W1.heap.size):=hB;have HX:Hid (B.au W1 XB #[.int .i64 rN,.slice sa K sc] 37∧XB<base):=⟨by rw [hXB];exact x0,by omega⟩
 have nM:Hid (∀ w',Below base W1 w'→Below w.heap.size w w'):=fun w' h=>by rw [hB] at h;exact Below.next q0 h
 have HK:=ab hK;have HKS:=ab ny;obtain ⟨Q0,G6⟩ : ∃ Q0:Ending→World→Prop,Q0=fun e w'=>e = .returned (.bool true)∧Below w.heap.size w w':=⟨_,rfl⟩
 rw [← G6];have HQ:=ab G6;have Wb:=ab hXB;have L9:=ab lf;clear hE hG tG VQ hs ny hK q0 x0 OQ G6 hB lf;go_enter func5,ntmps5;go_wp2_with fail;rw [L9.out,← hXB];clear hXB;refine qe.out.mono ?_
 rintro e w2 ⟨ob,db,tb,fb0,fg0,F0,d0,rfl,dW⟩;have Ek:cF (⟨#[98,101,103,105,110]⟩,⟨#[49]⟩)=true:=by decide
 have ZW:=ab (IW ⟨#[98,101,103,105,110]⟩ ⟨#[49]⟩ (r:=none) dW (by simp [aP]) (by simp [ByteArray.size]) (by simp [ByteArray.size]))
 have HM:=ab Ek;clear dW qe Ek;go_wp2_with fail;refine ZW.out.mono ?_
 rintro e w3 ⟨rfl,r3,wv3,fG,fX,_⟩;have hu3:pQ ⟨#[98,101,103,105,110]⟩ (fun l=>eT l ⟨#[98,101,103,105,110]⟩ ⟨#[49]⟩) none r3:=by
  rcases fG with ⟨_,h⟩ | ⟨h,_⟩
  ·exact h
  ·exact absurd HM.out h
 obtain ⟨hc3,hl3⟩:=Lf HM.out hu3;have wk:=ab (eC fX.ts (by omega))
 rw [hc3] at wk;have p3:=fX.c.1;have HFW:Hid (Fw base A W1 w3 ob db tb 0):=⟨fb0,fg0,F0,d0,r3,_,wv3,0,0,by omega,aj _,by rw [show (4000:Nat)=3998+2 from rfl,oX 3998 (by decide)];decide,fX⟩
 clear fG fX hu3 hc3 hl3 ZW;go_wp2_with fail;refine wk.out.mono ?_
 rintro e w3' ⟨rfl,rfl⟩;clear p3 wk;go_wp2;go_loopw [4,5] (fun okv iv wr=>∃ i:Nat,okv = .bool true∧iv = .int .i64 (i:Int)∧i≤300∧i≤K∧Fw base A W1 wr ob db tb i) (fun _ iv _=>300 - (intOf iv).toNat)
 case atStart=>exact ⟨0,rfl,rfl,by omega,aC _,HFW.out⟩
 case round =>
  obtain ⟨i,rfl,rfl,hi,hiK,hfw⟩:=hrel;obtain ⟨fb,fg,F,d,r,T,wv,root,tx,hlen,QV,YX,QX⟩:=hfw.out;have Fg:=ab QX;have fL:=ab hlen;have A9:=ab QV;have H9:=ab YX;have xc:wr.cell? ⟨XB,1,none⟩=some (.slice sa K sc):=(QX.ff.cell (p:=⟨XB,1,none⟩) HX.out.2).trans HX.out.1.c1;clear hfw QX hlen QV YX HFW;by_cases bX:i<K∧i<300
  ·obtain ⟨Vx,SC⟩:=bX;have CG:Hid (i+1≤300∧i+1≤K):=⟨by omega,by omega⟩
   have agM:(i:Int)<(K:Int):=by omega
   have agL:(i:Int)<300:=by omega
   have e0:(0:Int)≤(i:Int):=by omega
   have YT:i<ks.length:=by have:=HK.out;omega
   obtain ⟨g,o,Yk,s0,s1,s2,s3,s4,s5⟩:=(show ∀ j (h:j<ks.length),∃ g o,sa=some ⟨g,o,none⟩∧wr.cell? ⟨g,o+j*6,none⟩=some (.int .i64 ks[j].kind)∧wr.cell? ⟨g,o+j*6+1,none⟩=some (.int .i64 ks[j].at')∧wr.cell? ⟨g,o+j*6+2,none⟩=some (.int .i64 ks[j].n)∧wr.cell? ⟨g,o+j*6+3,none⟩=some (.string ks[j].key)∧wr.cell? ⟨g,o+j*6+4,none⟩=some (.string ks[j].value)∧wr.cell? ⟨g,o+j*6+5,none⟩=some (.string ks[j].vg) from fun j h=>by
    obtain ⟨a,c,hv,hc⟩:=gN.out;simp only [Value.slice.injEq] at hv;obtain ⟨rfl,-,-⟩:=hv;obtain ⟨g,o,ha,h0,h1,h2,h3,h4,h5⟩:=hc j h;have f:∀ {m:Nat} {u:Value},W1.cell? ⟨g,m,none⟩=some u→wr.cell? ⟨g,m,none⟩=some u:=fun {m u} hu=>(Fg.out.ff.cell (p:=⟨g,m,none⟩) (by have h9:=HBS.out;have h8:g<W1.heap.size:=World.block_lt_of_cell? W1 _ hu;show g<base;omega)).trans hu
    exact ⟨g,o,ha,f h0,f h1,f h2,f h3,f h4,f h5⟩) i YT
   have gM:=ab (HKS.out ks[i] (aH YT));generalize ks[i]=st at s0 s1 s2 s3 s4 s5 gM;obtain ⟨kind,at',n,key,value,vg⟩:=st;simp only at s0 s1 s2 s3 s4 s5 gM;subst Yk;have q1:=ai wr (.cells #[.int .i64 kind,.int .i64 at',.int .i64 n,.string key,.string value,.string vg] 44);have x1:=B.au.new wr #[.int .i64 kind,.int .i64 at',.int .i64 n,.string key,.string value,.string vg] 44;have Bb:=ab (Fg.out.below q1);have iy:=ab (Fg.out.new (aj wr.heap.size));have nN:=ab x1;have k0:=x1.cell 0 (by simp)
   have k1:=x1.cell 1 (by simp)
   have k2:=x1.cell 2 (by simp)
   have k3:=x1.cell 3 (by simp)
   have k4:=x1.cell 4 (by simp)
   have k5:=x1.cell 5 (by simp)
   simp only [aG,List.getElem_cons_zero,List.getElem_cons_succ] at k0 k1 k2 k3 k4 k5;clear q1 x1 Fg;by_cases ri:kind=1∨kind=2
   ·have p3:=Bb.out.c.1;have uJ:bY r≤700:=by have:=gl Bb.out.ts.ok;have:=fL.out;omega
    have wk:=ab (eC Bb.out.ts (by omega))
    rcases ri with rfl | rfl
    ·by_cases hb:i % 7=3
     ·as_aux_lemma =>
       have Eb:Int.tmod (i:Int) 7=3:=by rw [jh (by omega)];omega
       clear hb wk p3;have Fb:=ab (pe Bb.out (by have:=fL.out;omega) (by have:=H9.out;omega) (by have:=A9.out;omega))
       go_wp2_with fail;generalize hWB:wr.alloc (.cells #[.int .i64 1,.int .i64 at',.int .i64 n,.string key,.string value,.string vg] 44)=WB at *;generalize VU:wr.heap.size=BX at *;refine Fb.out.mono ?_
       rintro e w2 ⟨rfl,eS⟩;obtain ⟨V0,VZ,F2,d2,L,zi,dW,qF,mU⟩:=eS.out;obtain ⟨r1,eN⟩ : ∃ r1,r1=laid T r:=⟨_,rfl⟩;rw [← eN] at zi dW qF;have qL:aP r1=aP r:=by rw [eN];exact (rX Bb.out.ts.ok).2
       rw [← qL] at dW;have zE:V9 r1:=vA (qF w2);have mW:=gl dW.ts.ok;have mT:(aP r1).length≤i+1:=by rw [qL];exact fL.out
       have qK:3000≤(Q.fY (fN (Q.T0 4000) L) 4000).length:=by
        have h1:=pw L (Q.T0 4000) 4000;have h2:=oX 3998 (by decide)
        have h3:=zi.length_eq;rw [show (3998:Nat)+2=4000 from rfl] at h2
        omega
       obtain ⟨T1,Pw⟩ : ∃ T1,T1=fN (Q.T0 4000) L:=⟨_,rfl⟩;rw [← Pw] at dW qK;obtain ⟨yj,xX⟩:=mU.2 BX nN.out.lt iy.out.1 iy.out.2.1 iy.out.2.2.1 iy.out.2.2.2.2;have yk:B.au w2 BX #[.int .i64 1,.int .i64 at',.int .i64 n,.string key,.string value,.string vg] 44:=yj.trans nN.out;have yS:=ab (eZ dW.ts (by omega) dW.nd (by omega))
       have p3:=dW.c.1;have gX:=ab dW;have bH:=ab yk;have gI:Hid (¬ F2 BX∧BX≠tb∧BX≠ob):=⟨xX,iy.out.2.1,iy.out.2.2.1⟩;have Wd:=ab zE;have tZ:=ab mT;have QO:=ab qK;have WD:Hid (jo r1≤64):=vW dW.ts.ok (by omega)
       have Mg:=ab mW;clear eS mU eN zi dW qF qL zE mW mT qK Pw yj yk xX Fb Bb nN iy;go_wp2_with fail;refine yS.out.mono ?_
       rintro e w3 ⟨⟨v1,rfl,dq⟩,si,qI⟩;have fX:=gX.out.mv si qI;have b6:B.au w3 BX _ 44:=((l6 (tb:=tb) (ob:=ob) qI).2 BX bH.out.lt gI.out.1 gI.out.2.1 gI.out.2.2).trans bH.out;have xV:=fw dq;have OM:∀ k,v1.ownBlock=some k→k<w3.heap.size∧¬ F2 k∧k≠tb∧k≠ob:=fun k hk=>by
        have h1:=World.ownsRow.lt dq k hk;have h2:=gX.out.new h1.1;exact ⟨h1.2,h2.1,h2.2.1,h2.2.2.1⟩
       obtain ⟨a1,c1,xR,_⟩:=fw dq;rw [ez] at xR;have Ia:=ab (jR fX.ts (by have:=tZ.out;omega) (Below.refl _ _))
       have q3:=fX.c.1;have nL:=ab fX;have dH:=ab b6;have yV:=ab xV;have yO:=ab OM;subst xR;clear dq si qI fX b6 xV OM yS p3 bH;go_wp2_with fail;refine Ia.out.mono ?_
       rintro e w4 ⟨rfl,Jb,xZ⟩;have nH:=nL.out.mv Jb xZ;have gH:B.au w4 BX _ 44:=((l6 (tb:=tb) (ob:=ob) xZ).2 BX dH.out.lt gI.out.1 gI.out.2.1 gI.out.2.2).trans dH.out;have xU:=yV.out.same fun k hk=>xZ.step.block k (yO.out k hk).1 (yO.out k hk).2.1
       obtain ⟨wa,wn,wc,Sj⟩:=iZ nH.want;have yQ:Hid (∀ W,Below w4.heap.size w4 W→Calls prog 28 #[wv,.string key] W fun e w'=>e = .returned (.tuple #[.int .i64 (aQ (aP r1) key:Int),.bool (bq (aP r1) key)])∧Below w4.heap.size w4 w'):=fun W hW=>(jx wv (aP r1) key W (by have:=tZ.out;omega) (nH.below hW).want.at).mono fun e w' ⟨he,k,hk⟩=>⟨he,by rw [hk];exact Below.next hW (aB (Below.refl _ _) k)⟩
       have z4:=nH.c.2.1;have z3:=gH.cell 3 (by simp)
       simp only [aG,List.getElem_cons_zero,List.getElem_cons_succ] at z3;have wj:=ab nH;have gY:=ab gH;have yU:=ab xU;have gW:Hid (∀ k,(Value.slice a1 (bz r1).length c1).ownBlock=some k→k<w4.heap.size∧¬ F2 k∧k≠tb∧k≠ob):=fun k hk=>⟨al (yO.out k hk).1 xZ.size,(yO.out k hk).2⟩
       subst Sj;clear Jb xZ nH gH xU Ia q3 nL dH yV yO;go_wp2_with fail;go_region_held3 (fun w'=>w'.cell? ⟨ob,4,none⟩=some (.slice wa wn wc)∧w'.cell? ⟨BX,3,none⟩=some (.string key)) (go_keep)
        (first | (go_at_call 28;refine (yQ.out _ ?_).mono ?_;(first | exact (Below.refl _ _).drew | exact aB (Below.refl _ _) _);rintro e w5 ⟨rfl,fk⟩;have yN:=ab fk;have y4:=(wj.out.below fk).c.2.1;have y3:=(gY.out.below fk).cell 3 (by simp);simp only [aG,List.getElem_cons_zero,List.getElem_cons_succ] at y3;clear fk))
       all_goals
        have vo:=wj.out.below yN.out;have fk:=gY.out.below yN.out;have Ci:=ab (lR 1 at' n key value vg (.inl rfl) vo (by have:=tZ.out;omega) gM.out.1 gM.out.2)
        have b0:=fk.cell 0 (by simp)
        have b1:=fk.cell 1 (by simp)
        have b2:=fk.cell 2 (by simp)
        have b3:=fk.cell 3 (by simp)
        have b4:=fk.cell 4 (by simp)
        have b5:=fk.cell 5 (by simp)
        simp only [aG,List.getElem_cons_zero,List.getElem_cons_succ] at b0 b1 b2 b3 b4 b5;have gu:=ab fk;have yT:=ab vo.ts.ok;have H5:=ab vo.nd;clear z4 z3 y4 y3 yQ fk vo k0 k1 k2 k3 k4 k5 s0 s1 s2 s3 s4 s5;go_wp2_with fail;refine Ci.out.mono ?_
        rintro e w6 ⟨rfl,r2,wv2,qC,qG,mV⟩;obtain ⟨f1,f2,f3,f4⟩:=sB qC yT.out Wd.out;have oT:=ab (tN f4 qG.ts.ok);clear f4;have Vw:=kA qC yT.out;have G5:=gl qG.ts.ok;have mT:=tZ.out;have mW:=Mg.out;have yR:=ab (eZ qG.ts (by omega) qG.nd (by omega))
        have p6:=qG.c.1;have Hz:=ab qG;have nj:Hid (zR w6 (.slice a1 (bz r1).length c1) (iG (bz r1))∧∀ k,(Value.slice a1 (bz r1).length c1).ownBlock=some k→k<w6.heap.size∧¬ F2 k):=by
         have e5:∀ k,(Value.slice a1 (bz r1).length c1).ownBlock=some k→w6.heap[k]?=w4.heap[k]?:=fun k hk=>(mV.2 k (al (gW.out k hk).1 yN.out.size) (gW.out k hk).2.1 (gW.out k hk).2.2.1 (gW.out k hk).2.2.2).trans (yN.out.block k (gW.out k hk).1)
         exact ⟨yU.out.same e5,fun k hk=>⟨al (gW.out k hk).1 (aq yN.out.size mV.1),(gW.out k hk).2.1⟩⟩
        have yl:B.au w6 BX _ 44:=(mV.2 BX gu.out.lt gI.out.1 gI.out.2.1 gI.out.2.2).trans gu.out;have Fm:=ab yl;clear qG mV Ci b0 b1 b2 b3 b4 b5 yU gW gY wj gu yl;go_wp2_with fail;refine yR.out.mono ?_
        rintro e w7 ⟨⟨v2,rfl,eV⟩,hv7,BR⟩;have oA:=Hz.out.mv hv7 BR;obtain ⟨a2,c2,xQ,_⟩:=fw eV;rw [ez] at xQ;have CA:=ab (mH v2 (.slice a1 (bz r1).length c1) (iG (bz r2)) (iG (bz r1)) w7 (fw eV) (nj.out.1.same fun k hk=>BR.step.block k (nj.out.2 k hk).1 (nj.out.2 k hk).2) (oa Hz.out.nd) (oa H5.out) (vD f3) (by rw [ez];omega) (by rw [ez];omega))
        have q7:=ab (eC oA.ts (by omega))
        have p7:=oA.c.1;have Rn:=oA.c.2.1;have tI:B.au w7 BX _ 44:=((l6 (tb:=tb) (ob:=ob) BR).2 BX Fm.out.lt gI.out.1 gI.out.2.1 gI.out.2.2).trans Fm.out;have b0:=tI.cell 0 (by simp)
        have b3:=tI.cell 3 (by simp)
        have b4:=tI.cell 4 (by simp)
        simp only [aG,List.getElem_cons_zero,List.getElem_cons_succ] at b0 b3 b4;obtain ⟨wa2,wc2,GO⟩:=oA.want.form;have Cn:Hid (∀ k,Fw base A W1 (w7.drewN k) ob db tb (i+1)):=fun k=>⟨V0,VZ,F2,d2,r2,_,wv2,_,_,by omega,by have:=A9.out;omega,QO.out,oA.below (aB (Below.refl _ _) k)⟩
        have Fk:=ab (l9 key value w7 gM.out.1 gM.out.2);have VT:=WD.out;have lY:=oT.out;have g1:(bY r2:Int)≤2*(jo r1:Int)+1:=by omega
        have g2:((bz r1).length:Int) - ((bz r2).length:Int)≤2*(jo r1:Int)+1:=by omega
        have g3:(jo r1:Int)≤64:=by omega
        have g5:(bY r2:Int)≤5000:=by omega
        have g6:((bz r2).length:Int)≤5000:=by omega
        have g7:((bz r1).length:Int)≤5000:=by omega
        subst xQ GO;clear f1 f2 f3 oT Vw G5 mT mW VT yR nj eV hv7 BR oA Hz Fm tI p6 gI;rcases lY with ⟨hc,z⟩ | ⟨hc,z,zw,za⟩ | ⟨hc,z,zw⟩
        all_goals
         rw [hc] at Fk;go_wp2_with fail;refine q7.out.mono ?_
         rintro e XE ⟨rfl,rfl⟩;go_wp2_with fail;refine Fk.out.mono ?_
         rintro e w7a ⟨rfl,rfl⟩;go_wp2_with fail;refine CA.out.mono ?_
         rintro e w8 ⟨rfl,kk,rfl⟩;clear CA q7 p7 Rn b0 b3 b4;go_wp2;go_roundw
         case rel =>
          refine ⟨i+1,?_,?_,CG.out.1,CG.out.2,Cn.out kk⟩
          ·rfl
          ·go_num
         case measure=>simp [intOf];omega
     ·obtain ⟨m7,Eb,OV⟩ : ∃ m7:Int,Int.tmod (i:Int) 7=m7∧(m7 == 3)=false:=⟨_,rfl,by rw [jh (by omega),beq_eq_false_iff_ne];omega⟩
      clear hb;by_cases hz:bY r=0
      ·as_aux_lemma =>
        rw [hz] at wk;have Fb:=ab (pe Bb.out (by have:=fL.out;omega) (by have:=H9.out;omega) (by have:=A9.out;omega))
        go_wp2_with fail;refine wk.out.mono ?_
        rintro e w1' ⟨rfl,rfl⟩;clear wk p3 hz;go_wp2_with fail;generalize hWB:wr.alloc (.cells #[.int .i64 1,.int .i64 at',.int .i64 n,.string key,.string value,.string vg] 44)=WB at *;generalize VU:wr.heap.size=BX at *;refine Fb.out.mono ?_
        rintro e w2 ⟨rfl,eS⟩;obtain ⟨V0,VZ,F2,d2,L,zi,dW,qF,mU⟩:=eS.out;obtain ⟨r1,eN⟩ : ∃ r1,r1=laid T r:=⟨_,rfl⟩;rw [← eN] at zi dW qF;have qL:aP r1=aP r:=by rw [eN];exact (rX Bb.out.ts.ok).2
        rw [← qL] at dW;have zE:V9 r1:=vA (qF w2);have mW:=gl dW.ts.ok;have mT:(aP r1).length≤i+1:=by rw [qL];exact fL.out
        have qK:3000≤(Q.fY (fN (Q.T0 4000) L) 4000).length:=by
         have h1:=pw L (Q.T0 4000) 4000;have h2:=oX 3998 (by decide)
         have h3:=zi.length_eq;rw [show (3998:Nat)+2=4000 from rfl] at h2
         omega
        obtain ⟨T1,Pw⟩ : ∃ T1,T1=fN (Q.T0 4000) L:=⟨_,rfl⟩;rw [← Pw] at dW qK;obtain ⟨yj,xX⟩:=mU.2 BX nN.out.lt iy.out.1 iy.out.2.1 iy.out.2.2.1 iy.out.2.2.2.2;have yk:B.au w2 BX #[.int .i64 1,.int .i64 at',.int .i64 n,.string key,.string value,.string vg] 44:=yj.trans nN.out;have yS:=ab (eZ dW.ts (by omega) dW.nd (by omega))
        have p3:=dW.c.1;have gX:=ab dW;have bH:=ab yk;have gI:Hid (¬ F2 BX∧BX≠tb∧BX≠ob):=⟨xX,iy.out.2.1,iy.out.2.2.1⟩;have Wd:=ab zE;have tZ:=ab mT;have QO:=ab qK;have WD:Hid (jo r1≤64):=vW dW.ts.ok (by omega)
        have Mg:=ab mW;clear eS mU eN zi dW qF qL zE mW mT qK Pw yj yk xX Fb Bb nN iy;go_wp2_with fail;refine yS.out.mono ?_
        rintro e w3 ⟨⟨v1,rfl,dq⟩,si,qI⟩;have fX:=gX.out.mv si qI;have b6:B.au w3 BX _ 44:=((l6 (tb:=tb) (ob:=ob) qI).2 BX bH.out.lt gI.out.1 gI.out.2.1 gI.out.2.2).trans bH.out;have xV:=fw dq;have OM:∀ k,v1.ownBlock=some k→k<w3.heap.size∧¬ F2 k∧k≠tb∧k≠ob:=fun k hk=>by
         have h1:=World.ownsRow.lt dq k hk;have h2:=gX.out.new h1.1;exact ⟨h1.2,h2.1,h2.2.1,h2.2.2.1⟩
        obtain ⟨a1,c1,xR,_⟩:=fw dq;rw [ez] at xR;have Ia:=ab (jR fX.ts (by have:=tZ.out;omega) (Below.refl _ _))
        have q3:=fX.c.1;have nL:=ab fX;have dH:=ab b6;have yV:=ab xV;have yO:=ab OM;subst xR;clear dq si qI fX b6 xV OM yS p3 bH;go_wp2_with fail;refine Ia.out.mono ?_
        rintro e w4 ⟨rfl,Jb,xZ⟩;have nH:=nL.out.mv Jb xZ;have gH:B.au w4 BX _ 44:=((l6 (tb:=tb) (ob:=ob) xZ).2 BX dH.out.lt gI.out.1 gI.out.2.1 gI.out.2.2).trans dH.out;have xU:=yV.out.same fun k hk=>xZ.step.block k (yO.out k hk).1 (yO.out k hk).2.1
        obtain ⟨wa,wn,wc,Sj⟩:=iZ nH.want;have yQ:Hid (∀ W,Below w4.heap.size w4 W→Calls prog 28 #[wv,.string key] W fun e w'=>e = .returned (.tuple #[.int .i64 (aQ (aP r1) key:Int),.bool (bq (aP r1) key)])∧Below w4.heap.size w4 w'):=fun W hW=>(jx wv (aP r1) key W (by have:=tZ.out;omega) (nH.below hW).want.at).mono fun e w' ⟨he,k,hk⟩=>⟨he,by rw [hk];exact Below.next hW (aB (Below.refl _ _) k)⟩
        have z4:=nH.c.2.1;have z3:=gH.cell 3 (by simp)
        simp only [aG,List.getElem_cons_zero,List.getElem_cons_succ] at z3;have wj:=ab nH;have gY:=ab gH;have yU:=ab xU;have gW:Hid (∀ k,(Value.slice a1 (bz r1).length c1).ownBlock=some k→k<w4.heap.size∧¬ F2 k∧k≠tb∧k≠ob):=fun k hk=>⟨al (yO.out k hk).1 xZ.size,(yO.out k hk).2⟩
        subst Sj;clear Jb xZ nH gH xU Ia q3 nL dH yV yO;go_wp2_with fail;go_region_held3 (fun w'=>w'.cell? ⟨ob,4,none⟩=some (.slice wa wn wc)∧w'.cell? ⟨BX,3,none⟩=some (.string key)) (go_keep)
         (first | (go_at_call 28;refine (yQ.out _ ?_).mono ?_;(first | exact (Below.refl _ _).drew | exact aB (Below.refl _ _) _);rintro e w5 ⟨rfl,fk⟩;have yN:=ab fk;have y4:=(wj.out.below fk).c.2.1;have y3:=(gY.out.below fk).cell 3 (by simp);simp only [aG,List.getElem_cons_zero,List.getElem_cons_succ] at y3;clear fk))
        all_goals
         have vo:=wj.out.below yN.out;have fk:=gY.out.below yN.out;have Ci:=ab (lR 1 at' n key value vg (.inl rfl) vo (by have:=tZ.out;omega) gM.out.1 gM.out.2)
         have b0:=fk.cell 0 (by simp)
         have b1:=fk.cell 1 (by simp)
         have b2:=fk.cell 2 (by simp)
         have b3:=fk.cell 3 (by simp)
         have b4:=fk.cell 4 (by simp)
         have b5:=fk.cell 5 (by simp)
         simp only [aG,List.getElem_cons_zero,List.getElem_cons_succ] at b0 b1 b2 b3 b4 b5;have gu:=ab fk;have yT:=ab vo.ts.ok;have H5:=ab vo.nd;clear z4 z3 y4 y3 yQ fk vo k0 k1 k2 k3 k4 k5 s0 s1 s2 s3 s4 s5;go_wp2_with fail;refine Ci.out.mono ?_
         rintro e w6 ⟨rfl,r2,wv2,qC,qG,mV⟩;obtain ⟨f1,f2,f3,f4⟩:=sB qC yT.out Wd.out;have oT:=ab (tN f4 qG.ts.ok);clear f4;have Vw:=kA qC yT.out;have G5:=gl qG.ts.ok;have mT:=tZ.out;have mW:=Mg.out;have yR:=ab (eZ qG.ts (by omega) qG.nd (by omega))
         have p6:=qG.c.1;have Hz:=ab qG;have nj:Hid (zR w6 (.slice a1 (bz r1).length c1) (iG (bz r1))∧∀ k,(Value.slice a1 (bz r1).length c1).ownBlock=some k→k<w6.heap.size∧¬ F2 k):=by
          have e5:∀ k,(Value.slice a1 (bz r1).length c1).ownBlock=some k→w6.heap[k]?=w4.heap[k]?:=fun k hk=>(mV.2 k (al (gW.out k hk).1 yN.out.size) (gW.out k hk).2.1 (gW.out k hk).2.2.1 (gW.out k hk).2.2.2).trans (yN.out.block k (gW.out k hk).1)
          exact ⟨yU.out.same e5,fun k hk=>⟨al (gW.out k hk).1 (aq yN.out.size mV.1),(gW.out k hk).2.1⟩⟩
         have yl:B.au w6 BX _ 44:=(mV.2 BX gu.out.lt gI.out.1 gI.out.2.1 gI.out.2.2).trans gu.out;have Fm:=ab yl;clear qG mV Ci b0 b1 b2 b3 b4 b5 yU gW gY wj gu yl;go_wp2_with fail;refine yR.out.mono ?_
         rintro e w7 ⟨⟨v2,rfl,eV⟩,hv7,BR⟩;have oA:=Hz.out.mv hv7 BR;obtain ⟨a2,c2,xQ,_⟩:=fw eV;rw [ez] at xQ;have CA:=ab (mH v2 (.slice a1 (bz r1).length c1) (iG (bz r2)) (iG (bz r1)) w7 (fw eV) (nj.out.1.same fun k hk=>BR.step.block k (nj.out.2 k hk).1 (nj.out.2 k hk).2) (oa Hz.out.nd) (oa H5.out) (vD f3) (by rw [ez];omega) (by rw [ez];omega))
         have q7:=ab (eC oA.ts (by omega))
         have p7:=oA.c.1;have Rn:=oA.c.2.1;have tI:B.au w7 BX _ 44:=((l6 (tb:=tb) (ob:=ob) BR).2 BX Fm.out.lt gI.out.1 gI.out.2.1 gI.out.2.2).trans Fm.out;have b0:=tI.cell 0 (by simp)
         have b3:=tI.cell 3 (by simp)
         have b4:=tI.cell 4 (by simp)
         simp only [aG,List.getElem_cons_zero,List.getElem_cons_succ] at b0 b3 b4;obtain ⟨wa2,wc2,GO⟩:=oA.want.form;have Cn:Hid (∀ k,Fw base A W1 (w7.drewN k) ob db tb (i+1)):=fun k=>⟨V0,VZ,F2,d2,r2,_,wv2,_,_,by omega,by have:=A9.out;omega,QO.out,oA.below (aB (Below.refl _ _) k)⟩
         have Fk:=ab (l9 key value w7 gM.out.1 gM.out.2);have VT:=WD.out;have lY:=oT.out;have g1:(bY r2:Int)≤2*(jo r1:Int)+1:=by omega
         have g2:((bz r1).length:Int) - ((bz r2).length:Int)≤2*(jo r1:Int)+1:=by omega
         have g3:(jo r1:Int)≤64:=by omega
         have g5:(bY r2:Int)≤5000:=by omega
         have g6:((bz r2).length:Int)≤5000:=by omega
         have g7:((bz r1).length:Int)≤5000:=by omega
         subst xQ GO;clear f1 f2 f3 oT Vw G5 mT mW VT yR nj eV hv7 BR oA Hz Fm tI p6 gI;rcases lY with ⟨hc,z⟩ | ⟨hc,z,zw,za⟩ | ⟨hc,z,zw⟩
         all_goals
          rw [hc] at Fk;go_wp2_with fail;refine q7.out.mono ?_
          rintro e XE ⟨rfl,rfl⟩;go_wp2_with fail;refine Fk.out.mono ?_
          rintro e w7a ⟨rfl,rfl⟩;go_wp2_with fail;refine CA.out.mono ?_
          rintro e w8 ⟨rfl,kk,rfl⟩;clear CA q7 p7 Rn b0 b3 b4;go_wp2;go_roundw
          case rel =>
           refine ⟨i+1,?_,?_,CG.out.1,CG.out.2,Cn.out kk⟩
           ·rfl
           ·go_num
          case measure=>simp [intOf];omega
      ·as_aux_lemma =>
        have Sg:((bY r:Int) == 0)=false:=by rw [beq_eq_false_iff_ne];omega
        have ZI:=ab Sg;clear hz Sg uJ;go_wp2_with fail;refine wk.out.mono ?_
        rintro e w1' ⟨rfl,rfl⟩;have Sg:=ZI.out;clear ZI;clear OV;have Ci:=ab (lR 1 at' n key value vg (.inl rfl) Bb.out (by have:=fL.out;omega) gM.out.1 gM.out.2)
        clear p3 wk;go_wp2_with fail;refine Ci.out.mono ?_
        rintro e w5 ⟨rfl,r2,wv2,qC,vo,_⟩;have Wz:Hid (Fw base A W1 w5 ob db tb (i+1)):=⟨fb,fg,F,d,r2,T,wv2,root,tx,by have:=kA qC Bb.out.ts.ok;have:=fL.out;omega,by have:=A9.out;omega,H9.out,vo⟩
        clear qC vo Ci k0 k1 k2 k3 k4 k5 s0 s1 s2 s3 s4 s5 xc;go_wp2;go_roundw
        case rel =>
         refine ⟨i+1,?_,?_,CG.out.1,CG.out.2,Wz.out⟩
         ·rfl
         ·go_num
        case measure=>simp [intOf];omega
    ·by_cases hb:i % 7=3
     ·as_aux_lemma =>
       have Eb:Int.tmod (i:Int) 7=3:=by rw [jh (by omega)];omega
       clear hb wk p3;have Fb:=ab (pe Bb.out (by have:=fL.out;omega) (by have:=H9.out;omega) (by have:=A9.out;omega))
       go_wp2_with fail;generalize hWB:wr.alloc (.cells #[.int .i64 2,.int .i64 at',.int .i64 n,.string key,.string value,.string vg] 44)=WB at *;generalize VU:wr.heap.size=BX at *;refine Fb.out.mono ?_
       rintro e w2 ⟨rfl,eS⟩;obtain ⟨V0,VZ,F2,d2,L,zi,dW,qF,mU⟩:=eS.out;obtain ⟨r1,eN⟩ : ∃ r1,r1=laid T r:=⟨_,rfl⟩;rw [← eN] at zi dW qF;have qL:aP r1=aP r:=by rw [eN];exact (rX Bb.out.ts.ok).2
       rw [← qL] at dW;have zE:V9 r1:=vA (qF w2);have mW:=gl dW.ts.ok;have mT:(aP r1).length≤i+1:=by rw [qL];exact fL.out
       have qK:3000≤(Q.fY (fN (Q.T0 4000) L) 4000).length:=by
        have h1:=pw L (Q.T0 4000) 4000;have h2:=oX 3998 (by decide)
        have h3:=zi.length_eq;rw [show (3998:Nat)+2=4000 from rfl] at h2
        omega
       obtain ⟨T1,Pw⟩ : ∃ T1,T1=fN (Q.T0 4000) L:=⟨_,rfl⟩;rw [← Pw] at dW qK;obtain ⟨yj,xX⟩:=mU.2 BX nN.out.lt iy.out.1 iy.out.2.1 iy.out.2.2.1 iy.out.2.2.2.2;have yk:B.au w2 BX #[.int .i64 2,.int .i64 at',.int .i64 n,.string key,.string value,.string vg] 44:=yj.trans nN.out;have yS:=ab (eZ dW.ts (by omega) dW.nd (by omega))
       have p3:=dW.c.1;have gX:=ab dW;have bH:=ab yk;have gI:Hid (¬ F2 BX∧BX≠tb∧BX≠ob):=⟨xX,iy.out.2.1,iy.out.2.2.1⟩;have Wd:=ab zE;have tZ:=ab mT;have QO:=ab qK;have WD:Hid (jo r1≤64):=vW dW.ts.ok (by omega)
       have Mg:=ab mW;clear eS mU eN zi dW qF qL zE mW mT qK Pw yj yk xX Fb Bb nN iy;go_wp2_with fail;refine yS.out.mono ?_
       rintro e w3 ⟨⟨v1,rfl,dq⟩,si,qI⟩;have fX:=gX.out.mv si qI;have b6:B.au w3 BX _ 44:=((l6 (tb:=tb) (ob:=ob) qI).2 BX bH.out.lt gI.out.1 gI.out.2.1 gI.out.2.2).trans bH.out;have xV:=fw dq;have OM:∀ k,v1.ownBlock=some k→k<w3.heap.size∧¬ F2 k∧k≠tb∧k≠ob:=fun k hk=>by
        have h1:=World.ownsRow.lt dq k hk;have h2:=gX.out.new h1.1;exact ⟨h1.2,h2.1,h2.2.1,h2.2.2.1⟩
       obtain ⟨a1,c1,xR,_⟩:=fw dq;rw [ez] at xR;have Ia:=ab (jR fX.ts (by have:=tZ.out;omega) (Below.refl _ _))
       have q3:=fX.c.1;have nL:=ab fX;have dH:=ab b6;have yV:=ab xV;have yO:=ab OM;subst xR;clear dq si qI fX b6 xV OM yS p3 bH;go_wp2_with fail;refine Ia.out.mono ?_
       rintro e w4 ⟨rfl,Jb,xZ⟩;have nH:=nL.out.mv Jb xZ;have gH:B.au w4 BX _ 44:=((l6 (tb:=tb) (ob:=ob) xZ).2 BX dH.out.lt gI.out.1 gI.out.2.1 gI.out.2.2).trans dH.out;have xU:=yV.out.same fun k hk=>xZ.step.block k (yO.out k hk).1 (yO.out k hk).2.1
       obtain ⟨wa,wn,wc,Sj⟩:=iZ nH.want;have yQ:Hid (∀ W,Below w4.heap.size w4 W→Calls prog 28 #[wv,.string key] W fun e w'=>e = .returned (.tuple #[.int .i64 (aQ (aP r1) key:Int),.bool (bq (aP r1) key)])∧Below w4.heap.size w4 w'):=fun W hW=>(jx wv (aP r1) key W (by have:=tZ.out;omega) (nH.below hW).want.at).mono fun e w' ⟨he,k,hk⟩=>⟨he,by rw [hk];exact Below.next hW (aB (Below.refl _ _) k)⟩
       have z4:=nH.c.2.1;have z3:=gH.cell 3 (by simp)
       simp only [aG,List.getElem_cons_zero,List.getElem_cons_succ] at z3;have wj:=ab nH;have gY:=ab gH;have yU:=ab xU;have gW:Hid (∀ k,(Value.slice a1 (bz r1).length c1).ownBlock=some k→k<w4.heap.size∧¬ F2 k∧k≠tb∧k≠ob):=fun k hk=>⟨al (yO.out k hk).1 xZ.size,(yO.out k hk).2⟩
       subst Sj;clear Jb xZ nH gH xU Ia q3 nL dH yV yO;go_wp2_with fail;go_region_held3 (fun w'=>w'.cell? ⟨ob,4,none⟩=some (.slice wa wn wc)∧w'.cell? ⟨BX,3,none⟩=some (.string key)) (go_keep)
        (first | (go_at_call 28;refine (yQ.out _ ?_).mono ?_;(first | exact (Below.refl _ _).drew | exact aB (Below.refl _ _) _);rintro e w5 ⟨rfl,fk⟩;have yN:=ab fk;have y4:=(wj.out.below fk).c.2.1;have y3:=(gY.out.below fk).cell 3 (by simp);simp only [aG,List.getElem_cons_zero,List.getElem_cons_succ] at y3;clear fk))
       all_goals
        have vo:=wj.out.below yN.out;have fk:=gY.out.below yN.out;have Ci:=ab (lR 2 at' n key value vg (.inr rfl) vo (by have:=tZ.out;omega) gM.out.1 gM.out.2)
        have b0:=fk.cell 0 (by simp)
        have b1:=fk.cell 1 (by simp)
        have b2:=fk.cell 2 (by simp)
        have b3:=fk.cell 3 (by simp)
        have b4:=fk.cell 4 (by simp)
        have b5:=fk.cell 5 (by simp)
        simp only [aG,List.getElem_cons_zero,List.getElem_cons_succ] at b0 b1 b2 b3 b4 b5;have gu:=ab fk;have yT:=ab vo.ts.ok;have H5:=ab vo.nd;clear z4 z3 y4 y3 yQ fk vo k0 k1 k2 k3 k4 k5 s0 s1 s2 s3 s4 s5;go_wp2_with fail;refine Ci.out.mono ?_
        rintro e w6 ⟨rfl,r2,wv2,qC,qG,mV⟩;obtain ⟨f1,f2,f3,f4⟩:=sB qC yT.out Wd.out;have oT:=ab (AV f4 qG.ts.ok);clear f4;have Vw:=kA qC yT.out;have G5:=gl qG.ts.ok;have mT:=tZ.out;have mW:=Mg.out;have yR:=ab (eZ qG.ts (by omega) qG.nd (by omega))
        have p6:=qG.c.1;have Hz:=ab qG;have nj:Hid (zR w6 (.slice a1 (bz r1).length c1) (iG (bz r1))∧∀ k,(Value.slice a1 (bz r1).length c1).ownBlock=some k→k<w6.heap.size∧¬ F2 k):=by
         have e5:∀ k,(Value.slice a1 (bz r1).length c1).ownBlock=some k→w6.heap[k]?=w4.heap[k]?:=fun k hk=>(mV.2 k (al (gW.out k hk).1 yN.out.size) (gW.out k hk).2.1 (gW.out k hk).2.2.1 (gW.out k hk).2.2.2).trans (yN.out.block k (gW.out k hk).1)
         exact ⟨yU.out.same e5,fun k hk=>⟨al (gW.out k hk).1 (aq yN.out.size mV.1),(gW.out k hk).2.1⟩⟩
        have yl:B.au w6 BX _ 44:=(mV.2 BX gu.out.lt gI.out.1 gI.out.2.1 gI.out.2.2).trans gu.out;have Fm:=ab yl;clear qG mV Ci b0 b1 b2 b3 b4 b5 yU gW gY wj gu yl;go_wp2_with fail;refine yR.out.mono ?_
        rintro e w7 ⟨⟨v2,rfl,eV⟩,hv7,BR⟩;have oA:=Hz.out.mv hv7 BR;obtain ⟨a2,c2,xQ,_⟩:=fw eV;rw [ez] at xQ;have CA:=ab (mH v2 (.slice a1 (bz r1).length c1) (iG (bz r2)) (iG (bz r1)) w7 (fw eV) (nj.out.1.same fun k hk=>BR.step.block k (nj.out.2 k hk).1 (nj.out.2 k hk).2) (oa Hz.out.nd) (oa H5.out) (vD f3) (by rw [ez];omega) (by rw [ez];omega))
        have q7:=ab (eC oA.ts (by omega))
        have p7:=oA.c.1;have Rn:=oA.c.2.1;have tI:B.au w7 BX _ 44:=((l6 (tb:=tb) (ob:=ob) BR).2 BX Fm.out.lt gI.out.1 gI.out.2.1 gI.out.2.2).trans Fm.out;have b0:=tI.cell 0 (by simp)
        have b3:=tI.cell 3 (by simp)
        have b4:=tI.cell 4 (by simp)
        simp only [aG,List.getElem_cons_zero,List.getElem_cons_succ] at b0 b3 b4;obtain ⟨wa2,wc2,GO⟩:=oA.want.form;have Cn:Hid (∀ k,Fw base A W1 (w7.drewN k) ob db tb (i+1)):=fun k=>⟨V0,VZ,F2,d2,r2,_,wv2,_,_,by omega,by have:=A9.out;omega,QO.out,oA.below (aB (Below.refl _ _) k)⟩
        have Fk:=ab (l9 key value w7 gM.out.1 gM.out.2);have VT:=WD.out;have lY:=oT.out;have g1:(bY r2:Int)≤2*(jo r1:Int)+1:=by omega
        have g2:((bz r1).length:Int) - ((bz r2).length:Int)≤2*(jo r1:Int)+1:=by omega
        have g3:(jo r1:Int)≤64:=by omega
        have g5:(bY r2:Int)≤5000:=by omega
        have g6:((bz r2).length:Int)≤5000:=by omega
        have g7:((bz r1).length:Int)≤5000:=by omega
        subst xQ GO;clear f1 f2 f3 oT Vw G5 mT mW VT yR nj eV hv7 BR oA Hz Fm tI p6 gI;rcases lY with ⟨hc,z⟩ | ⟨hc,z,zw,za⟩ | ⟨hc,z,zw⟩
        ·go_wp2_with fail;refine q7.out.mono ?_
         rintro e XE ⟨rfl,rfl⟩;go_wp2_with fail;refine CA.out.mono ?_
         rintro e w8 ⟨rfl,kk,rfl⟩;clear CA q7 p7 Rn b0 b3 b4;go_wp2;go_roundw
         case rel =>
          refine ⟨i+1,?_,?_,CG.out.1,CG.out.2,Cn.out kk⟩
          ·rfl
          ·go_num
         case measure=>simp [intOf];omega
        all_goals
         cases KT:cF (key,value)
         all_goals
          rw [KT] at Fk;go_wp2_with fail;refine q7.out.mono ?_
          rintro e XE ⟨rfl,rfl⟩;go_wp2_with fail;refine Fk.out.mono ?_
          rintro e w7a ⟨rfl,rfl⟩;go_wp2_with fail;refine CA.out.mono ?_
          rintro e w8 ⟨rfl,kk,rfl⟩;clear CA q7 p7 Rn b0 b3 b4;go_wp2;go_roundw
          case rel =>
           refine ⟨i+1,?_,?_,CG.out.1,CG.out.2,Cn.out kk⟩
           ·rfl
           ·go_num
          case measure=>simp [intOf];omega
     ·obtain ⟨m7,Eb,OV⟩ : ∃ m7:Int,Int.tmod (i:Int) 7=m7∧(m7 == 3)=false:=⟨_,rfl,by rw [jh (by omega),beq_eq_false_iff_ne];omega⟩
      clear hb;by_cases hz:bY r=0
      ·as_aux_lemma =>
        rw [hz] at wk;have Fb:=ab (pe Bb.out (by have:=fL.out;omega) (by have:=H9.out;omega) (by have:=A9.out;omega))
        go_wp2_with fail;refine wk.out.mono ?_
        rintro e w1' ⟨rfl,rfl⟩;clear wk p3 hz;go_wp2_with fail;generalize hWB:wr.alloc (.cells #[.int .i64 2,.int .i64 at',.int .i64 n,.string key,.string value,.string vg] 44)=WB at *;generalize VU:wr.heap.size=BX at *;refine Fb.out.mono ?_
        rintro e w2 ⟨rfl,eS⟩;obtain ⟨V0,VZ,F2,d2,L,zi,dW,qF,mU⟩:=eS.out;obtain ⟨r1,eN⟩ : ∃ r1,r1=laid T r:=⟨_,rfl⟩;rw [← eN] at zi dW qF;have qL:aP r1=aP r:=by rw [eN];exact (rX Bb.out.ts.ok).2
        rw [← qL] at dW;have zE:V9 r1:=vA (qF w2);have mW:=gl dW.ts.ok;have mT:(aP r1).length≤i+1:=by rw [qL];exact fL.out
        have qK:3000≤(Q.fY (fN (Q.T0 4000) L) 4000).length:=by
         have h1:=pw L (Q.T0 4000) 4000;have h2:=oX 3998 (by decide)
         have h3:=zi.length_eq;rw [show (3998:Nat)+2=4000 from rfl] at h2
         omega
        obtain ⟨T1,Pw⟩ : ∃ T1,T1=fN (Q.T0 4000) L:=⟨_,rfl⟩;rw [← Pw] at dW qK;obtain ⟨yj,xX⟩:=mU.2 BX nN.out.lt iy.out.1 iy.out.2.1 iy.out.2.2.1 iy.out.2.2.2.2;have yk:B.au w2 BX #[.int .i64 2,.int .i64 at',.int .i64 n,.string key,.string value,.string vg] 44:=yj.trans nN.out;have yS:=ab (eZ dW.ts (by omega) dW.nd (by omega))
        have p3:=dW.c.1;have gX:=ab dW;have bH:=ab yk;have gI:Hid (¬ F2 BX∧BX≠tb∧BX≠ob):=⟨xX,iy.out.2.1,iy.out.2.2.1⟩;have Wd:=ab zE;have tZ:=ab mT;have QO:=ab qK;have WD:Hid (jo r1≤64):=vW dW.ts.ok (by omega)
        have Mg:=ab mW;clear eS mU eN zi dW qF qL zE mW mT qK Pw yj yk xX Fb Bb nN iy;go_wp2_with fail;refine yS.out.mono ?_
        rintro e w3 ⟨⟨v1,rfl,dq⟩,si,qI⟩;have fX:=gX.out.mv si qI;have b6:B.au w3 BX _ 44:=((l6 (tb:=tb) (ob:=ob) qI).2 BX bH.out.lt gI.out.1 gI.out.2.1 gI.out.2.2).trans bH.out;have xV:=fw dq;have OM:∀ k,v1.ownBlock=some k→k<w3.heap.size∧¬ F2 k∧k≠tb∧k≠ob:=fun k hk=>by
         have h1:=World.ownsRow.lt dq k hk;have h2:=gX.out.new h1.1;exact ⟨h1.2,h2.1,h2.2.1,h2.2.2.1⟩
        obtain ⟨a1,c1,xR,_⟩:=fw dq;rw [ez] at xR;have Ia:=ab (jR fX.ts (by have:=tZ.out;omega) (Below.refl _ _))
        have q3:=fX.c.1;have nL:=ab fX;have dH:=ab b6;have yV:=ab xV;have yO:=ab OM;subst xR;clear dq si qI fX b6 xV OM yS p3 bH;go_wp2_with fail;refine Ia.out.mono ?_
        rintro e w4 ⟨rfl,Jb,xZ⟩;have nH:=nL.out.mv Jb xZ;have gH:B.au w4 BX _ 44:=((l6 (tb:=tb) (ob:=ob) xZ).2 BX dH.out.lt gI.out.1 gI.out.2.1 gI.out.2.2).trans dH.out;have xU:=yV.out.same fun k hk=>xZ.step.block k (yO.out k hk).1 (yO.out k hk).2.1
        obtain ⟨wa,wn,wc,Sj⟩:=iZ nH.want;have yQ:Hid (∀ W,Below w4.heap.size w4 W→Calls prog 28 #[wv,.string key] W fun e w'=>e = .returned (.tuple #[.int .i64 (aQ (aP r1) key:Int),.bool (bq (aP r1) key)])∧Below w4.heap.size w4 w'):=fun W hW=>(jx wv (aP r1) key W (by have:=tZ.out;omega) (nH.below hW).want.at).mono fun e w' ⟨he,k,hk⟩=>⟨he,by rw [hk];exact Below.next hW (aB (Below.refl _ _) k)⟩
        have z4:=nH.c.2.1;have z3:=gH.cell 3 (by simp)
        simp only [aG,List.getElem_cons_zero,List.getElem_cons_succ] at z3;have wj:=ab nH;have gY:=ab gH;have yU:=ab xU;have gW:Hid (∀ k,(Value.slice a1 (bz r1).length c1).ownBlock=some k→k<w4.heap.size∧¬ F2 k∧k≠tb∧k≠ob):=fun k hk=>⟨al (yO.out k hk).1 xZ.size,(yO.out k hk).2⟩
        subst Sj;clear Jb xZ nH gH xU Ia q3 nL dH yV yO;go_wp2_with fail;go_region_held3 (fun w'=>w'.cell? ⟨ob,4,none⟩=some (.slice wa wn wc)∧w'.cell? ⟨BX,3,none⟩=some (.string key)) (go_keep)
         (first | (go_at_call 28;refine (yQ.out _ ?_).mono ?_;(first | exact (Below.refl _ _).drew | exact aB (Below.refl _ _) _);rintro e w5 ⟨rfl,fk⟩;have yN:=ab fk;have y4:=(wj.out.below fk).c.2.1;have y3:=(gY.out.below fk).cell 3 (by simp);simp only [aG,List.getElem_cons_zero,List.getElem_cons_succ] at y3;clear fk))
        all_goals
         have vo:=wj.out.below yN.out;have fk:=gY.out.below yN.out;have Ci:=ab (lR 2 at' n key value vg (.inr rfl) vo (by have:=tZ.out;omega) gM.out.1 gM.out.2)
         have b0:=fk.cell 0 (by simp)
         have b1:=fk.cell 1 (by simp)
         have b2:=fk.cell 2 (by simp)
         have b3:=fk.cell 3 (by simp)
         have b4:=fk.cell 4 (by simp)
         have b5:=fk.cell 5 (by simp)
         simp only [aG,List.getElem_cons_zero,List.getElem_cons_succ] at b0 b1 b2 b3 b4 b5;have gu:=ab fk;have yT:=ab vo.ts.ok;have H5:=ab vo.nd;clear z4 z3 y4 y3 yQ fk vo k0 k1 k2 k3 k4 k5 s0 s1 s2 s3 s4 s5;go_wp2_with fail;refine Ci.out.mono ?_
         rintro e w6 ⟨rfl,r2,wv2,qC,qG,mV⟩;obtain ⟨f1,f2,f3,f4⟩:=sB qC yT.out Wd.out;have oT:=ab (AV f4 qG.ts.ok);clear f4;have Vw:=kA qC yT.out;have G5:=gl qG.ts.ok;have mT:=tZ.out;have mW:=Mg.out;have yR:=ab (eZ qG.ts (by omega) qG.nd (by omega))
         have p6:=qG.c.1;have Hz:=ab qG;have nj:Hid (zR w6 (.slice a1 (bz r1).length c1) (iG (bz r1))∧∀ k,(Value.slice a1 (bz r1).length c1).ownBlock=some k→k<w6.heap.size∧¬ F2 k):=by
          have e5:∀ k,(Value.slice a1 (bz r1).length c1).ownBlock=some k→w6.heap[k]?=w4.heap[k]?:=fun k hk=>(mV.2 k (al (gW.out k hk).1 yN.out.size) (gW.out k hk).2.1 (gW.out k hk).2.2.1 (gW.out k hk).2.2.2).trans (yN.out.block k (gW.out k hk).1)
          exact ⟨yU.out.same e5,fun k hk=>⟨al (gW.out k hk).1 (aq yN.out.size mV.1),(gW.out k hk).2.1⟩⟩
         have yl:B.au w6 BX _ 44:=(mV.2 BX gu.out.lt gI.out.1 gI.out.2.1 gI.out.2.2).trans gu.out;have Fm:=ab yl;clear qG mV Ci b0 b1 b2 b3 b4 b5 yU gW gY wj gu yl;go_wp2_with fail;refine yR.out.mono ?_
         rintro e w7 ⟨⟨v2,rfl,eV⟩,hv7,BR⟩;have oA:=Hz.out.mv hv7 BR;obtain ⟨a2,c2,xQ,_⟩:=fw eV;rw [ez] at xQ;have CA:=ab (mH v2 (.slice a1 (bz r1).length c1) (iG (bz r2)) (iG (bz r1)) w7 (fw eV) (nj.out.1.same fun k hk=>BR.step.block k (nj.out.2 k hk).1 (nj.out.2 k hk).2) (oa Hz.out.nd) (oa H5.out) (vD f3) (by rw [ez];omega) (by rw [ez];omega))
         have q7:=ab (eC oA.ts (by omega))
         have p7:=oA.c.1;have Rn:=oA.c.2.1;have tI:B.au w7 BX _ 44:=((l6 (tb:=tb) (ob:=ob) BR).2 BX Fm.out.lt gI.out.1 gI.out.2.1 gI.out.2.2).trans Fm.out;have b0:=tI.cell 0 (by simp)
         have b3:=tI.cell 3 (by simp)
         have b4:=tI.cell 4 (by simp)
         simp only [aG,List.getElem_cons_zero,List.getElem_cons_succ] at b0 b3 b4;obtain ⟨wa2,wc2,GO⟩:=oA.want.form;have Cn:Hid (∀ k,Fw base A W1 (w7.drewN k) ob db tb (i+1)):=fun k=>⟨V0,VZ,F2,d2,r2,_,wv2,_,_,by omega,by have:=A9.out;omega,QO.out,oA.below (aB (Below.refl _ _) k)⟩
         have Fk:=ab (l9 key value w7 gM.out.1 gM.out.2);have VT:=WD.out;have lY:=oT.out;have g1:(bY r2:Int)≤2*(jo r1:Int)+1:=by omega
         have g2:((bz r1).length:Int) - ((bz r2).length:Int)≤2*(jo r1:Int)+1:=by omega
         have g3:(jo r1:Int)≤64:=by omega
         have g5:(bY r2:Int)≤5000:=by omega
         have g6:((bz r2).length:Int)≤5000:=by omega
         have g7:((bz r1).length:Int)≤5000:=by omega
         subst xQ GO;clear f1 f2 f3 oT Vw G5 mT mW VT yR nj eV hv7 BR oA Hz Fm tI p6 gI;rcases lY with ⟨hc,z⟩ | ⟨hc,z,zw,za⟩ | ⟨hc,z,zw⟩
         ·go_wp2_with fail;refine q7.out.mono ?_
          rintro e XE ⟨rfl,rfl⟩;go_wp2_with fail;refine CA.out.mono ?_
          rintro e w8 ⟨rfl,kk,rfl⟩;clear CA q7 p7 Rn b0 b3 b4;go_wp2;go_roundw
          case rel =>
           refine ⟨i+1,?_,?_,CG.out.1,CG.out.2,Cn.out kk⟩
           ·rfl
           ·go_num
          case measure=>simp [intOf];omega
         all_goals
          cases KT:cF (key,value)
          all_goals
           rw [KT] at Fk;go_wp2_with fail;refine q7.out.mono ?_
           rintro e XE ⟨rfl,rfl⟩;go_wp2_with fail;refine Fk.out.mono ?_
           rintro e w7a ⟨rfl,rfl⟩;go_wp2_with fail;refine CA.out.mono ?_
           rintro e w8 ⟨rfl,kk,rfl⟩;clear CA q7 p7 Rn b0 b3 b4;go_wp2;go_roundw
           case rel =>
            refine ⟨i+1,?_,?_,CG.out.1,CG.out.2,Cn.out kk⟩
            ·rfl
            ·go_num
           case measure=>simp [intOf];omega
      ·as_aux_lemma =>
        have Sg:((bY r:Int) == 0)=false:=by rw [beq_eq_false_iff_ne];omega
        have ZI:=ab Sg;clear hz Sg uJ;go_wp2_with fail;refine wk.out.mono ?_
        rintro e w1' ⟨rfl,rfl⟩;have Sg:=ZI.out;clear ZI;clear OV;have Ci:=ab (lR 2 at' n key value vg (.inr rfl) Bb.out (by have:=fL.out;omega) gM.out.1 gM.out.2)
        clear p3 wk;go_wp2_with fail;refine Ci.out.mono ?_
        rintro e w5 ⟨rfl,r2,wv2,qC,vo,_⟩;have Wz:Hid (Fw base A W1 w5 ob db tb (i+1)):=⟨fb,fg,F,d,r2,T,wv2,root,tx,by have:=kA qC Bb.out.ts.ok;have:=fL.out;omega,by have:=A9.out;omega,H9.out,vo⟩
        clear qC vo Ci k0 k1 k2 k3 k4 k5 s0 s1 s2 s3 s4 s5 xc;go_wp2;go_roundw
        case rel =>
         refine ⟨i+1,?_,?_,CG.out.1,CG.out.2,Wz.out⟩
         ·rfl
         ·go_num
        case measure=>simp [intOf];omega
   ·as_aux_lemma =>
     have n1:¬ kind=1:=fun e=>ri (.inl e)
     have n2:¬ kind=2:=fun e=>ri (.inr e)
     have n3:(kind != 1)=true:=by rw [bne_iff_ne];exact n1
     have n4:(kind != 2)=true:=by rw [bne_iff_ne];exact n2
     clear ri n1 n2;have adF:Hid (Fw base A W1 (wr.alloc (.cells #[.int .i64 kind,.int .i64 at',.int .i64 n,.string key,.string value,.string vg] 44)) ob db tb (i+1)):=⟨fb,fg,F,d,r,T,wv,root,tx,by have:=fL.out;omega,by have:=A9.out;omega,H9.out,Bb.out⟩
     go_wp2;go_roundw
     case rel =>
      refine ⟨i+1,?_,?_,CG.out.1,CG.out.2,adF.out⟩
      ·rfl
      ·go_num
     case measure=>simp [intOf];omega
  ·as_aux_lemma =>
    have fG:(¬ (i:Int)<(K:Int))∨((i:Int)<(K:Int)∧¬ (i:Int)<300):=by omega
    have p3:=Fg.out.c.1;have p4:=Fg.out.c.2.1;have HH:Hid (∀ W,Below wr.heap.size wr W→Calls prog 23 #[.pointer (some ⟨tb,0,none⟩),wv] W fun e w'=>e = .returned (.bool true)∧Os base A W1 w' ob db tb fb fg F d r T wv root tx (aP r)):=fun W hW=>RW (Fg.out.below hW) (by have:=fL.out;omega) (.inl ⟨rfl,rfl⟩)
    obtain ⟨wa,wn,wc,Sj⟩:=iZ Fg.out.want;subst Sj;clear bX;rcases fG with h1 | ⟨h1,h2⟩
    all_goals
     go_wp2_with fail;go_region_held3 (fun w'=>w'.cell? ⟨ob,3,none⟩=some (.pointer (some ⟨tb,0,none⟩))∧w'.cell? ⟨ob,4,none⟩=some (.slice wa wn wc)) (go_keep)
      (first | (go_at_call 23;refine (HH.out _ ?_).mono ?_;(first | exact (Below.refl _ _).drew | exact aB (Below.refl _ _) _);rintro e w4 ⟨rfl,nH⟩;have n3:=nH.c.1;have n4:=nH.c.2.1;have wj:=ab nH;clear nH))
     all_goals
      clear p3 p4 n3 n4 xc;go_wp2;rw [HQ.out];exact ⟨rfl,nM.out _ wj.out.ff⟩
end T
end Go.Proofs.YtihmgigfkmofnaaGreatDoor
