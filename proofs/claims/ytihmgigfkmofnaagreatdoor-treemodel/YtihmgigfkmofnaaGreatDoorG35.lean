import Derived.Test.YtihmgigfkmofnaaGreatDoorG34
set_option maxHeartbeats 4000000
set_option maxRecDepth 100000
open Go.Proofs.Tryz
namespace Go.Proofs.YtihmgigfkmofnaaGreatDoor
namespace T
open Go.RowKit
section
variable {PG:Int→Option PD} {w0:World} {lo pb:Nat} {pv:Value} {P:List Nat} {tx:Nat} {h:Nat} {w:World} {sv:Value} {Z Z1:List S.Sh}
theorem pY.setRow{H:Nat}{cs:Array Value}{sx:Value}{wx:World}(hp:pY w0 lo pb pv P tx wx sx Z1)(ht:mN pb w sv wx sx)(BO:w.heap.size≤H)(hw0:w0.heap.size≤w.heap.size)(FG:H≠pb)(fM:sx.ownBlock≠some H):pY w0 lo pb pv P tx (wx.setRow H cs) sx Z1∧mN pb w sv (wx.setRow H cs) sx:=by
 have dF:=C3 wx H cs;have h3:=hp;refine ⟨⟨⟨dF.os.trans h3.eV.os,dF.tape.trans h3.eV.tape,dF.output.trans h3.eV.output,al h3.eV.size dF.size,fun k hk=>(dF.block k (ar hk h3.eV.size) (by omega)).trans (h3.eV.block k hk)⟩,(dF.block pb h3.row.lt (fun e=>FG e.symm)).trans h3.row,h3.sh.same fun g' zF=>dF.block g' (h3.sh.dn zF).2 (fun e=>fM (e▸zF)),h3.ord,al h3.lo dF.size,h3.pg,h3.pl⟩,?_⟩
 exact ⟨al ht.size dF.size,fun k hk h1 h2=>(dF.block k (ar hk ht.size) (by omega)).trans (ht.block k hk h1 h2),ht.own⟩
theorem Bk(A:Nat→Addr){b:Nat}{n:SN}{xv lv cv:Value}{f:Int}{lk:List B.Lk}(xT:dG w0 b n xv lv cv)(hu:¬ n.us.length=0)(hE:B.p8 A w0)(hP:pY w0 lo pb pv P tx w sv Z)(hbo:∀ W,Below w.heap.size w W→Calls prog 184 #[.pointer (some ⟨pb,0,none⟩),.pointer (some ⟨b,0,none⟩)] W fun e w'=>∃ ov Sz,e = .returned (.agg #[.int .i64 f,Sz])∧B.cV w' Sz lk∧pY w0 lo pb pv P tx w' ov Z1∧mN pb W sv w' ov)(lJ:B.nB f lk true=none)(my:lk.length≤4000):Calls prog 149 #[.pointer (some ⟨pb,0,none⟩),.pointer (some ⟨b,0,none⟩)] w fun e w'=>∃ Xg,e = .returned (.agg #[.int .i64 66,.int .i64 0,.int .u64 0,.int .i64 ((lk.length:Int)+1),.string (B.pX f lk)])∧pY w0 lo pb pv P tx w' Xg Z1∧mN pb w sv w' Xg:=by
 obtain ⟨W1,iy⟩ : ∃ W1,w.alloc (.cells #[.int .i64 0,.int .i64 0,.int .u64 0,.int .i64 0,.string ⟨#[]⟩] 87)=W1:=⟨_,rfl⟩;have aP:Below w.heap.size w W1:=iy▸ai w _;have r1:B.ax W1 w.heap.size #[.int .i64 0,.int .i64 0,.int .u64 0,.int .i64 0,.string ⟨#[]⟩] 87:=iy▸B.ax.new w _ _;obtain ⟨H,hH⟩ : ∃ H,w.heap.size=H:=⟨_,rfl⟩;rw [hH] at r1;have jk:=(xT.below hP.eV).below aP;have mZ:=ab (ch b n xv lv cv W1 jk);rw [show decide (n.us.length=0)=false by simp [hu]] at mZ
 have XU:=ab (hbo W1 aP);have nV:=ab r1;have bQ:=ab aP;have HP:=ab hP;have od:=ab lJ;have FQ:=ab my;have HE:=ab hE;have HHP:Hid (w.heap.size=H∧H≠pb∧sv.ownBlock≠some H∧H<W1.heap.size):=⟨hH,by have:=hP.row.lt;omega,fun e=>by have:=(hP.sh.dn e).2;omega,r1.lt⟩
 have HMK:Hid (B.UX lk):=fun p hp=>by
  have:=(B.jV lJ).2.2.1 p hp;have:=B.lA this;omega
 clear xT jk hE lJ aP r1 hu hP hbo my;go_enter func149,ntmps149;go_wp2_with fail;refine mZ.out.mono ?_
 rintro e w1' ⟨rfl,rfl⟩;go_wp2_with fail;refine XU.out.mono ?_
 rintro e w2 ⟨s2,l2,rfl,Ta,Xs,tJ⟩;obtain ⟨la,lc,nT⟩:=Ta.form;subst nT;obtain ⟨W3,zH⟩ : ∃ W3,w2.alloc (.cells #[.int .i64 f,.slice la lk.length lc] 150)=W3:=⟨_,rfl⟩;have bF:Below w2.heap.size w2 W3:=zH▸ai w2 _;obtain ⟨K,hK⟩ : ∃ K,w2.heap.size=K:=⟨_,rfl⟩;have rK:B.ax W3 K #[.int .i64 f,.slice la lk.length lc] 150:=by rw [← hK];exact zH▸B.ax.new w2 _ _
 have vV:=Xs.below bF;have Rz:=HHP.out;have r2:B.ax w2 H #[.int .i64 0,.int .i64 0,.int .u64 0,.int .i64 0,.string ⟨#[]⟩] 87:=(tJ.block H Rz.2.2.2 Rz.2.1 Rz.2.2.1).trans nV.out;have Y0:s2.ownBlock≠some H:=fun e=>by
  rcases tJ.own H e with e' | e'
  ·exact Rz.2.2.1 e'
  ·have:=Rz.2.2.2;omega
 have Va:=ab (B.QH A f _ lk W3 HMK.out (by have:=FQ.out;omega) (Ta.below bF) (HE.out.below vV.eV))
 have k0:=rK.c0;have k1:=rK.c1;have RG:=ab (r2.below bF);have HRK:=ab rK;have HP3:=ab vV;have HT3:=ab ((mN.below sv bQ.out).trans (tJ.trans (mN.below s2 bF)));have kO:=ab Y0;clear Ta Xs tJ bF rK vV r2 Rz Y0 XU mZ;go_wp2_with fail;refine Va.out.mono ?_
 rintro e w4 ⟨he,eO⟩;rcases he with ⟨_,rfl⟩ | ⟨k,hk,_⟩
 ·have r4:=RG.out.below eO;have k1':=(HRK.out.below eO).c1;have fi:=CZ w4 H _ (.int .i64 66) (.int .i64 0) (.int .u64 0) (.int .i64 ((lk.length:Int)+1)) (.string (B.pX f lk)) r4 rfl ⟨rfl,rfl,rfl,rfl,rfl⟩;have gY:=ab fi;have HR4:=ab r4;have HP4:=ab (HP3.out.below eO);have HT4:=ab (HT3.out.trans (mN.below s2 eO));have ah8:(1:Int)+(lk.length:Int)=(lk.length:Int)+1:=by omega
  have UD:(lk.length:Int)≤4000:=by have:=FQ.out;omega
  have Rq:(0:Int)≤(lk.length:Int):=by omega
  clear eO Va fi r4;go_wp2_with fail;refine (Al pb w4).mono ?_
  rintro e w4' ⟨rfl,rfl⟩;go_wp2_with (refine eY rfl 87 _ _ rfl _ _ rfl rfl gY.out ?_)
  have ic:=pY.setRow (cs:=#[.int .i64 66,.int .i64 0,.int .u64 0,.int .i64 ((lk.length:Int)+1),.string (B.pX f lk)]) HP4.out HT4.out (by have:=HHP.out.1;omega) HP.out.eV.size HHP.out.2.1 kO.out
  refine bodyPost_ret (results_cell_row rfl _ _ H 87 _ (0,0) _ rfl (NQ w4 H _ _ HR4.out) underlying87 rfl info87) rfl ?_
  exact ⟨s2,rfl,ic.1,ic.2⟩
 ·rw [od.out] at hk;cases hk
theorem Du{k:Nat}(hk:k<P.length):P[k]?=some (fj P k):=by
 unfold fj;rw [aK,af hk];rfl
theorem OT(id:Int)(w:World):Calls prog 72 #[.pointer (some ⟨pb,0,none⟩),.iface 146 (.int .i64 id)] w fun e w'=>e = .returned (.int .i64 id)∧w=w':=by
 have a1:=fun W=>QM (.int .i64 id) W
 go_enter func72,ntmps72;go_wp2;go_ret;exact ⟨rfl,rfl⟩
theorem OU{b:Nat}{Q:Ending→World→Prop}(hl:Calls prog 112 #[.pointer (some ⟨pb,0,none⟩),.pointer (some ⟨b,0,none⟩)] w fun e w'=>(∃ id:Int,e = .returned (.int .i64 id))∧Q e w'):Calls prog 72 #[.pointer (some ⟨pb,0,none⟩),.iface 152 (.pointer (some ⟨b,0,none⟩))] w Q:=by
 have HL:=ab hl;have a1:=fun W=>Jz (.pointer (some ⟨b,0,none⟩)) W
 have a2:=fun W=>QN (.pointer (some ⟨b,0,none⟩)) W
 clear hl;go_enter func72,ntmps72;go_wp2_with fail;refine HL.out.mono ?_
 rintro e w1 ⟨⟨id,rfl⟩,hq⟩;have HQ:=ab hq;clear hq HL;go_wp2;exact HQ.out
theorem rW(A:Nat→Addr)(hE:B.p8 A w0)(MS:∀ j,2≤fj P j∧fj P j<1048576):∀ h,TX PG w0 lo pb pv P tx h
 | 0=>fun p t w sv Z hk ho hP yg jz=>by
  cases p with
  | pg id =>
   have hk:gE PG 0 id t:=hk;have h0:¬ t.1=0:=by have:=hk.1;have:=hk.2.1;omega
   have e1:(aW (fj P) 0 t Z.length)=(t,[]):=if_neg h0;have e2:(fx 0 t:Int)=id:=hk.2.1;rw [e1];refine (OT id w).mono ?_
   rintro e w' ⟨rfl,rfl⟩;exact ⟨sv,by rw [e2],by simpa using hP,mN.refl _ _ _⟩
  | nd b =>
   obtain ⟨h0,n,xv,lv,cv,xT,hn⟩:=hk;have h0:t.1=0:=h0;have AS:jl 0 t=1:=if_pos h0;have e1:(aW (fj P) 0 t Z.length)=((fj P Z.length,t.2),[(fj P Z.length,.leaf t.2)]):=if_pos h0;have kB:n.ps=t.2:=hn.2;have lJ:zL n.ps true=none:=by rw [kB];exact DC ho
   rw [e1];refine OU ((uG (Z1:=Z) b 76 (n.ps.length:Int) (tV n.ps) hP ((Ge A pb b n xv lv cv w (xT.below hP.eV) hn.1 (hE.c.below hP.eV) lJ).mono ?_) (fj P Z.length) (Du (by omega))).mono ?_)
   ·rintro e w' ⟨rfl,hb⟩;exact ⟨sv,rfl,hP.below hb,mN.below sv hb⟩
   ·rintro e w' ⟨ov,rfl,h1,h2⟩;rw [kB] at h1;exact ⟨⟨_,rfl⟩,ov,rfl,h1,h2⟩
 | h+1=>fun p t w sv Z hk ho hP yg jz=>by
  cases p with
  | pg id =>
   have hk:gE PG (h+1) id t:=hk;have h0:¬ t.1=0:=by have:=hk.1;have:=hk.2.1;omega
   have e1:(aW (fj P) (h+1) t Z.length)=(t,[]):=if_neg h0;have e2:(fx (h+1) t:Int)=id:=hk.2.1;rw [e1];refine (OT id w).mono ?_
   rintro e w' ⟨rfl,rfl⟩;exact ⟨sv,by rw [e2],by simpa using hP,mN.refl _ _ _⟩
  | nd b =>
   obtain ⟨h0,n,xv,lv,cv,xT,hn⟩:=hk;have h0:t.1=0:=h0;have AS:jl (h+1) t=(t.2.2.map (jl h)).sum+1:=if_pos h0;obtain ⟨R,hR⟩ : ∃ R,R=b9 (aW (fj P) h) t.2.2 Z.length:=⟨_,rfl⟩;have e1:(aW (fj P) (h+1) t Z.length)=((fj P (Z.length+R.2.length),t.2.1,R.1),R.2++[(fj P (Z.length+R.2.length),.br (l7 R.1) (qF t.2.1 R.1))]):=by rw [hR];exact if_pos h0
   have hRl:R.2.length=(t.2.2.map (jl h)).sum:=by rw [hR];exact r9 (pE h) t.2.2 Z.length
   rw [e1] at jz ⊢;have Y3:(R.1.flatMap (dE h)).Nodup:=by
    have h9:(df (fj P (Z.length+R.2.length))++R.1.flatMap (dE h)).Nodup:=jz;exact h9.sublist (dC _ _)
   obtain ⟨⟨pQ,mz,cT⟩,cx,jk⟩:=ho;have S4:=(fy h t pQ mz).1 cT;have S3:gX (ld h) pQ mz t.2.1 R.1:=by
    rw [hR];exact vQ (fun t k lo hi hf=>⟨qH h t k lo hi hf.1,by unfold Full;rw [BE];exact hf.2⟩) t.2.2 t.2.1 Z.length pQ mz S4
   have ML:n.us.length=t.2.2.length:=hn.1;have jE:t.2.1=n.lk.map (·.1):=hn.2.2.2.1;have aci:∀ c ∈ R.1,2≤fx h c∧fx h c<1048576:=fun c' uM=>by
    obtain ⟨i,hi,hv⟩:=aQ uM;have Pz:i<t.2.2.length:=by rw [hR,iE] at hi;exact hi
    have Lm:t.2.2[i]?=some t.2.2[i]:=af Pz;obtain ⟨ki,g1,_⟩:=rY (aW (fj P) h) t.2.2 Z.length i _ Lm;rw [← hR,af hi,hv] at g1;cases g1;obtain ⟨q,hq⟩ : ∃ q,n.us[i]?=some q:=⟨_,af (by omega)⟩
    exact AA MS (hn.pS hq Lm) ki
   have lJ:B.nB (l7 R.1) (qF t.2.1 R.1) true=none:=QF S3 cx jk aci Y3;have hlen:(qF t.2.1 R.1).length=n.lk.length:=by rw [vO _ _ (j9 S3),jE,aA]
   have hu0:¬ n.us.length=0:=fun e=>hn.2.1 (List.length_eq_zero_iff.1 e)
   refine OU ((uG (Z1:=Z++R.2.map (kj tx)) b 66 (((qF t.2.1 R.1).length:Int)+1) (B.pX (l7 R.1) (qF t.2.1 R.1)) hP (Bk A xT hu0 hE hP (fun W hW=>?_) lJ (by rw [hlen];exact xT.fine.2.2.2.1)) (fj P (Z.length+R.2.length)) (by rw [ae,aA];exact Du (by omega))).mono ?_)
   ·have:=nE (rW A hE MS h) xT hn ⟨⟨pQ,mz,cT⟩,cx,jk⟩ (hP.below hW) (by rw [← hR];exact Y3) (by omega)
    rw [← hR] at this;exact this
   ·rintro e w' ⟨ov,rfl,h1,h2⟩;refine ⟨⟨_,rfl⟩,ov,rfl,?_,h2⟩;rw [bn,← ay];exact h1
end
theorem Sv{w:World}{fb fg PP:Nat}{T:Nat→Bool}(h:Q.eU w fb fg PP T):TV w fg:=by
 rcases h.Rf.2 with ⟨h',_⟩ | ⟨g,cap,cur,h',hb,hg,hn,hm,hs,ht⟩
 ·simp at h'
 ·simp only [Value.slice.injEq,Option.some.injEq,Addr.mk.injEq] at h';obtain ⟨⟨rfl,_⟩,_,rfl⟩:=h';have dj:cur.toList=Q.kH T (Q.nW PP):=by
   rw [← ht,aq (by simp [hs])]
  refine ⟨fun j u hc=>?_,fun cs fr e=>?_,fun cs fr e=>?_⟩
  ·rw [cell_of_row w _ j cur _ _ hg] at hc;obtain ⟨h3,h4⟩:=Array.getElem?_eq_some_iff.1 hc;have hu:u ∈ cur.toList:=by rw [← h4];exact gH h3
   rw [dj] at hu;obtain ⟨i,_,rfl⟩:=List.mem_map.1 hu;exact ⟨(fun s e=>by cases e),(fun t x e=>by cases e)⟩
  ·rw [hg] at e;simp at e
  ·rw [hg] at e;simp at e
theorem Mj{w w':World}{fg:Nat}(ho:Q.gl (fun k=>k=fg) w w')(hd:TV w fg):cM w w':=⟨ho.size,fun k hk=>by
 by_cases e:k=fg
 ·exact .inr (e▸hd)
 ·exact .inl (ho.block k hk e)⟩
section
variable {base:Nat} {A:Nat→Addr} {db:Nat} {F:Nat→Prop} {d:S.V.bq} {W0:World} {r:cQ}
theorem Dv.only{w w':World}{fg:Nat}(hv:Dv base A db F d w)(ho:Q.gl (fun k=>k=fg) w w')(hb:base≤fg)(hf:¬ F fg):Dv base A db F d w':=by
 obtain ⟨d1,n1,sP⟩:=hv.dev;have fi:S.V.Step (fun k=>k=fg) (fun k=>k=fg) w w':=⟨ho.os,ho.tape,ho.output,ho.size,ho.block,fun _ h=>.inl h⟩
 have jD:Below base w w':=⟨ho.os,ho.tape,ho.output,ho.size,fun k hk=>ho.block k (ar hk hv.env.errs.size) (by omega)⟩
 refine ⟨⟨d1,n1,sP.keep fi (fun k hk e=>hf (e▸hk))⟩,hv.env.keep jD,⟨fun i hi=>?_,hv.errs.2⟩,hv.up,hv.alive,hv.lo⟩
 obtain ⟨h1,c,t,h2⟩:=hv.errs.1 i hi;have hl:=hv.lo i hi;exact ⟨(jD.cell (p:=⟨fl i,0,none⟩) hl.1).trans h1,c,t,(jD.block _ hl.2).trans h2⟩
end
theorem AT(f:Nat→Bool):∀ n,(Q.gx f n).Nodup
 | 0=>List.nodup_nil
 | n+1=>by
  show (Q.gx f n++(if f n then [] else [n])).Nodup
  rw [List.nodup_append];refine ⟨AT f n,?_,fun a ha b hb=>?_⟩
  ·split <;> simp
  ·have:=((Q.BW f).1 ha).1;split at hb
   ·simp at hb
   ·simp at hb;omega
theorem xE(T:Nat→Bool)(PP n:Nat):(Q.fk T PP n).Nodup:=(AT T PP).sublist (List.take_sublist _ _)
theorem nx{T:Nat→Bool}{PP n:Nat}(hk:Q.qk PP T)(j:Nat):2≤fj (Q.fk T PP n) j∧fj (Q.fk T PP n) j<1048576:=by
 unfold fj;rw [aK];cases h:(Q.fk T PP n)[j]? with
 | none=>simp
 | some x =>
  have hm:=cu h;have:=Q.rT hm;have h0:=hk.t0;have h1:=hk.t1;have h2:=hk.hi;simp only [l9];refine ⟨?_,by omega⟩
  rcases a7 x 2 with hx | hx
  ·have:x=0∨x=1:=by omega
   rcases this with rfl | rfl
   ·rw [h0] at this;cases this.2
   ·rw [h1] at this;cases this.2
  ·exact hx
def jB(P:Nat→Nat):cQ→cQ × List (Nat × PD)
 | none=>(none,[])
 | some x=>(some ⟨x.1,(aW P x.1 x.2 0).1⟩,(aW P x.1 x.2 0).2)
def gO:cQ→Nat
 | none=>0
 | some x=>fx x.1 x.2
def kL:cQ→Value
 | none=>.nilIface
 | some x=>(C.Ch.pg (fx x.1 x.2:Int)).val
theorem Ee(L:List Nat):pT (fj L) 0 L.length=L:=by
 unfold pT fj;refine mc (by simp) fun i h1 h2=>?_
 simp [List.getElem?_eq_getElem h2]
theorem vP{P:Nat→Nat}{r:cQ}(h:eW r):eW (jB P r).1∧aC (jB P r).1=aC r:=by
 cases r with
 | none=>exact ⟨h,rfl⟩
 | some x =>
  obtain ⟨hh,t⟩:=x;exact ⟨⟨qH hh t 0 none none h.1,by show nK hh (aW P hh t 0).1≤4072;rw [BE];exact h.2.1,OR hh t 0 h.2.2⟩,D4 hh t 0⟩
theorem AB{L:List Nat}{r:cQ}(hl:L.length=eG r)(h0:∀ j,fj L j≠0):(eD (jB (fj L) r).1).Perm (eD r++L):=by
 cases r with
 | none =>
  have:L=[]:=List.length_eq_zero_iff.1 hl;subst this;exact List.Perm.refl _
 | some x =>
  obtain ⟨hh,t⟩:=x;have Tb:jl hh t=L.length:=hl.symm;have:=D1 h0 hh t 0;rw [BF,pE,Tb,Ee] at this;exact this
theorem qI{T:Nat→Bool}{PP:Nat}{r:cQ}(hk:Q.qk PP T)(hn:eG r≤(Q.gx T PP).length)(jz:(eD r).Nodup)(FE:∀ i ∈ eD r,T i=true):(eD (jB (fj (Q.fk T PP (eG r))) r).1).Nodup∧(Q.fk T PP (eG r)).length=eG r:=by
 have hl:(Q.fk T PP (eG r)).length=eG r:=by rw [Q.xF];omega
 refine ⟨?_,hl⟩;rw [(AB hl (fun j=>by have:=nx (n:=eG r) hk j;omega)).nodup_iff,List.nodup_append]
 refine ⟨jz,xE _ _ _,fun a ha b hb e=>?_⟩
 have h1:=FE a ha;have h2:=(Q.rT hb).2;rw [e,h2] at h1;cases h1
structure Mp(base:Nat)(F:Nat→Prop)(tb:Nat)(w:World)(fb fg PP:Nat)(T:Nat→Bool):Prop where
 map:Q.eU w fb fg PP T
 ok:Q.qk PP T
 lo:base≤fg∧base≤fb
 nf:¬ F fg∧¬ F fb
 nt:fg≠tb∧fb≠tb
theorem SJ(pb:Nat)(w:World):Calls prog 72 #[.pointer (some ⟨pb,0,none⟩),.nilIface] w fun e w'=>e = .returned (.int .i64 0)∧w=w':=by
 have a1:∀ W,(Instr.typeAssert .nilIface 97 146 true).run prog W = .ok (.tuple #[.int .i64 0,.bool false]) W:=fun W=>by kernel_rfl
 have a2:∀ W,(Instr.typeAssert .nilIface 97 152 true).run prog W = .ok (.tuple #[.pointer none,.bool false]) W:=fun W=>by kernel_rfl
 go_enter func72,ntmps72;go_wp2;go_ret;exact ⟨rfl,rfl⟩
theorem Gk(r:cQ)(h:gO r=0→r=none)(w:World):Calls prog 43 #[.int .i64 (gO r:Int)] w fun e w'=>e = .returned (kL r)∧w=w':=by
 cases r with
 | none=>exact oA w
 | some x =>
  have h0:¬ (gO (some x):Int)=0:=fun e=>by
   have:=h (by omega)
   cases this
  exact oB (gO (some x):Int) w h0
section
variable {base:Nat} {A:Nat→Addr} {db:Nat} {F:Nat→Prop} {d:S.V.bq} {W0:World} {r:cQ}
theorem OS{w0 w:World}{lo pb:Nat}{pv:Value}{P:List Nat}{tx:Nat}{sv rv:Value}(hE:B.p8 A w0)(MS:∀ j,2≤fj P j∧fj P j<1048576)(hr:fH (cJ d) w0 rv r)(cT:eW r)(hP:pY w0 lo pb pv P tx w sv [])(yg:eG r≤P.length)(jz:(eD (jB (fj P) r).1).Nodup):Calls prog 72 #[.pointer (some ⟨pb,0,none⟩),rv] w fun e w'=>∃ ov,e = .returned (.int .i64 (gO (jB (fj P) r).1:Int))∧pY w0 lo pb pv P tx w' ov ((jB (fj P) r).2.map (kj tx))∧mN pb w sv w' ov:=by
 rcases hr with ⟨rfl,rfl⟩ | ⟨p,h,t,rfl,rfl,hk⟩
 ·refine (SJ pb w).mono ?_
  rintro e w' ⟨rfl,rfl⟩;exact ⟨sv,rfl,hP,mN.refl _ _ _⟩
 ·refine (rW A hE MS h p t w sv [] hk (DB cT) hP (by have h9:jl h t≤P.length:=yg;simpa using h9) jz).mono ?_
  rintro e w' ⟨ov,rfl,h1,h2⟩;exact ⟨ov,rfl,h1,h2⟩
theorem KZ{P:Nat→Nat}(hP:∀ j,2≤P j∧P j<1048576):gO (jB P r).1=0→(jB P r).1=none:=fun h=>by
 cases r with
 | none=>rfl
 | some x=>exact absurd h (D2 (fun j=>by have:=hP j;omega) x.1 x.2 0)
theorem info127:(prog.info? 127).map (·.size)=some 4:=by kernel_rfl
theorem NF(w:World)(H:Nat)(Fz:Array Value)(a b c d:Value)(hr:B.ax w H Fz 127)(ho:Fz.size=4)(h1:a.oneCell'=true∧b.oneCell'=true∧c.oneCell'=true∧d.oneCell'=true):(Instr.storeAt 127 (.pointer (some ⟨H,0,none⟩)) (.agg #[a,b,c,d])).run prog w = .ok () (w.setRow H #[a,b,c,d]):=by
 have:=run_storeVar_row (P:=prog) w H 127 127 Fz #[a,b,c,d] hr info127 (by rw [ho];rfl) (by simp [h1.1,h1.2.1,h1.2.2.1,h1.2.2.2])
 simp only [Instr.storeAt,Instr.sureAddr,Sem.run_bind,Sem.run_pure,Result.andThen_ok,this]
theorem jP{w w':World}{fb fg PP:Nat}{T:Nat→Bool}(h:Q.eU w fb fg PP T)(h1:w'.heap[fb]?=w.heap[fb]?)(h2:w'.heap[fg]?=w.heap[fg]?):Q.eU w' fb fg PP T:=by
 refine ⟨h1.trans h.dn,⟨h.Rf.1,?_⟩,h.hi⟩;rcases h.Rf.2 with ⟨h',_⟩ | ⟨g,cap,cur,h',hb,hg,hr⟩
 ·simp at h'
 ·have e:fg=g:=by simp only [Value.slice.injEq,Option.some.injEq,Addr.mk.injEq] at h';exact h'.1.1
  subst e;exact .inr ⟨fg,cap,cur,h',hb,h2.trans hg,hr⟩
theorem sS.lower{w:World}{lo pQ:Nat}{v:Value}{l:List S.Sh}(h:sS w lo v l)(hl:pQ≤lo):sS w pQ v l:=by
 refine ⟨h.1,?_⟩;rcases h.2 with h' | ⟨g,cap,cur,h',h1,h2⟩
 ·exact .inl h'
 ·exact .inr ⟨g,cap,cur,h',al hl h1,h2⟩
theorem Gn{w:World}{tb fb fg PP tx:Nat}{T:Nat→Bool}(hc:Ts base A db F d W0 w tb r)(hQ:Q.Env base A w)(hM:Mp base F tb w fb fg PP T)(hn:eG r≤(Q.gx T PP).length)(Tg:eG r≤1000000)(jz:(eD r).Nodup)(FE:∀ i ∈ eD r,T i=true):Calls prog 35 #[.pointer (some ⟨tb,0,none⟩),.pointer (some ⟨fb,0,none⟩),.int .u64 (tx:Int)] w fun e w'=>∃ sv,e = .returned (.tuple #[sv,.int .i64 (gO (jB (fj (Q.fk T PP (eG r))) r).1:Int),.nilIface])∧sS w' w.heap.size sv ((jB (fj (Q.fk T PP (eG r))) r).2.map (kj tx))∧Mp base F tb w' fb fg PP (Q.kP T (Q.fk T PP (eG r)))∧B.ax w' tb #[.pointer (some ⟨db,0,none⟩),kL (jB (fj (Q.fk T PP (eG r))) r).1] 100∧Dv base A db F d w'∧S.V.Step (fun k=>k=fg∨k=tb) (fun k=>k=fg∨k=tb) w w':=by
 obtain ⟨vu,Lp⟩:=qI hM.ok hn jz FE;obtain ⟨L,hL⟩ : ∃ L,L=Q.fk T PP (eG r):=⟨_,rfl⟩;have MS:∀ j,2≤fj L j∧fj L j<1048576:=fun j=>by rw [hL];exact nx hM.ok j
 have htd:Q.lp PP T (eG r:Int)=(none,L,Q.kP T L):=by
  unfold Q.lp;rw [if_neg (by omega),if_neg (by rw [bo];omega),bo,← hL]
 rw [← hL] at vu Lp ⊢;have Xa:=ab (qj hc (by omega))
 have HTK:=ab (Q.Nv base A fb fg PP T (eG r:Int) w hM.map hM.ok hQ);rw [htd] at HTK;have HC:=ab hc;have HM:=ab hM;have HND:=ab vu;have iq:=ab Lp;have CA:=ab MS;have HCB:=ab Tg;have MOK:Hid (Q.qk PP (Q.kP T L)):=by
  have hk:=hM.ok;refine ⟨hk.lo,hk.hi,by simp [Q.kP,hk.t0],by simp [Q.kP,hk.t1],fun j hj=>by simp [Q.kP,hk.up j hj]⟩
 obtain ⟨N,hN⟩ : ∃ N,N=eG r:=⟨_,rfl⟩;rw [← hN] at Xa HTK;clear hc hQ hM hn Tg jz FE vu Lp hL MS htd hN;go_enter func35,ntmps35;go_wp2_with fail;refine Xa.out.mono ?_
 rintro e w1' ⟨rfl,rfl⟩;go_wp2_with fail;refine HTK.out.mono ?_
 rintro e w1 ⟨v,rfl,aE,hmap,Em⟩;rw [show iz A none = .nilIface from rfl]
 have zN:cM w w1:=Mj Em (Sv HM.out.map);have dX:Dv base A db F d w1:=HC.out.dv.only Em HM.out.lo.1 HM.out.nf.1;obtain ⟨rv,ht,hr⟩:=HC.out.tr;have Eh:=cG zN ht;have fV:=hr.bU zN;have vr:=fT aE;obtain ⟨pa,pc,jS⟩ : ∃ a c,v = .slice a L.length c:=by
  rcases aE.2 with ⟨h',h0⟩ | ⟨g,cap,cur,h',_⟩
  ·exact ⟨none,0,by rw [h',h0]⟩
  ·exact ⟨_,_,h'⟩
 subst jS;obtain ⟨K,hK⟩ : ∃ K,w1.heap.size=K:=⟨_,rfl⟩;have rZ:B.ax (w1.alloc (.cells #[.slice none 0 0,.int .u64 0,.slice none 0 0,.nilIface] 127)) K #[.slice none 0 0,.int .u64 0,.slice none 0 0,.nilIface] 127:=by rw [← hK];exact B.ax.new w1 _ _
 have fi:=NF (w1.alloc (.cells #[.slice none 0 0,.int .u64 0,.slice none 0 0,.nilIface] 127)) K _ (.slice pa L.length pc) (.int .u64 (tx:Int)) (.slice none 0 0) .nilIface rZ rfl ⟨rfl,rfl,rfl,rfl⟩;obtain ⟨W2,Hc⟩ : ∃ W2,(w1.alloc (.cells #[.slice none 0 0,.int .u64 0,.slice none 0 0,.nilIface] 127)).setRow K #[.slice pa L.length pc,.int .u64 (tx:Int),.slice none 0 0,.nilIface]=W2:=⟨_,rfl⟩;rw [Hc] at fi;have La:=C3 (w1.alloc (.cells #[.slice none 0 0,.int .u64 0,.slice none 0 0,.nilIface] 127)) K #[.slice pa L.length pc,.int .u64 (tx:Int),.slice none 0 0,.nilIface];rw [Hc] at La;have We:=ai w1 (.cells #[.slice none 0 0,.int .u64 0,.slice none 0 0,.nilIface] 127);have aO:Below w1.heap.size w1 W2:=⟨La.os.trans We.os,La.tape.trans We.tape,La.output.trans We.output,al We.size La.size,fun k hk=>(La.block k (ar hk We.size) (by omega)).trans (We.block k hk)⟩
 have rK:B.ax W2 K #[.slice pa L.length pc,.int .u64 (tx:Int),.slice none 0 0,.nilIface] 127:=by rw [← Hc];exact setRow_heap _ K _ _ _ _ rZ
 have gY:=ab fi;have hP:pY w1 (K+1) K (.slice pa L.length pc) L tx W2 (.slice none 0 0) []:=⟨aO,rK,sS.nil _ _,⟨by omega,by omega⟩,by have:=rK.lt;omega,vr,by have:=iq.out;have:=HCB.out;omega⟩
 have Q5:=ab (OS dX.Z6 CA.out fV HC.out.ok hP (by have:=iq.out;omega) HND.out)
 have c1:W2.cell? ⟨tb,1,none⟩=some rv:=(Eh.below aO).c1;have yK:=ab Eh;have mQ:=ab dX;have HMP:=ab hmap;have WJ:=ab Em;have HKW:Hid (w.heap.size≤K∧w1.heap.size=K):=⟨by have:=Em.size;omega,hK⟩
 have Zt:=fV.form;clear fi La We rZ Hc zN dX ht hr Eh fV vr aE hmap Em aO rK hP HTK Xa;rcases Zt with rfl | ⟨rt,rx,rfl⟩
 all_goals
  go_wp2_with (refine eY rfl 127 _ _ rfl _ _ rfl rfl gY.out ?_)
  refine Q5.out.mono ?_
  rintro e w3 ⟨s3,rfl,vV,ht3⟩;obtain ⟨sa,sc,hsf⟩:=vV.sh.form;rw [aA] at hsf;subst hsf;have htK:tb<K:=by have:=yK.out.lt;have:=HKW.out.2;omega
  have k3:w3.cell? ⟨K,3,none⟩=some .nilIface:=vV.row.cell 3 (by simp)
  have SW:=yK.out.below vV.eV;have t1:=SW.c1;have tf:=SW.free 1;obtain ⟨R,hR⟩ : ∃ R,R=kL (jB (fj L) r).1:=⟨_,rfl⟩;have oc:=ab (Gk (jB (fj L) r).1 (KZ CA.out) w3);rw [← hR] at oc;have hRf:R = .nilIface∨∃ t x,R = .iface t x:=by
   rw [hR];cases (jB (fj L) r).1 with
   | none=>exact .inl rfl
   | some x=>exact .inr ⟨_,_,rfl⟩
  have dF:=bL.set tb 1 w3 R;have k2:(w3.setCell ⟨tb,1,none⟩ R).cell? ⟨K,2,none⟩=some (.slice sa (jB (fj L) r).2.length sc):=bV (dF.block K vV.row.lt (by omega)) (vV.row.cell 2 (by simp))
  have nY:Hid (sS (w3.setCell ⟨tb,1,none⟩ R) w.heap.size (.slice sa (jB (fj L) r).2.length sc) ((jB (fj L) r).2.map (kj tx))∧Mp base F tb (w3.setCell ⟨tb,1,none⟩ R) fb fg PP (Q.kP T L)∧B.ax (w3.setCell ⟨tb,1,none⟩ R) tb #[.pointer (some ⟨db,0,none⟩),kL (jB (fj L) r).1] 100∧Dv base A db F d (w3.setCell ⟨tb,1,none⟩ R)∧S.V.Step (fun k=>k=fg∨k=tb) (fun k=>k=fg∨k=tb) w (w3.setCell ⟨tb,1,none⟩ R)):=by
   have hkw:=HKW.out;have hm:=HM.out;have Ze:=HMP.out.SB;have S8:=HMP.out.SA;refine ⟨(vV.sh.same fun g hg=>dF.block g (vV.sh.dn hg).2 (by have:=(vV.sh.dn hg).1;omega)).lower (by omega),⟨jP HMP.out ((dF.block fb (ar Ze vV.eV.size) hm.nt.2).trans (vV.eV.block fb Ze)) ((dF.block fg (ar S8 vV.eV.size) hm.nt.1).trans (vV.eV.block fg S8)),MOK.out,hm.lo,hm.nf,hm.nt⟩,by rw [← hR];exact B.ax.one SW R,(mQ.out.below vV.eV).tree HC.out.lo.1 HC.out.lo.2 1 R,?_⟩
   have ho:=WJ.out;exact ⟨dF.os.trans (vV.eV.os.trans ho.os),dF.tape.trans (vV.eV.tape.trans ho.tape),dF.output.trans (vV.eV.output.trans ho.output),al (al ho.size vV.eV.size) dF.size,fun k hk hnk=>(dF.block k (by have:=vV.eV.size;omega) (fun e=>hnk (.inr e))).trans ((vV.eV.block k (by omega)).trans (ho.block k hk (fun e=>hnk (.inl e)))),fun _ h=>.inl h⟩
  clear vV ht3 SW dF Q5 c1 hR;rcases hRf with rfl | ⟨qt,qx,rfl⟩
  all_goals
   go_wp2_with fail;refine oc.out.mono ?_
   rintro e w3' ⟨rfl,rfl⟩;go_wp2;go_ret3;exact ⟨_,rfl,nY.out⟩
end
end T
namespace S.V
open Go.RowKit Go.Maps
theorem Mn{t:ByteArray}(h:t.size=512)(hz:vB t=true):t=qo:=by
 apply B5
 rw [qo,tZ];have:=of_decide_eq_true hz;rw [h] at this;exact this
theorem EI{x:gL}{j:Int}:∀ {l:List gL},(∀ y ∈ l,y.ix≠x.ix)→(qJ x l).find? (fun y=>decide (y.ix=j))=if x.ix=j then some x else l.find? (fun y=>decide (y.ix=j))
 | [],_=>by unfold qJ;rw [kD];by_cases hx:x.ix=j <;> simp [hx]
 | y::r,h=>by
  unfold qJ;split
  ·rw [kD];by_cases hx:x.ix=j <;> simp [hx]
  ·rw [kD,EI (fun z hz=>h z (by simp [hz]))]
   by_cases hx:x.ix=j
   ·have hy:y.ix≠j:=fun e=>h y (by simp) (e.trans hx.symm)
    simp [hx,hy]
   ·simp [hx,List.find?_cons]
theorem tS{i j:Int}:∀ l:List gL,(jG i l).find? (fun y=>decide (y.ix=j))=if i=j then none else l.find? (fun y=>decide (y.ix=j))
 | []=>by simp [jG]
 | y::r=>by
  have ih:=tS (i:=i) (j:=j) r;unfold jG at ih ⊢;rw [List.filter_cons];by_cases hy:y.ix=i
  ·simp only [hy,ne_eq,not_true_eq_false,decide_false,kK,if_false,ih,kD];by_cases Td:i=j <;> simp [Td]
  ·simp only [ne_eq,hy,not_false_eq_true,decide_true,if_true,kD,ih];by_cases hyj:y.ix=j
   ·have:i≠j:=fun e=>hy (hyj.trans e.symm)
    simp [hyj,this]
   ·simp [hyj]
theorem uH(l:List gL)(i j:Int)(t:ByteArray)(ht:t.size=512):fA (rB l i t) j=if i=j then t else fA l j:=by
 unfold fA rB;cases hz:vB t
 ·rw [if_neg (by simp),EI (fun y hy=>(pL hy).2),tS]
  by_cases h:i=j <;> simp [h]
 ·rw [if_pos rfl,tS];by_cases h:i=j
  ·simp [h,(Mn ht hz).symm]
  ·simp [h]
theorem uq(eF:List gL)(a:Int)(p:List UInt8)(hl:p.length=4096):∀ n:Nat,n≤8→∀ j:Int,fA (gN eF (chunks a p n)) j=if a≤j∧j<a+n then GG ((p.drop ((j - a).toNat*512)).take 512) else fA eF j:=by
 intro n;induction n with
 | zero =>
  intro _ j;rw [if_neg (by omega)];rfl
 | succ n ih =>
  intro hn j;have hs:(GG ((p.drop (n*512)).take 512)).size=512:=by rw [oE,ag,ao];omega
  rw [uX,qy,chunk,uH _ _ _ _ hs,ih (by omega) j]
  by_cases h1:a+(n:Int)=j
  ·subst h1;rw [if_pos rfl,if_pos ⟨by omega,by omega⟩,show (a+(n:Int) - a).toNat=n by omega]
  ·rw [if_neg h1];by_cases h2:a≤j∧j<a+(n:Int)
   ·rw [if_pos h2,if_pos ⟨h2.1,by omega⟩]
   ·rw [if_neg h2,if_neg (by omega)]
theorem EH(p:List UInt8):∀ n:Nat,(List.range n).flatMap (fun i:Nat=>(p.drop (i*512)).take 512)=p.take (n*512):=by
 intro n;induction n with
 | zero=>simp
 | succ n ih =>
  rw [List.range_succ,aT,ih,Nat.succ_mul,List.take_add];simp
end S.V
namespace T
open Go.RowKit
theorem lP(x:S.V.gL)(i:Int):∀ l:List S.V.gL,S.V.ez (l++[x]) i=if x.ix=i then some l.length else S.V.ez l i
 | []=>by
  simp only [List.nil_append,S.V.ez,List.length_nil]
 | y::l=>by
  simp only [List.cons_append,S.V.ez,lP x i l,List.length_cons];by_cases h:x.ix=i
  ·simp [h]
  ·simp [h]
theorem kX(i:Int):∀ (l:List S.V.gL) (k:Nat),S.V.ez l i=some k→k<l.length
 | [],k,h=>by simp [S.V.ez] at h
 | y::l,k,h=>by
  simp only [S.V.ez] at h;cases hq:S.V.ez l i with
  | none =>
   rw [hq] at h;simp only at h;split at h
   ·cases h;simp
   ·cases h
  | some q =>
   rw [hq] at h;cases h;have:=kX i l q hq;simp only [List.length_cons];omega
def Bi(eF aV:List S.V.gL)(i:Int):ByteArray:=match S.V.ez aV i with | some k=>((aV[k]?).map S.V.gL.lE).getD S.V.qo | none=>S.V.fA eF i
theorem C0(eF l:List S.V.gL)(x:S.V.gL)(i:Int):Bi eF (l++[x]) i=if x.ix=i then x.lE else Bi eF l i:=by
 unfold Bi;rw [lP];by_cases h:x.ix=i
 ·rw [if_pos h,if_pos h];simp
 ·rw [if_neg h,if_neg h];cases hq:S.V.ez l i with
  | none=>rfl
  | some k =>
   have:=kX i l k hq;simp only [bu this]
theorem uy(eF:List S.V.gL)(i:Int):∀ n (l:List S.V.gL),l.length=n→(∀ x ∈ l,x.lE.size=512)→Bi eF l i=S.V.fA (S.V.gN eF l) i
 | 0,l,hl,_=>by
  have:l=[]:=List.length_eq_zero_iff.1 hl;subst this;rfl
 | n+1,l,hl,hs=>by
  have dK:l≠[]:=fun e=>by rw [e] at hl;cases hl
  have e:=iI dK;have h1:l.dropLast.length=n:=by rw [List.length_dropLast];omega
  have h2:(l.getLast dK).lE.size=512:=hs _ (List.getLast_mem dK);rw [← e,C0,S.V.qy,S.V.uH _ _ _ _ h2,uy eF i n l.dropLast h1 (fun x hx=>hs x (List.dropLast_subset l hx))]
theorem py(d:S.V.bq)(hs:∀ x ∈ d.aV,x.lE.size=512)(s:Int)(n:Nat):S.V.iY d s n=(List.range n).flatMap fun i:Nat=>S.V.bl (S.V.fA (S.V.gN d.eF d.aV) (s+(i:Int))):=by
 have e:∀ i:Int,S.V.gd d i=S.V.fA (S.V.gN d.eF d.aV) i:=fun i=>uy d.eF i _ d.aV rfl hs
 unfold S.V.iY;simp only [e]
def qC(d:S.V.bq)(s:S.Sh):S.V.bq:={ d with aV:=d.aV++S.V.chunks (s.id*8) (S.gQ s) 8,nw:=wrap64 (d.nw+8) }
theorem Dj{d:S.V.bq}{s:S.Sh}(hm:S.sV s)(hs:∀ x ∈ d.aV,x.lE.size=512):∀ x ∈ (qC d s).aV,x.lE.size=512:=fun x hx=>by
 rcases List.mem_append.1 hx with h | h
 ·exact hs x h
 ·obtain ⟨i,hi,rfl⟩:=List.mem_map.1 h;have G6:=List.mem_range.1 hi;have hl:=S.mq s hm;show (S.V.GG (((S.gQ s).drop (i*512)).take 512)).size=512
  rw [S.V.oE,ag,ao];omega
theorem EE{α β:Type}{l:List α}{f g:α→List β}(h:∀ a ∈ l,f a=g a):l.flatMap f=l.flatMap g:=by
 induction l with
 | nil=>rfl
 | cons a l ih=>rw [List.flatMap_cons,List.flatMap_cons,h a (by simp),ih fun b hb=>h b (by simp [hb])]
theorem NY{d:S.V.bq}{s:S.Sh}(hm:S.sV s)(hs:∀ x ∈ d.aV,x.lE.size=512)(i:Int):S.V.iY (qC d s) (i*8) 8=if i=s.id then S.gQ s else S.V.iY d (i*8) 8:=by
 have hl:=S.mq s hm;rw [py _ (Dj hm hs)];have e1:S.V.gN (qC d s).eF (qC d s).aV=S.V.gN (S.V.gN d.eF d.aV) (S.V.chunks (s.id*8) (S.gQ s) 8):=by
  show List.foldl _ _ (_++_)=_
  rw [gq];rfl
 rw [e1];by_cases h:i=s.id
 ·rw [if_pos h,h];have e:(List.range 8).flatMap (fun j:Nat=>S.V.bl (S.V.fA (S.V.gN (S.V.gN d.eF d.aV) (S.V.chunks (s.id*8) (S.gQ s) 8)) (s.id*8+(j:Int))))=(List.range 8).flatMap (fun j:Nat=>((S.gQ s).drop (j*512)).take 512):=by
   apply EE
   intro j hj;have hj8:j<8:=List.mem_range.1 hj;rw [S.V.uq _ _ _ hl 8 (by decide),if_pos ⟨by omega,by omega⟩,S.V.tZ,show (s.id*8+(j:Int) - s.id*8).toNat=j by omega]
  rw [e,S.V.EH,aq (by rw [hl];decide)]
 ·rw [if_neg h,py d hs];apply EE
  intro j hj;have hj8:j<8:=List.mem_range.1 hj;rw [S.V.uq _ _ _ hl 8 (by decide),if_neg (by omega)]
theorem Am{d d':S.V.bq}{id:Int}(hz:d'.size=d.size)(hr:S.V.iY d' (id*8) 8=S.V.iY d (id*8) 8):cJ d' id=cJ d id:=by
 have e:(∃ p s,fB d' id s∧gF s p)=(∃ p s,fB d id s∧gF s p):=by
  apply propext
  constructor
  ·rintro ⟨p,s,⟨h1,h2,h3,h4,h5⟩,h6⟩;exact ⟨p,s,⟨h1,h2,h3,by rw [← hz];exact h4,by rw [h3] at h5 ⊢;rw [← hr];exact h5⟩,h6⟩
  ·rintro ⟨p,s,⟨h1,h2,h3,h4,h5⟩,h6⟩;exact ⟨p,s,⟨h1,h2,h3,by rw [hz];exact h4,by rw [h3] at h5 ⊢;rw [hr];exact h5⟩,h6⟩
 have e2:(fun p=>∃ s,fB d' id s∧gF s p)=(fun p=>∃ s,fB d id s∧gF s p):=by
  funext p
  apply propext
  constructor
  ·rintro ⟨s,⟨h1,h2,h3,h4,h5⟩,h6⟩;exact ⟨s,⟨h1,h2,h3,by rw [← hz];exact h4,by rw [h3] at h5 ⊢;rw [← hr];exact h5⟩,h6⟩
  ·rintro ⟨s,⟨h1,h2,h3,h4,h5⟩,h6⟩;exact ⟨s,⟨h1,h2,h3,by rw [hz];exact h4,by rw [h3] at h5 ⊢;rw [hr];exact h5⟩,h6⟩
 unfold cJ;by_cases h:∃ p s,fB d id s∧gF s p
 ·rw [dif_pos (e▸h),dif_pos h];congr 1
  simp only [e2]
 ·rw [dif_neg (e▸h),dif_neg h]
theorem Lc{s:S.Sh}{p q:PD}(h1:gF s p)(h2:gF s q):p=q:=by
 rcases h1 with ⟨a1,_,a3⟩ | ⟨a1,_,a3⟩ <;> rcases h2 with ⟨b1,_,b3⟩ | ⟨b1,_,b3⟩
 ·rw [a3,b3]
 ·rw [a1] at b1;cases b1
 ·rw [a1] at b1;cases b1
 ·rw [a3,b3]
theorem Sq{d:S.V.bq}{s:S.Sh}{p:PD}(h:fB d s.id s)(hh:gF s p):cJ d s.id=some p:=by
 have hx:∃ p s',fB d s.id s'∧gF s' p:=⟨p,s,h,hh⟩;unfold cJ;rw [dif_pos hx];obtain ⟨s',h1,h2⟩:=Classical.choose_spec hx;congr 1
 have e:s'=s:=by
  have a1:=S.ly s' h1.1 h1.2.1;have a2:=S.ly s h.1 h.2.1;have b1:=h1.2.2.2.2;have b2:=h.2.2.2.2;rw [h1.2.2.1] at b1;rw [← a1,← a2,← b1,← b2]
 rw [e] at h2;exact Lc h2 hh
end T
end Go.Proofs.YtihmgigfkmofnaaGreatDoor
namespace Go.Proofs.YtihmgigfkmofnaaGreatDoor.T
open Go.RowKit
theorem JO(d:S.V.bq)(s:S.Sh)(hm:S.sV s)(hd:d.dead=false)(ha:d.eR=[])(eE:(s.id+1)*8≤d.size):d.write (s.id*8) (S.gQ s)=(qC d s,0):=by
 obtain ⟨sz,eF,aV,eR,dead,nr,nw,ns⟩:=d;simp only at hd ha eE;subst hd ha;have hl:=S.mq s hm;have h2:=hm.2.2.1;have hf:S.V.bq.fits ⟨sz,eF,aV,[],false,nr,nw,ns⟩ (s.id*8) ((8:Nat):Int)=true:=by
  simp only [S.V.bq.fits,decide_eq_true_eq];omega
 simp only [S.V.bq.write,hl,qC];rw [if_neg (by simp),if_neg (by rw [show 4096 / 512=8 from rfl,hf];simp)]
 rfl
end Go.Proofs.YtihmgigfkmofnaaGreatDoor.T
namespace Go.Proofs.YtihmgigfkmofnaaGreatDoor.S
open Go.RowKit
theorem Ke(base:Nat)(A:Nat→Addr)(db:Nat)(F:Nat→Prop)(d:V.bq)(s:Sh)(w:World)(hs:s.body.size≤140737488355328)(hx:s.te<18446744073709551616)(hd:V.cO w db F d)(hE:Env base A w)(hF:∀ k,F k→base≤k)(hp:d.aV.length≤1000000)(AR:d.dead=false)(ha:d.eR=[]):Calls prog 62 #[.pointer (some ⟨db,0,none⟩),.agg s.cells.toArray] w fun e w'=>(e = .returned .nilIface∧(sV s∧(s.id+1)*8≤d.size)∧∃ F',V.cO w' db F' (T.qC d s)∧V.Step F F' w w')∨(¬ (sV s∧(s.id+1)*8≤d.size)∧e = .returned (.iface 360 (.pointer (some (A 0))))∧Below w.heap.size w w'):=by
 have HE:=ab hE;have HD:=ab hd;have HFB:=ab hF;obtain ⟨k,i,t,c,b⟩:=s;have HX:Hid (Boxed w.heap.size [.int .i64 k,.int .i64 i,.int .u64 (t:Int),.int .i64 c,.string b] (w.alloc (.cells #[.int .i64 k,.int .i64 i,.int .u64 (t:Int),.int .i64 c,.string b] 87))):=bN w _ _;have HB:=ab (ai w (.cells #[.int .i64 k,.int .i64 i,.int .u64 (t:Int),.int .i64 c,.string b] 87));by_cases hm:sV ⟨k,i,t,c,b⟩
 ·have HS:Hid (∀ w,Lay w→Fi w→Calls prog 96 #[.agg #[.int .i64 k,.int .i64 i,.int .u64 (t:Int),.int .i64 c,.string b]] w fun e w'=>∃ g,e = .returned (.tuple #[.slice (some ⟨g,0,none⟩) 4096 4096,.nilIface])∧cL w' g (gQ ⟨k,i,t,c,b⟩)∧w.heap.size≤g∧Below w.heap.size w w'):=fun w h1 h2=>Sc ⟨k,i,t,c,b⟩ w hm hx h1 h2
  have o9:Hid ((gQ ⟨k,i,t,c,b⟩).length=4096):=mq _ hm;have Cr:0≤i:=by have:=hm.2.2.1;simp only at this;omega
  have vz:i<1048576:=hm.2.2.1.2;have HM:=ab hm;have HWR:Hid ((i+1)*8≤d.size→d.write (i*8) (gQ ⟨k,i,t,c,b⟩)=(T.qC d ⟨k,i,t,c,b⟩,0)):=fun h=>T.JO d ⟨k,i,t,c,b⟩ hm AR ha h
  have RI:Hid (d.aV.length≤1000000∧d.eR=[]):=⟨hp,ha⟩;clear hE hd hF hs hx hm hp AR ha;generalize AL:gQ ⟨k,i,t,c,b⟩=pg at *;clear AL;show Calls prog 62 #[.pointer (some ⟨db,0,none⟩),.agg #[.int .i64 k,.int .i64 i,.int .u64 (t:Int),.int .i64 c,.string b]] w _
  go_enter func62,ntmps62;go_wp2_with fail;refine (HS.out _ (HE.out.up HB.out).lay (HE.out.up HB.out).tab).mono ?_
  rintro e w1 ⟨g,rfl,bG,hg,aP⟩;have yJ:=ab (HX.out.below aP);have bQ:=ab (Below.next HB.out aP);have mR:=ab bG;have HG:Hid (w.heap.size<g):=by have:=HX.out.1;show _<_;omega
  have c1:w1.cell? ⟨w.heap.size,1,none⟩=some (.int .i64 i):=yJ.out.2 1 (by simp)
  clear bG hg aP HX HB;have Vb:=ab (HD.out.below bQ.out);by_cases eE:(i+1)*8≤d.size
  ·go_wp2_with fail;refine (nj db F d i _ Vb.out Cr vz).mono ?_
   rintro e w1' ⟨rfl,rfl⟩;rw [decide_eq_true eE];go_wp2_with fail;refine (tR i _ Cr (by omega)).mono ?_
   rintro e w1' ⟨rfl,rfl⟩;have W:=V.JP base A db F d w1 Vb.out (HE.out.up bQ.out).errs HFB.out (i*8) (.slice (some ⟨g,0,none⟩) 4096 4096) pg ⟨some ⟨g,0,none⟩,4096,g,by rw [o9.out],by rw [o9.out];decide,by rw [o9.out];decide,fun _=>⟨rfl,fun hf=>by have:=HD.out.lt g hf;have:=HG.out;omega⟩,mR.out.cell⟩ (by rw [o9.out];have:=RI.out.1;omega) (by rw [RI.out.2];exact V.xw base A db)
   rw [HWR.out eE] at W;have HW:Hid (Calls prog 98 #[.pointer (some ⟨db,0,none⟩),.int .i64 (i*8),.slice (some ⟨g,0,none⟩) 4096 4096] w1 fun e w'=>e = .returned .nilIface∧∃ F',V.cO w' db F' (T.qC d ⟨k,i,t,c,b⟩)∧V.Step F F' w1 w'):=W
   clear W;go_wp2_with fail;refine Calls.mono HW.out ?_
   rintro e w2 ⟨rfl,F',Ll,jy⟩;have nX:Hid (∃ F',V.cO w2 db F' (T.qC d ⟨k,i,t,c,b⟩)∧V.Step F F' w w2):=⟨F',Ll,(V.Step.bA bQ.out).trans jy⟩;clear Ll jy;go_wp2_with fail;go_ret;exact .inl ⟨rfl,⟨HM.out,eE⟩,nX.out⟩
  ·have cE:w1.cell? ⟨0,0,none⟩=some (.iface 360 (.pointer (some (A 0)))):=(HE.out.up bQ.out).errs.arg;have HDF:Hid (decide ((i+1)*8≤d.size)=false):=decide_eq_false eE;have T3:Hid (¬ (sV ⟨k,i,t,c,b⟩∧(i+1)*8≤d.size)):=fun h=>eE h.2
   clear eE;go_wp2_with fail;refine (nj db F d i _ Vb.out Cr vz).mono ?_
   rintro e w1' ⟨rfl,rfl⟩;rw [HDF.out];go_wp2_with fail;go_ret;exact .inr ⟨T3.out,rfl,bQ.out⟩
 ·have HS:Hid (∀ w,w.cell? ⟨0,0,none⟩=some (.iface 360 (.pointer (some (A 0))))→Calls prog 96 #[.agg #[.int .i64 k,.int .i64 i,.int .u64 (t:Int),.int .i64 c,.string b]] w fun e w'=>e = .returned (.tuple #[.slice none 0 0,.iface 360 (.pointer (some (A 0)))])∧Below w.heap.size w w'):=fun w hc=>Sd (A 0) ⟨k,i,t,c,b⟩ w hs hm hc
  have T3:Hid (¬ (sV ⟨k,i,t,c,b⟩∧(i+1)*8≤d.size)):=fun h=>hm h.1
  clear hE hd hF hs hx hm hp AR ha;show Calls prog 62 #[.pointer (some ⟨db,0,none⟩),.agg #[.int .i64 k,.int .i64 i,.int .u64 (t:Int),.int .i64 c,.string b]] w _
  go_enter func62,ntmps62;go_wp2_with fail;refine (HS.out _ (HE.out.up HB.out).errs.arg).mono ?_
  rintro e w1 ⟨rfl,aP⟩;have bQ:=ab (Below.next HB.out aP);clear aP;go_wp2_with fail;go_ret;exact .inr ⟨T3.out,rfl,bQ.out⟩
end Go.Proofs.YtihmgigfkmofnaaGreatDoor.S
