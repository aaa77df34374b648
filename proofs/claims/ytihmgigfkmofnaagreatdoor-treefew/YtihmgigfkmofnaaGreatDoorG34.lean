import Derived.Test.YtihmgigfkmofnaaGreatDoorG33
set_option maxHeartbeats 4000000
set_option maxRecDepth 100000
open Go.Proofs.Tryz
namespace Go.Proofs.YtihmgigfkmofnaaGreatDoor
namespace T
open Go.RowKit
section
variable {PG:Int→Option PD} {w0:World} {lo pb:Nat} {pv:Value} {P:List Nat} {tx:Nat} {h:Nat} {w:World} {sv:Value} {Z Z1:List S.Sh}
theorem pR.setRow{H:Nat}{cs:Array Value}{sx:Value}{wx:World}(hp:pR w0 lo pb pv P tx wx sx Z1)(ht:mo pb w sv wx sx)(Ep:w.heap.size≤H)(hw0:w0.heap.size≤w.heap.size)(FC:H≠pb)(fy:sx.ownBlock≠some H):pR w0 lo pb pv P tx (wx.setRow H cs) sx Z1∧mo pb w sv (wx.setRow H cs) sx:=by
 have dB:=C4 wx H cs;have h3:=hp;refine ⟨⟨⟨dB.os.trans h3.ff.os,dB.tape.trans h3.ff.tape,dB.output.trans h3.ff.output,aq h3.ff.size dB.size,fun k hk=>(dB.block k (al hk h3.ff.size) (by omega)).trans (h3.ff.block k hk)⟩,(dB.block pb h3.row.lt (fun e=>FC e.symm)).trans h3.row,h3.sh.same fun g' Cv=>dB.block g' (h3.sh.dy Cv).2 (fun e=>fy (e▸Cv)),h3.ord,aq h3.lo dB.size,h3.pg,h3.pl⟩,?_⟩
 exact ⟨aq ht.size dB.size,fun k hk h1 h2=>(dB.block k (al hk ht.size) (by omega)).trans (ht.block k hk h1 h2),ht.own⟩
theorem Bm(A:Nat→Addr){b:Nat}{n:SN}{xv lv cv:Value}{f:Int}{lk:List B.Lk}(xT:dM w0 b n xv lv cv)(hu:¬ n.us.length=0)(hE:B.pT A w0)(hP:pR w0 lo pb pv P tx w sv Z)(hbo:∀ W,Below w.heap.size w W→Calls prog 184 #[.pointer (some ⟨pb,0,none⟩),.pointer (some ⟨b,0,none⟩)] W fun e w'=>∃ n7 U3,e = .returned (.agg #[.int .i64 f,U3])∧B.dm w' U3 lk∧pR w0 lo pb pv P tx w' n7 Z1∧mo pb W sv w' n7)(kV:B.mX f lk true=none)(oC:lk.length≤4000):Calls prog 149 #[.pointer (some ⟨pb,0,none⟩),.pointer (some ⟨b,0,none⟩)] w fun e w'=>∃ WN,e = .returned (.agg #[.int .i64 66,.int .i64 0,.int .u64 0,.int .i64 ((lk.length:Int)+1),.string (B.pP f lk)])∧pR w0 lo pb pv P tx w' WN Z1∧mo pb w sv w' WN:=by
 obtain ⟨W1,lf⟩ : ∃ W1,w.alloc (.cells #[.int .i64 0,.int .i64 0,.int .u64 0,.int .i64 0,.string ⟨#[]⟩] 87)=W1:=⟨_,rfl⟩;have aN:Below w.heap.size w W1:=lf▸ai w _;have r1:B.au W1 w.heap.size #[.int .i64 0,.int .i64 0,.int .u64 0,.int .i64 0,.string ⟨#[]⟩] 87:=lf▸B.au.new w _ _;obtain ⟨H,hH⟩ : ∃ H,w.heap.size=H:=⟨_,rfl⟩;rw [hH] at r1;have jT:=(xT.below hP.ff).below aN;have pI:=ab (cd b n xv lv cv W1 jT);rw [show decide (n.us.length=0)=false by simp [hu]] at pI
 have Xu:=ab (hbo W1 aN);have nK:=ab r1;have bN:=ab aN;have HP:=ab hP;have nR:=ab kV;have JF:=ab oC;have HE:=ab hE;have HHP:Hid (w.heap.size=H∧H≠pb∧sv.ownBlock≠some H∧H<W1.heap.size):=⟨hH,by have:=hP.row.lt;omega,fun e=>by have:=(hP.sh.dy e).2;omega,r1.lt⟩
 have Z4:Hid (B.Uz lk):=fun p hp=>by
  have:=(B.kD kV).2.2.1 p hp;have:=B.kJ this;omega
 clear xT jT hE kV aN r1 hu hP hbo oC;go_enter func149,ntmps149;go_wp2_with fail;refine pI.out.mono ?_
 rintro e w1' ⟨rfl,rfl⟩;go_wp2_with fail;refine Xu.out.mono ?_
 rintro e w2 ⟨s2,l2,rfl,SC,Xa,vU⟩;obtain ⟨la,lc,tH⟩:=SC.form;subst tH;obtain ⟨W3,SO⟩ : ∃ W3,w2.alloc (.cells #[.int .i64 f,.slice la lk.length lc] 150)=W3:=⟨_,rfl⟩;have b6:Below w2.heap.size w2 W3:=SO▸ai w2 _;obtain ⟨K,hK⟩ : ∃ K,w2.heap.size=K:=⟨_,rfl⟩;have rK:B.au W3 K #[.int .i64 f,.slice la lk.length lc] 150:=by rw [← hK];exact SO▸B.au.new w2 _ _
 have vV:=Xa.below b6;have Q6:=HHP.out;have r2:B.au w2 H #[.int .i64 0,.int .i64 0,.int .u64 0,.int .i64 0,.string ⟨#[]⟩] 87:=(vU.block H Q6.2.2.2 Q6.2.1 Q6.2.2.1).trans nK.out;have YA:s2.ownBlock≠some H:=fun e=>by
  rcases vU.own H e with e' | e'
  ·exact Q6.2.2.1 e'
  ·have:=Q6.2.2.2;omega
 have UK:=ab (B.Qk A f _ lk W3 Z4.out (by have:=JF.out;omega) (SC.below b6) (HE.out.below vV.ff))
 have k0:=rK.c0;have k1:=rK.c1;have Rb:=ab (r2.below b6);have ZR:=ab rK;have HP3:=ab vV;have HT3:=ab ((mo.below sv bN.out).trans (vU.trans (mo.below s2 b6)));have kh:=ab YA;clear SC Xa vU b6 rK vV r2 Q6 YA Xu pI;go_wp2_with fail;refine UK.out.mono ?_
 rintro e w4 ⟨he,gH⟩;rcases he with ⟨_,rfl⟩ | ⟨k,hk,_⟩
 ·have r4:=Rb.out.below gH;have k1':=(ZR.out.below gH).c1;have eS:=C0 w4 H _ (.int .i64 66) (.int .i64 0) (.int .u64 0) (.int .i64 ((lk.length:Int)+1)) (.string (B.pP f lk)) r4 rfl ⟨rfl,rfl,rfl,rfl,rfl⟩;have gN:=ab eS;have HR4:=ab r4;have HP4:=ab (HP3.out.below gH);have HT4:=ab (HT3.out.trans (mo.below s2 gH));have ahe:(1:Int)+(lk.length:Int)=(lk.length:Int)+1:=by omega
  have hlb:(lk.length:Int)≤4000:=by have:=JF.out;omega
  have QZ:(0:Int)≤(lk.length:Int):=by omega
  clear gH UK eS r4;go_wp2_with fail;refine (Ai pb w4).mono ?_
  rintro e w4' ⟨rfl,rfl⟩;go_wp2_with (refine eW rfl 87 _ _ rfl _ _ rfl rfl gN.out ?_)
  have ic:=pR.setRow (cs:=#[.int .i64 66,.int .i64 0,.int .u64 0,.int .i64 ((lk.length:Int)+1),.string (B.pP f lk)]) HP4.out HT4.out (by have:=HHP.out.1;omega) HP.out.ff.size HHP.out.2.1 kh.out
  refine bodyPost_ret (results_cell_row rfl _ _ H 87 _ (0,0) _ rfl (Nw w4 H _ _ HR4.out) underlying87 rfl info87) rfl ?_
  exact ⟨s2,rfl,ic.1,ic.2⟩
 ·rw [nR.out] at hk;cases hk
theorem Ds{k:Nat}(hk:k<P.length):P[k]?=some (fi P k):=by
 unfold fi;rw [aJ,af hk];rfl
theorem Ox(id:Int)(w:World):Calls prog 72 #[.pointer (some ⟨pb,0,none⟩),.iface 146 (.int .i64 id)] w fun e w'=>e = .returned (.int .i64 id)∧w=w':=by
 have a1:=fun W=>Qn (.int .i64 id) W
 go_enter func72,ntmps72;go_wp2;go_ret;exact ⟨rfl,rfl⟩
theorem Oy{b:Nat}{Q:Ending→World→Prop}(hl:Calls prog 112 #[.pointer (some ⟨pb,0,none⟩),.pointer (some ⟨b,0,none⟩)] w fun e w'=>(∃ id:Int,e = .returned (.int .i64 id))∧Q e w'):Calls prog 72 #[.pointer (some ⟨pb,0,none⟩),.iface 152 (.pointer (some ⟨b,0,none⟩))] w Q:=by
 have HL:=ab hl;have a1:=fun W=>Jy (.pointer (some ⟨b,0,none⟩)) W
 have a2:=fun W=>Qo (.pointer (some ⟨b,0,none⟩)) W
 clear hl;go_enter func72,ntmps72;go_wp2_with fail;refine HL.out.mono ?_
 rintro e w1 ⟨⟨id,rfl⟩,hq⟩;have HQ:=ab hq;clear hq HL;go_wp2;exact HQ.out
theorem rW(A:Nat→Addr)(hE:B.pT A w0)(MA:∀ j,2≤fi P j∧fi P j<1048576):∀ h,Tr PG w0 lo pb pv P tx h
 | 0=>fun p t w sv Z hk ho hP uJ ji=>by
  cases p with
  | pg id =>
   have hk:gC PG 0 id t:=hk;have h0:¬ t.1=0:=by have:=hk.1;have:=hk.2.1;omega
   have e1:(aT (fi P) 0 t Z.length)=(t,[]):=if_neg h0;have e2:(eX 0 t:Int)=id:=hk.2.1;rw [e1];refine (Ox id w).mono ?_
   rintro e w' ⟨rfl,rfl⟩;exact ⟨sv,by rw [e2],by simpa using hP,mo.refl _ _ _⟩
  | nd b =>
   obtain ⟨h0,n,xv,lv,cv,xT,hn⟩:=hk;have h0:t.1=0:=h0;have AP:fA 0 t=1:=if_pos h0;have e1:(aT (fi P) 0 t Z.length)=((fi P Z.length,t.2),[(fi P Z.length,.leaf t.2)]):=if_pos h0;have nG:n.ps=t.2:=hn.2;have kV:zO n.ps true=none:=by rw [nG];exact Dz ho
   rw [e1];refine Oy ((uD (Z1:=Z) b 76 (n.ps.length:Int) (tQ n.ps) hP ((F7 A pb b n xv lv cv w (xT.below hP.ff) hn.1 (hE.c.below hP.ff) kV).mono ?_) (fi P Z.length) (Ds (by omega))).mono ?_)
   ·rintro e w' ⟨rfl,hb⟩;exact ⟨sv,rfl,hP.below hb,mo.below sv hb⟩
   ·rintro e w' ⟨n7,rfl,h1,h2⟩;rw [nG] at h1;exact ⟨⟨_,rfl⟩,n7,rfl,h1,h2⟩
 | h+1=>fun p t w sv Z hk ho hP uJ ji=>by
  cases p with
  | pg id =>
   have hk:gC PG (h+1) id t:=hk;have h0:¬ t.1=0:=by have:=hk.1;have:=hk.2.1;omega
   have e1:(aT (fi P) (h+1) t Z.length)=(t,[]):=if_neg h0;have e2:(eX (h+1) t:Int)=id:=hk.2.1;rw [e1];refine (Ox id w).mono ?_
   rintro e w' ⟨rfl,rfl⟩;exact ⟨sv,by rw [e2],by simpa using hP,mo.refl _ _ _⟩
  | nd b =>
   obtain ⟨h0,n,xv,lv,cv,xT,hn⟩:=hk;have h0:t.1=0:=h0;have AP:fA (h+1) t=(t.2.2.map (fA h)).sum+1:=if_pos h0;obtain ⟨R,hR⟩ : ∃ R,R=bU (aT (fi P) h) t.2.2 Z.length:=⟨_,rfl⟩;have e1:(aT (fi P) (h+1) t Z.length)=((fi P (Z.length+R.2.length),t.2.1,R.1),R.2++[(fi P (Z.length+R.2.length),.br (lz R.1) (qv t.2.1 R.1))]):=by rw [hR];exact if_pos h0
   have hRl:R.2.length=(t.2.2.map (fA h)).sum:=by rw [hR];exact sd (pz h) t.2.2 Z.length
   rw [e1] at ji ⊢;have YD:(R.1.flatMap (cD h)).Nodup:=by
    have h9:(cJ (fi P (Z.length+R.2.length))++R.1.flatMap (cD h)).Nodup:=ji;exact h9.sublist (dA _ _)
   obtain ⟨⟨tn,oE,cC⟩,cp,jT⟩:=ho;have Xb:=(iA h t tn oE).1 cC;have Sw:ig (mF h) tn oE t.2.1 R.1:=by
    rw [hR];exact vR (fun t k lo hi hf=>⟨qy h t k lo hi hf.1,by unfold Full;rw [BH];exact hf.2⟩) t.2.2 t.2.1 Z.length tn oE Xb
   have Ms:n.us.length=t.2.2.length:=hn.1;have ny:t.2.1=n.lk.map (·.1):=hn.2.2.2.1;have abJ:∀ c ∈ R.1,2≤eX h c∧eX h c<1048576:=fun c' uK=>by
    obtain ⟨i,hi,hv⟩:=aI uK;have Mw:i<t.2.2.length:=by rw [hR,ir] at hi;exact hi
    have KY:t.2.2[i]?=some t.2.2[i]:=af Mw;obtain ⟨ki,g1,_⟩:=r9 (aT (fi P) h) t.2.2 Z.length i _ KY;rw [← hR,af hi,hv] at g1;cases g1;obtain ⟨q,hq⟩ : ∃ q,n.us[i]?=some q:=⟨_,af (by omega)⟩
    exact Ax MA (hn.rh hq KY) ki
   have kV:B.mX (lz R.1) (qv t.2.1 R.1) true=none:=Qi Sw cp jT abJ YD;have hlen:(qv t.2.1 R.1).length=n.lk.length:=by rw [vQ _ _ (jI Sw),ny,az]
   have hu0:¬ n.us.length=0:=fun e=>hn.2.1 (List.length_eq_zero_iff.1 e)
   refine Oy ((uD (Z1:=Z++R.2.map (jM tx)) b 66 (((qv t.2.1 R.1).length:Int)+1) (B.pP (lz R.1) (qv t.2.1 R.1)) hP (Bm A xT hu0 hE hP (fun W hW=>?_) kV (by rw [hlen];exact xT.fine.2.2.2.1)) (fi P (Z.length+R.2.length)) (by rw [ae,az];exact Ds (by omega))).mono ?_)
   ·have:=nc (rW A hE MA h) xT hn ⟨⟨tn,oE,cC⟩,cp,jT⟩ (hP.below hW) (by rw [← hR];exact YD) (by omega)
    rw [← hR] at this;exact this
   ·rintro e w' ⟨n7,rfl,h1,h2⟩;refine ⟨⟨_,rfl⟩,n7,rfl,?_,h2⟩;rw [aW,← ax];exact h1
end
theorem RY{w:World}{fb fg PP:Nat}{T:Nat→Bool}(h:Q.eU w fb fg PP T):Tp w fg:=by
 rcases h.QR.2 with ⟨h',_⟩ | ⟨g,cap,cur,h',hb,hg,hn,hm,hs,ht⟩
 ·simp at h'
 ·simp only [Value.slice.injEq,Option.some.injEq,Addr.mk.injEq] at h';obtain ⟨⟨rfl,_⟩,_,rfl⟩:=h';have cZ:cur.toList=Q.j6 T (Q.nW PP):=by
   rw [← ht,ar (by simp [hs])]
  refine ⟨fun j u hc=>?_,fun cs fr e=>?_,fun cs fr e=>?_⟩
  ·rw [cell_of_row w _ j cur _ _ hg] at hc;obtain ⟨h3,h4⟩:=Array.getElem?_eq_some_iff.1 hc;have hu:u ∈ cur.toList:=by rw [← h4];exact gG h3
   rw [cZ] at hu;obtain ⟨i,_,rfl⟩:=List.mem_map.1 hu;exact ⟨(fun s e=>by cases e),(fun t x e=>by cases e)⟩
  ·rw [hg] at e;simp at e
  ·rw [hg] at e;simp at e
theorem LY{w w':World}{fg:Nat}(ho:Q.gm (fun k=>k=fg) w w')(hd:Tp w fg):dd w w':=⟨ho.size,fun k hk=>by
 by_cases e:k=fg
 ·exact .inr (e▸hd)
 ·exact .inl (ho.block k hk e)⟩
section
variable {base:Nat} {A:Nat→Addr} {db:Nat} {F:Nat→Prop} {d:S.V.bD} {W0:World} {r:cT}
theorem Dv.only{w w':World}{fg:Nat}(hv:Dv base A db F d w)(ho:Q.gm (fun k=>k=fg) w w')(hb:base≤fg)(hf:¬ F fg):Dv base A db F d w':=by
 obtain ⟨d1,n1,sN⟩:=hv.dev;have eS:S.V.Step (fun k=>k=fg) (fun k=>k=fg) w w':=⟨ho.os,ho.tape,ho.output,ho.size,ho.block,fun _ h=>.inl h⟩
 have jJ:Below base w w':=⟨ho.os,ho.tape,ho.output,ho.size,fun k hk=>ho.block k (al hk hv.env.errs.size) (by omega)⟩
 refine ⟨⟨d1,n1,sN.keep eS (fun k hk e=>hf (e▸hk))⟩,hv.env.keep jJ,⟨fun i hi=>?_,hv.errs.2⟩,hv.up,hv.alive,hv.lo⟩
 obtain ⟨h1,c,t,h2⟩:=hv.errs.1 i hi;have hl:=hv.lo i hi;exact ⟨(jJ.cell (p:=⟨fl i,0,none⟩) hl.1).trans h1,c,t,(jJ.block _ hl.2).trans h2⟩
end
theorem AQ(f:Nat→Bool):∀ n,(Q.fY f n).Nodup
 | 0=>List.nodup_nil
 | n+1=>by
  show (Q.fY f n++(if f n then [] else [n])).Nodup
  rw [List.nodup_append];refine ⟨AQ f n,?_,fun a ha b hb=>?_⟩
  ·split <;> simp
  ·have:=((Q.BZ f).1 ha).1;split at hb
   ·simp at hb
   ·simp at hb;omega
theorem xD(T:Nat→Bool)(PP n:Nat):(Q.fj T PP n).Nodup:=(AQ T PP).sublist (List.take_sublist _ _)
theorem mP{T:Nat→Bool}{PP n:Nat}(hk:Q.qc PP T)(j:Nat):2≤fi (Q.fj T PP n) j∧fi (Q.fj T PP n) j<1048576:=by
 unfold fi;rw [aJ];cases h:(Q.fj T PP n)[j]? with
 | none=>simp
 | some x =>
  have hm:=cH h;have:=Q.rT hm;have h0:=hk.t0;have h1:=hk.t1;have h2:=hk.hi;simp only [lB];refine ⟨?_,by omega⟩
  rcases aZ x 2 with hx | hx
  ·have:x=0∨x=1:=by omega
   rcases this with rfl | rfl
   ·rw [h0] at this;cases this.2
   ·rw [h1] at this;cases this.2
  ·exact hx
def jk(P:Nat→Nat):cT→cT × List (Nat × PD)
 | none=>(none,[])
 | some x=>(some ⟨x.1,(aT P x.1 x.2 0).1⟩,(aT P x.1 x.2 0).2)
def oh:cT→Nat
 | none=>0
 | some x=>eX x.1 x.2
def lL:cT→Value
 | none=>.nilIface
 | some x=>(C.Ch.pg (eX x.1 x.2:Int)).val
theorem D7(L:List Nat):pL (fi L) 0 L.length=L:=by
 unfold pL fi;refine lD (by simp) fun i h1 h2=>?_
 simp [List.getElem?_eq_getElem h2]
theorem rX{P:Nat→Nat}{r:cT}(h:dU r):dU (jk P r).1∧aP (jk P r).1=aP r:=by
 cases r with
 | none=>exact ⟨h,rfl⟩
 | some x =>
  obtain ⟨hh,t⟩:=x;exact ⟨⟨qy hh t 0 none none h.1,by show np hh (aT P hh t 0).1≤4072;rw [BH];exact h.2.1,Ov hh t 0 h.2.2⟩,DZ hh t 0⟩
theorem Ay{L:List Nat}{r:cT}(hl:L.length=bY r)(h0:∀ j,fi L j≠0):(bz (jk (fi L) r).1).Perm (bz r++L):=by
 cases r with
 | none =>
  have:L=[]:=List.length_eq_zero_iff.1 hl;subst this;exact List.Perm.refl _
 | some x =>
  obtain ⟨hh,t⟩:=x;have Uf:fA hh t=L.length:=hl.symm;have:=DW h0 hh t 0;rw [BI,pz,Uf,D7] at this;exact this
theorem qz{T:Nat→Bool}{PP:Nat}{r:cT}(hk:Q.qc PP T)(hn:bY r≤(Q.fY T PP).length)(ji:(bz r).Nodup)(Fz:∀ i ∈ bz r,T i=true):(bz (jk (fi (Q.fj T PP (bY r))) r).1).Nodup∧(Q.fj T PP (bY r)).length=bY r:=by
 have hl:(Q.fj T PP (bY r)).length=bY r:=by rw [Q.xE];omega
 refine ⟨?_,hl⟩;rw [(Ay hl (fun j=>by have:=mP (n:=bY r) hk j;omega)).nodup_iff,List.nodup_append]
 refine ⟨ji,xD _ _ _,fun a ha b hb e=>?_⟩
 have h1:=Fz a ha;have h2:=(Q.rT hb).2;rw [e,h2] at h1;cases h1
structure Mp(base:Nat)(F:Nat→Prop)(tb:Nat)(w:World)(fb fg PP:Nat)(T:Nat→Bool):Prop where
 map:Q.eU w fb fg PP T
 ok:Q.qc PP T
 lo:base≤fg∧base≤fb
 nf:¬ F fg∧¬ F fb
 nt:fg≠tb∧fb≠tb
theorem Sb(pb:Nat)(w:World):Calls prog 72 #[.pointer (some ⟨pb,0,none⟩),.nilIface] w fun e w'=>e = .returned (.int .i64 0)∧w=w':=by
 have a1:∀ W,(Instr.typeAssert .nilIface 97 146 true).run prog W = .ok (.tuple #[.int .i64 0,.bool false]) W:=fun W=>by kernel_rfl
 have a2:∀ W,(Instr.typeAssert .nilIface 97 152 true).run prog W = .ok (.tuple #[.pointer none,.bool false]) W:=fun W=>by kernel_rfl
 go_enter func72,ntmps72;go_wp2;go_ret;exact ⟨rfl,rfl⟩
theorem Gd(r:cT)(h:oh r=0→r=none)(w:World):Calls prog 43 #[.int .i64 (oh r:Int)] w fun e w'=>e = .returned (lL r)∧w=w':=by
 cases r with
 | none=>exact uq w
 | some x =>
  have h0:¬ (oh (some x):Int)=0:=fun e=>by
   have:=h (by omega)
   cases this
  exact uv (oh (some x):Int) w h0
section
variable {base:Nat} {A:Nat→Addr} {db:Nat} {F:Nat→Prop} {d:S.V.bD} {W0:World} {r:cT}
theorem Ow{w0 w:World}{lo pb:Nat}{pv:Value}{P:List Nat}{tx:Nat}{sv rv:Value}(hE:B.pT A w0)(MA:∀ j,2≤fi P j∧fi P j<1048576)(hr:gA (cU d) w0 rv r)(cC:dU r)(hP:pR w0 lo pb pv P tx w sv [])(uJ:bY r≤P.length)(ji:(bz (jk (fi P) r).1).Nodup):Calls prog 72 #[.pointer (some ⟨pb,0,none⟩),rv] w fun e w'=>∃ n7,e = .returned (.int .i64 (oh (jk (fi P) r).1:Int))∧pR w0 lo pb pv P tx w' n7 ((jk (fi P) r).2.map (jM tx))∧mo pb w sv w' n7:=by
 rcases hr with ⟨rfl,rfl⟩ | ⟨p,h,t,rfl,rfl,hk⟩
 ·refine (Sb pb w).mono ?_
  rintro e w' ⟨rfl,rfl⟩;exact ⟨sv,rfl,hP,mo.refl _ _ _⟩
 ·refine (rW A hE MA h p t w sv [] hk (Dy cC) hP (by have h9:fA h t≤P.length:=uJ;simpa using h9) ji).mono ?_
  rintro e w' ⟨n7,rfl,h1,h2⟩;exact ⟨n7,rfl,h1,h2⟩
theorem KJ{P:Nat→Nat}(hP:∀ j,2≤P j∧P j<1048576):oh (jk P r).1=0→(jk P r).1=none:=fun h=>by
 cases r with
 | none=>rfl
 | some x=>exact absurd h (DX (fun j=>by have:=hP j;omega) x.1 x.2 0)
theorem info127:(prog.info? 127).map (·.size)=some 4:=by kernel_rfl
theorem Nj(w:World)(H:Nat)(Fq:Array Value)(a b c d:Value)(hr:B.au w H Fq 127)(ho:Fq.size=4)(h1:a.oneCell'=true∧b.oneCell'=true∧c.oneCell'=true∧d.oneCell'=true):(Instr.storeAt 127 (.pointer (some ⟨H,0,none⟩)) (.agg #[a,b,c,d])).run prog w = .ok () (w.setRow H #[a,b,c,d]):=by
 have:=run_storeVar_row (P:=prog) w H 127 127 Fq #[a,b,c,d] hr info127 (by rw [ho];rfl) (by simp [h1.1,h1.2.1,h1.2.2.1,h1.2.2.2])
 simp only [Instr.storeAt,Instr.sureAddr,Sem.run_bind,Sem.run_pure,Result.andThen_ok,this]
theorem kB{w w':World}{fb fg PP:Nat}{T:Nat→Bool}(h:Q.eU w fb fg PP T)(h1:w'.heap[fb]?=w.heap[fb]?)(h2:w'.heap[fg]?=w.heap[fg]?):Q.eU w' fb fg PP T:=by
 refine ⟨h1.trans h.dy,⟨h.QR.1,?_⟩,h.hi⟩;rcases h.QR.2 with ⟨h',_⟩ | ⟨g,cap,cur,h',hb,hg,hr⟩
 ·simp at h'
 ·have e:fg=g:=by simp only [Value.slice.injEq,Option.some.injEq,Addr.mk.injEq] at h';exact h'.1.1
  subst e;exact .inr ⟨fg,cap,cur,h',hb,h2.trans hg,hr⟩
theorem sQ.lower{w:World}{lo tn:Nat}{v:Value}{l:List S.Sh}(h:sQ w lo v l)(hl:tn≤lo):sQ w tn v l:=by
 refine ⟨h.1,?_⟩;rcases h.2 with h' | ⟨g,cap,cur,h',h1,h2⟩
 ·exact .inl h'
 ·exact .inr ⟨g,cap,cur,h',aq hl h1,h2⟩
theorem Gg{w:World}{tb fb fg PP tx:Nat}{T:Nat→Bool}(hc:Ts base A db F d W0 w tb r)(hQ:Q.Env base A w)(hM:Mp base F tb w fb fg PP T)(hn:bY r≤(Q.fY T PP).length)(My:bY r≤1000000)(ji:(bz r).Nodup)(Fz:∀ i ∈ bz r,T i=true):Calls prog 35 #[.pointer (some ⟨tb,0,none⟩),.pointer (some ⟨fb,0,none⟩),.int .u64 (tx:Int)] w fun e w'=>∃ sv,e = .returned (.tuple #[sv,.int .i64 (oh (jk (fi (Q.fj T PP (bY r))) r).1:Int),.nilIface])∧sQ w' w.heap.size sv ((jk (fi (Q.fj T PP (bY r))) r).2.map (jM tx))∧Mp base F tb w' fb fg PP (Q.kn T (Q.fj T PP (bY r)))∧B.au w' tb #[.pointer (some ⟨db,0,none⟩),lL (jk (fi (Q.fj T PP (bY r))) r).1] 100∧Dv base A db F d w'∧S.V.Step (fun k=>k=fg∨k=tb) (fun k=>k=fg∨k=tb) w w':=by
 obtain ⟨vp,K4⟩:=qz hM.ok hn ji Fz;obtain ⟨L,hL⟩ : ∃ L,L=Q.fj T PP (bY r):=⟨_,rfl⟩;have MA:∀ j,2≤fi L j∧fi L j<1048576:=fun j=>by rw [hL];exact mP hM.ok j
 have htd:Q.kE PP T (bY r:Int)=(none,L,Q.kn T L):=by
  unfold Q.kE;rw [if_neg (by omega),if_neg (by rw [bn];omega),bn,← hL]
 rw [← hL] at vp K4 ⊢;have wk:=ab (eC hc (by omega))
 have HTK:=ab (Q.M9 base A fb fg PP T (bY r:Int) w hM.map hM.ok hQ);rw [htd] at HTK;have HC:=ab hc;have HM:=ab hM;have Z2:=ab vp;have kj:=ab K4;have Xp:=ab MA;have HCB:=ab My;have MOK:Hid (Q.qc PP (Q.kn T L)):=by
  have hk:=hM.ok;refine ⟨hk.lo,hk.hi,by simp [Q.kn,hk.t0],by simp [Q.kn,hk.t1],fun j hj=>by simp [Q.kn,hk.up j hj]⟩
 obtain ⟨N,hN⟩ : ∃ N,N=bY r:=⟨_,rfl⟩;rw [← hN] at wk HTK;clear hc hQ hM hn My ji Fz vp K4 hL MA htd hN;go_enter func35,ntmps35;go_wp2_with fail;refine wk.out.mono ?_
 rintro e w1' ⟨rfl,rfl⟩;go_wp2_with fail;refine HTK.out.mono ?_
 rintro e w1 ⟨v,rfl,aD,hmap,Ed⟩;rw [show im A none = .nilIface from rfl]
 have Ht:dd w w1:=LY Ed (RY HM.out.map);have eH:Dv base A db F d w1:=HC.out.dv.only Ed HM.out.lo.1 HM.out.nf.1;obtain ⟨rv,ht,hr⟩:=HC.out.tr;have D9:=dz Ht ht;have eN:=hr.cx Ht;have zd:=fS aD;obtain ⟨pa,pc,mQ⟩ : ∃ a c,v = .slice a L.length c:=by
  rcases aD.2 with ⟨h',h0⟩ | ⟨g,cap,cur,h',_⟩
  ·exact ⟨none,0,by rw [h',h0]⟩
  ·exact ⟨_,_,h'⟩
 subst mQ;obtain ⟨K,hK⟩ : ∃ K,w1.heap.size=K:=⟨_,rfl⟩;have rZ:B.au (w1.alloc (.cells #[.slice none 0 0,.int .u64 0,.slice none 0 0,.nilIface] 127)) K #[.slice none 0 0,.int .u64 0,.slice none 0 0,.nilIface] 127:=by rw [← hK];exact B.au.new w1 _ _
 have eS:=Nj (w1.alloc (.cells #[.slice none 0 0,.int .u64 0,.slice none 0 0,.nilIface] 127)) K _ (.slice pa L.length pc) (.int .u64 (tx:Int)) (.slice none 0 0) .nilIface rZ rfl ⟨rfl,rfl,rfl,rfl⟩;obtain ⟨W2,K3⟩ : ∃ W2,(w1.alloc (.cells #[.slice none 0 0,.int .u64 0,.slice none 0 0,.nilIface] 127)).setRow K #[.slice pa L.length pc,.int .u64 (tx:Int),.slice none 0 0,.nilIface]=W2:=⟨_,rfl⟩;rw [K3] at eS;have qC:=C4 (w1.alloc (.cells #[.slice none 0 0,.int .u64 0,.slice none 0 0,.nilIface] 127)) K #[.slice pa L.length pc,.int .u64 (tx:Int),.slice none 0 0,.nilIface];rw [K3] at qC;have VM:=ai w1 (.cells #[.slice none 0 0,.int .u64 0,.slice none 0 0,.nilIface] 127);have aY:Below w1.heap.size w1 W2:=⟨qC.os.trans VM.os,qC.tape.trans VM.tape,qC.output.trans VM.output,aq VM.size qC.size,fun k hk=>(qC.block k (al hk VM.size) (by omega)).trans (VM.block k hk)⟩
 have rK:B.au W2 K #[.slice pa L.length pc,.int .u64 (tx:Int),.slice none 0 0,.nilIface] 127:=by rw [← K3];exact setRow_heap _ K _ _ _ _ rZ
 have gN:=ab eS;have hP:pR w1 (K+1) K (.slice pa L.length pc) L tx W2 (.slice none 0 0) []:=⟨aY,rK,sQ.nil _ _,⟨by omega,by omega⟩,by have:=rK.lt;omega,zd,by have:=kj.out;have:=HCB.out;omega⟩
 have QK:=ab (Ow eH.ZA Xp.out eN HC.out.ok hP (by have:=kj.out;omega) Z2.out)
 have c1:W2.cell? ⟨tb,1,none⟩=some rv:=(D9.below aY).c1;have Fa:=ab D9;have qY:=ab eH;have HMP:=ab hmap;have Wn:=ab Ed;have HKW:Hid (w.heap.size≤K∧w1.heap.size=K):=⟨by have:=Ed.size;omega,hK⟩
 have YY:=eN.form;clear eS qC VM rZ K3 Ht eH ht hr D9 eN zd aD hmap Ed aY rK hP HTK wk;rcases YY with rfl | ⟨rt,rx,rfl⟩
 all_goals
  go_wp2_with (refine eW rfl 127 _ _ rfl _ _ rfl rfl gN.out ?_)
  refine QK.out.mono ?_
  rintro e w3 ⟨s3,rfl,vV,ht3⟩;obtain ⟨sa,sc,hsf⟩:=vV.sh.form;rw [az] at hsf;subst hsf;have htK:tb<K:=by have:=Fa.out.lt;have:=HKW.out.2;omega
  have k3:w3.cell? ⟨K,3,none⟩=some .nilIface:=vV.row.cell 3 (by simp)
  have Sp:=Fa.out.below vV.ff;have t1:=Sp.c1;have tf:=Sp.free 1;obtain ⟨R,hR⟩ : ∃ R,R=lL (jk (fi L) r).1:=⟨_,rfl⟩;have rj:=ab (Gd (jk (fi L) r).1 (KJ Xp.out) w3);rw [← hR] at rj;have hRf:R = .nilIface∨∃ t x,R = .iface t x:=by
   rw [hR];cases (jk (fi L) r).1 with
   | none=>exact .inl rfl
   | some x=>exact .inr ⟨_,_,rfl⟩
  have dB:=bK.set tb 1 w3 R;have k2:(w3.setCell ⟨tb,1,none⟩ R).cell? ⟨K,2,none⟩=some (.slice sa (jk (fi L) r).2.length sc):=b9 (dB.block K vV.row.lt (by omega)) (vV.row.cell 2 (by simp))
  have nM:Hid (sQ (w3.setCell ⟨tb,1,none⟩ R) w.heap.size (.slice sa (jk (fi L) r).2.length sc) ((jk (fi L) r).2.map (jM tx))∧Mp base F tb (w3.setCell ⟨tb,1,none⟩ R) fb fg PP (Q.kn T L)∧B.au (w3.setCell ⟨tb,1,none⟩ R) tb #[.pointer (some ⟨db,0,none⟩),lL (jk (fi L) r).1] 100∧Dv base A db F d (w3.setCell ⟨tb,1,none⟩ R)∧S.V.Step (fun k=>k=fg∨k=tb) (fun k=>k=fg∨k=tb) w (w3.setCell ⟨tb,1,none⟩ R)):=by
   have hkw:=HKW.out;have hm:=HM.out;have YL:=HMP.out.TR;have SA:=HMP.out.TQ;refine ⟨(vV.sh.same fun g hg=>dB.block g (vV.sh.dy hg).2 (by have:=(vV.sh.dy hg).1;omega)).lower (by omega),⟨kB HMP.out ((dB.block fb (al YL vV.ff.size) hm.nt.2).trans (vV.ff.block fb YL)) ((dB.block fg (al SA vV.ff.size) hm.nt.1).trans (vV.ff.block fg SA)),MOK.out,hm.lo,hm.nf,hm.nt⟩,by rw [← hR];exact B.au.one Sp R,(qY.out.below vV.ff).tree HC.out.lo.1 HC.out.lo.2 1 R,?_⟩
   have ho:=Wn.out;exact ⟨dB.os.trans (vV.ff.os.trans ho.os),dB.tape.trans (vV.ff.tape.trans ho.tape),dB.output.trans (vV.ff.output.trans ho.output),aq (aq ho.size vV.ff.size) dB.size,fun k hk hnk=>(dB.block k (by have:=vV.ff.size;omega) (fun e=>hnk (.inr e))).trans ((vV.ff.block k (by omega)).trans (ho.block k hk (fun e=>hnk (.inl e)))),fun _ h=>.inl h⟩
  clear vV ht3 Sp dB QK c1 hR;rcases hRf with rfl | ⟨qt,qx,rfl⟩
  all_goals
   go_wp2_with fail;refine rj.out.mono ?_
   rintro e w3' ⟨rfl,rfl⟩;go_wp2;go_ret3;exact ⟨_,rfl,nM.out⟩
end
end T
namespace S.V
open Go.RowKit Go.Maps
theorem LZ{t:ByteArray}(h:t.size=512)(hz:vr t=true):t=qg:=by
 apply Ca
 rw [qg,tU];have:=of_decide_eq_true hz;rw [h] at this;exact this
theorem ED{x:gJ}{j:Int}:∀ {l:List gJ},(∀ y ∈ l,y.ix≠x.ix)→(qA x l).find? (fun y=>decide (y.ix=j))=if x.ix=j then some x else l.find? (fun y=>decide (y.ix=j))
 | [],_=>by unfold qA;rw [jW];by_cases hx:x.ix=j <;> simp [hx]
 | y::r,h=>by
  unfold qA;split
  ·rw [jW];by_cases hx:x.ix=j <;> simp [hx]
  ·rw [jW,ED (fun z hz=>h z (by simp [hz]))]
   by_cases hx:x.ix=j
   ·have hy:y.ix≠j:=fun e=>h y (by simp) (e.trans hx.symm)
    simp [hx,hy]
   ·simp [hx,List.find?_cons]
theorem tM{i j:Int}:∀ l:List gJ,(jr i l).find? (fun y=>decide (y.ix=j))=if i=j then none else l.find? (fun y=>decide (y.ix=j))
 | []=>by simp [jr]
 | y::r=>by
  have ih:=tM (i:=i) (j:=j) r;unfold jr at ih ⊢;rw [List.filter_cons];by_cases hy:y.ix=i
  ·simp only [hy,ne_eq,not_true_eq_false,decide_false,oV,if_false,ih,jW];by_cases SE:i=j <;> simp [SE]
  ·simp only [ne_eq,hy,not_false_eq_true,decide_true,if_true,jW,ih];by_cases hyj:y.ix=j
   ·have:i≠j:=fun e=>hy (hyj.trans e.symm)
    simp [hyj,this]
   ·simp [hyj]
theorem uE(l:List gJ)(i j:Int)(t:ByteArray)(ht:t.size=512):fx (ry l i t) j=if i=j then t else fx l j:=by
 unfold fx ry;cases hz:vr t
 ·rw [if_neg (by simp),ED (fun y hy=>(pF hy).2),tM]
  by_cases h:i=j <;> simp [h]
 ·rw [if_pos rfl,tM];by_cases h:i=j
  ·simp [h,(LZ ht hz).symm]
  ·simp [h]
theorem uf(eF:List gJ)(a:Int)(p:List UInt8)(hl:p.length=4096):∀ n:Nat,n≤8→∀ j:Int,fx (gO eF (chunks a p n)) j=if a≤j∧j<a+n then Gz ((p.drop ((j - a).toNat*512)).take 512) else fx eF j:=by
 intro n;induction n with
 | zero =>
  intro _ j;rw [if_neg (by omega)];rfl
 | succ n ih =>
  intro hn j;have hs:(Gz ((p.drop (n*512)).take 512)).size=512:=by rw [om,ag,ao];omega
  rw [uS,ql,chunk,uE _ _ _ _ hs,ih (by omega) j]
  by_cases h1:a+(n:Int)=j
  ·subst h1;rw [if_pos rfl,if_pos ⟨by omega,by omega⟩,show (a+(n:Int) - a).toNat=n by omega]
  ·rw [if_neg h1];by_cases h2:a≤j∧j<a+(n:Int)
   ·rw [if_pos h2,if_pos ⟨h2.1,by omega⟩]
   ·rw [if_neg h2,if_neg (by omega)]
theorem EC(p:List UInt8):∀ n:Nat,(List.range n).flatMap (fun i:Nat=>(p.drop (i*512)).take 512)=p.take (n*512):=by
 intro n;induction n with
 | zero=>simp
 | succ n ih =>
  rw [List.range_succ,bh,ih,Nat.succ_mul,List.take_add];simp
end S.V
namespace T
open Go.RowKit
theorem ld(x:S.V.gJ)(i:Int):∀ l:List S.V.gJ,S.V.ew (l++[x]) i=if x.ix=i then some l.length else S.V.ew l i
 | []=>by
  simp only [List.nil_append,S.V.ew,List.length_nil]
 | y::l=>by
  simp only [List.cons_append,S.V.ew,ld x i l,List.length_cons];by_cases h:x.ix=i
  ·simp [h]
  ·simp [h]
theorem kC(i:Int):∀ (l:List S.V.gJ) (k:Nat),S.V.ew l i=some k→k<l.length
 | [],k,h=>by simp [S.V.ew] at h
 | y::l,k,h=>by
  simp only [S.V.ew] at h;cases hq:S.V.ew l i with
  | none =>
   rw [hq] at h;simp only at h;split at h
   ·cases h;simp
   ·cases h
  | some q =>
   rw [hq] at h;cases h;have:=kC i l q hq;simp only [List.length_cons];omega
def Bk(eF aS:List S.V.gJ)(i:Int):ByteArray:=match S.V.ew aS i with | some k=>((aS[k]?).map S.V.gJ.kS).getD S.V.qg | none=>S.V.fx eF i
theorem C3(eF l:List S.V.gJ)(x:S.V.gJ)(i:Int):Bk eF (l++[x]) i=if x.ix=i then x.kS else Bk eF l i:=by
 unfold Bk;rw [ld];by_cases h:x.ix=i
 ·rw [if_pos h,if_pos h];simp
 ·rw [if_neg h,if_neg h];cases hq:S.V.ew l i with
  | none=>rfl
  | some k =>
   have:=kC i l k hq;simp only [bu this]
theorem uj(eF:List S.V.gJ)(i:Int):∀ n (l:List S.V.gJ),l.length=n→(∀ x ∈ l,x.kS.size=512)→Bk eF l i=S.V.fx (S.V.gO eF l) i
 | 0,l,hl,_=>by
  have:l=[]:=List.length_eq_zero_iff.1 hl;subst this;rfl
 | n+1,l,hl,hs=>by
  have ey:l≠[]:=fun e=>by rw [e] at hl;cases hl
  have e:=iu ey;have h1:l.dropLast.length=n:=by rw [List.length_dropLast];omega
  have h2:(l.getLast ey).kS.size=512:=hs _ (List.getLast_mem ey);rw [← e,C3,S.V.ql,S.V.uE _ _ _ _ h2,uj eF i n l.dropLast h1 (fun x hx=>hs x (List.dropLast_subset l hx))]
theorem o9(d:S.V.bD)(hs:∀ x ∈ d.aS,x.kS.size=512)(s:Int)(n:Nat):S.V.iO d s n=(List.range n).flatMap fun i:Nat=>S.V.bl (S.V.fx (S.V.gO d.eF d.aS) (s+(i:Int))):=by
 have e:∀ i:Int,S.V.gh d i=S.V.fx (S.V.gO d.eF d.aS) i:=fun i=>uj d.eF i _ d.aS rfl hs
 unfold S.V.iO;simp only [e]
def qp(d:S.V.bD)(s:S.Sh):S.V.bD:={ d with aS:=d.aS++S.V.chunks (s.id*8) (S.hU s) 8,nw:=wrap64 (d.nw+8) }
theorem Dk{d:S.V.bD}{s:S.Sh}(hm:S.sS s)(hs:∀ x ∈ d.aS,x.kS.size=512):∀ x ∈ (qp d s).aS,x.kS.size=512:=fun x hx=>by
 rcases List.mem_append.1 hx with h | h
 ·exact hs x h
 ·obtain ⟨i,hi,rfl⟩:=List.mem_map.1 h;have GZ:=List.mem_range.1 hi;have hl:=S.lQ s hm;show (S.V.Gz (((S.hU s).drop (i*512)).take 512)).size=512
  rw [S.V.om,ag,ao];omega
theorem Ez{α β:Type}{l:List α}{f g:α→List β}(h:∀ a ∈ l,f a=g a):l.flatMap f=l.flatMap g:=by
 induction l with
 | nil=>rfl
 | cons a l ih=>rw [List.flatMap_cons,List.flatMap_cons,h a (by simp),ih fun b hb=>h b (by simp [hb])]
theorem NF{d:S.V.bD}{s:S.Sh}(hm:S.sS s)(hs:∀ x ∈ d.aS,x.kS.size=512)(i:Int):S.V.iO (qp d s) (i*8) 8=if i=s.id then S.hU s else S.V.iO d (i*8) 8:=by
 have hl:=S.lQ s hm;rw [o9 _ (Dk hm hs)];have e1:S.V.gO (qp d s).eF (qp d s).aS=S.V.gO (S.V.gO d.eF d.aS) (S.V.chunks (s.id*8) (S.hU s) 8):=by
  show List.foldl _ _ (_++_)=_
  rw [gr];rfl
 rw [e1];by_cases h:i=s.id
 ·rw [if_pos h,h];have e:(List.range 8).flatMap (fun j:Nat=>S.V.bl (S.V.fx (S.V.gO (S.V.gO d.eF d.aS) (S.V.chunks (s.id*8) (S.hU s) 8)) (s.id*8+(j:Int))))=(List.range 8).flatMap (fun j:Nat=>((S.hU s).drop (j*512)).take 512):=by
   apply Ez
   intro j hj;have hj8:j<8:=List.mem_range.1 hj;rw [S.V.uf _ _ _ hl 8 (by decide),if_pos ⟨by omega,by omega⟩,S.V.tU,show (s.id*8+(j:Int) - s.id*8).toNat=j by omega]
  rw [e,S.V.EC,ar (by rw [hl];decide)]
 ·rw [if_neg h,o9 d hs];apply Ez
  intro j hj;have hj8:j<8:=List.mem_range.1 hj;rw [S.V.uf _ _ _ hl 8 (by decide),if_neg (by omega)]
theorem Ak{d d':S.V.bD}{id:Int}(hz:d'.size=d.size)(hr:S.V.iO d' (id*8) 8=S.V.iO d (id*8) 8):cU d' id=cU d id:=by
 have e:(∃ p s,fB d' id s∧gE s p)=(∃ p s,fB d id s∧gE s p):=by
  apply propext
  constructor
  ·rintro ⟨p,s,⟨h1,h2,h3,h4,h5⟩,h6⟩;exact ⟨p,s,⟨h1,h2,h3,by rw [← hz];exact h4,by rw [h3] at h5 ⊢;rw [← hr];exact h5⟩,h6⟩
  ·rintro ⟨p,s,⟨h1,h2,h3,h4,h5⟩,h6⟩;exact ⟨p,s,⟨h1,h2,h3,by rw [hz];exact h4,by rw [h3] at h5 ⊢;rw [hr];exact h5⟩,h6⟩
 have e2:(fun p=>∃ s,fB d' id s∧gE s p)=(fun p=>∃ s,fB d id s∧gE s p):=by
  funext p
  apply propext
  constructor
  ·rintro ⟨s,⟨h1,h2,h3,h4,h5⟩,h6⟩;exact ⟨s,⟨h1,h2,h3,by rw [← hz];exact h4,by rw [h3] at h5 ⊢;rw [← hr];exact h5⟩,h6⟩
  ·rintro ⟨s,⟨h1,h2,h3,h4,h5⟩,h6⟩;exact ⟨s,⟨h1,h2,h3,by rw [hz];exact h4,by rw [h3] at h5 ⊢;rw [hr];exact h5⟩,h6⟩
 unfold cU;by_cases h:∃ p s,fB d id s∧gE s p
 ·rw [dif_pos (e▸h),dif_pos h];congr 1
  simp only [e2]
 ·rw [dif_neg (e▸h),dif_neg h]
theorem KS{s:S.Sh}{p q:PD}(h1:gE s p)(h2:gE s q):p=q:=by
 rcases h1 with ⟨a1,_,a3⟩ | ⟨a1,_,a3⟩ <;> rcases h2 with ⟨b1,_,b3⟩ | ⟨b1,_,b3⟩
 ·rw [a3,b3]
 ·rw [a1] at b1;cases b1
 ·rw [a1] at b1;cases b1
 ·rw [a3,b3]
theorem RR{d:S.V.bD}{s:S.Sh}{p:PD}(h:fB d s.id s)(hh:gE s p):cU d s.id=some p:=by
 have hx:∃ p s',fB d s.id s'∧gE s' p:=⟨p,s,h,hh⟩;unfold cU;rw [dif_pos hx];obtain ⟨s',h1,h2⟩:=Classical.choose_spec hx;congr 1
 have e:s'=s:=by
  have a1:=S.kG s' h1.1 h1.2.1;have a2:=S.kG s h.1 h.2.1;have b1:=h1.2.2.2.2;have b2:=h.2.2.2.2;rw [h1.2.2.1] at b1;rw [← a1,← a2,← b1,← b2]
 rw [e] at h2;exact KS h2 hh
end T
end Go.Proofs.YtihmgigfkmofnaaGreatDoor
namespace Go.Proofs.YtihmgigfkmofnaaGreatDoor.T
open Go.RowKit
theorem JK(d:S.V.bD)(s:S.Sh)(hm:S.sS s)(hd:d.dead=false)(ha:d.eQ=[])(eE:(s.id+1)*8≤d.size):d.write (s.id*8) (S.hU s)=(qp d s,0):=by
 obtain ⟨sz,eF,aS,eQ,dead,nr,nw,ns⟩:=d;simp only at hd ha eE;subst hd ha;have hl:=S.lQ s hm;have h2:=hm.2.2.1;have hf:S.V.bD.fits ⟨sz,eF,aS,[],false,nr,nw,ns⟩ (s.id*8) ((8:Nat):Int)=true:=by
  simp only [S.V.bD.fits,decide_eq_true_eq];omega
 simp only [S.V.bD.write,hl,qp];rw [if_neg (by simp),if_neg (by rw [show 4096 / 512=8 from rfl,hf];simp)]
 rfl
end Go.Proofs.YtihmgigfkmofnaaGreatDoor.T
namespace Go.Proofs.YtihmgigfkmofnaaGreatDoor.S
open Go.RowKit
theorem J7(base:Nat)(A:Nat→Addr)(db:Nat)(F:Nat→Prop)(d:V.bD)(s:Sh)(w:World)(hs:s.body.size≤140737488355328)(hx:s.s7<18446744073709551616)(hd:V.cM w db F d)(hE:Env base A w)(hF:∀ k,F k→base≤k)(hp:d.aS.length≤1000000)(AO:d.dead=false)(ha:d.eQ=[]):Calls prog 62 #[.pointer (some ⟨db,0,none⟩),.agg s.cells.toArray] w fun e w'=>(e = .returned .nilIface∧(sS s∧(s.id+1)*8≤d.size)∧∃ F',V.cM w' db F' (T.qp d s)∧V.Step F F' w w')∨(¬ (sS s∧(s.id+1)*8≤d.size)∧e = .returned (.iface 360 (.pointer (some (A 0))))∧Below w.heap.size w w'):=by
 have HE:=ab hE;have HD:=ab hd;have HFB:=ab hF;obtain ⟨k,i,t,c,b⟩:=s;have HX:Hid (Boxed w.heap.size [.int .i64 k,.int .i64 i,.int .u64 (t:Int),.int .i64 c,.string b] (w.alloc (.cells #[.int .i64 k,.int .i64 i,.int .u64 (t:Int),.int .i64 c,.string b] 87))):=bM w _ _;have HB:=ab (ai w (.cells #[.int .i64 k,.int .i64 i,.int .u64 (t:Int),.int .i64 c,.string b] 87));by_cases hm:sS ⟨k,i,t,c,b⟩
 ·have HS:Hid (∀ w,Lay w→E7 w→Calls prog 96 #[.agg #[.int .i64 k,.int .i64 i,.int .u64 (t:Int),.int .i64 c,.string b]] w fun e w'=>∃ g,e = .returned (.tuple #[.slice (some ⟨g,0,none⟩) 4096 4096,.nilIface])∧cG w' g (hU ⟨k,i,t,c,b⟩)∧w.heap.size≤g∧Below w.heap.size w w'):=fun w h1 h2=>RG ⟨k,i,t,c,b⟩ w hm hx h1 h2
  have Fe:Hid ((hU ⟨k,i,t,c,b⟩).length=4096):=lQ _ hm;have Cu:0≤i:=by have:=hm.2.2.1;simp only at this;omega
  have sj:i<1048576:=hm.2.2.1.2;have HM:=ab hm;have HWR:Hid ((i+1)*8≤d.size→d.write (i*8) (hU ⟨k,i,t,c,b⟩)=(T.qp d ⟨k,i,t,c,b⟩,0)):=fun h=>T.JK d ⟨k,i,t,c,b⟩ hm AO ha h
  have Wm:Hid (d.aS.length≤1000000∧d.eQ=[]):=⟨hp,ha⟩;clear hE hd hF hs hx hm hp AO ha;generalize AH:hU ⟨k,i,t,c,b⟩=pg at *;clear AH;show Calls prog 62 #[.pointer (some ⟨db,0,none⟩),.agg #[.int .i64 k,.int .i64 i,.int .u64 (t:Int),.int .i64 c,.string b]] w _
  go_enter func62,ntmps62;go_wp2_with fail;refine (HS.out _ (HE.out.up HB.out).lay (HE.out.up HB.out).tab).mono ?_
  rintro e w1 ⟨g,rfl,bV,hg,aN⟩;have zj:=ab (HX.out.below aN);have bN:=ab (Below.next HB.out aN);have mu:=ab bV;have HG:Hid (w.heap.size<g):=by have:=HX.out.1;show _<_;omega
  have c1:w1.cell? ⟨w.heap.size,1,none⟩=some (.int .i64 i):=zj.out.2 1 (by simp)
  clear bV hg aN HX HB;have Xt:=ab (HD.out.below bN.out);by_cases eE:(i+1)*8≤d.size
  ·go_wp2_with fail;refine (mL db F d i _ Xt.out Cu sj).mono ?_
   rintro e w1' ⟨rfl,rfl⟩;rw [decide_eq_true eE];go_wp2_with fail;refine (tL i _ Cu (by omega)).mono ?_
   rintro e w1' ⟨rfl,rfl⟩;have W:=V.JL base A db F d w1 Xt.out (HE.out.up bN.out).errs HFB.out (i*8) (.slice (some ⟨g,0,none⟩) 4096 4096) pg ⟨some ⟨g,0,none⟩,4096,g,by rw [Fe.out],by rw [Fe.out];decide,by rw [Fe.out];decide,fun _=>⟨rfl,fun hf=>by have:=HD.out.lt g hf;have:=HG.out;omega⟩,mu.out.cell⟩ (by rw [Fe.out];have:=Wm.out.1;omega) (by rw [Wm.out.2];exact V.xq base A db)
   rw [HWR.out eE] at W;have HW:Hid (Calls prog 98 #[.pointer (some ⟨db,0,none⟩),.int .i64 (i*8),.slice (some ⟨g,0,none⟩) 4096 4096] w1 fun e w'=>e = .returned .nilIface∧∃ F',V.cM w' db F' (T.qp d ⟨k,i,t,c,b⟩)∧V.Step F F' w1 w'):=W
   clear W;go_wp2_with fail;refine Calls.mono HW.out ?_
   rintro e w2 ⟨rfl,F',KX,j8⟩;have vw:Hid (∃ F',V.cM w2 db F' (T.qp d ⟨k,i,t,c,b⟩)∧V.Step F F' w w2):=⟨F',KX,(V.Step.bx bN.out).trans j8⟩;clear KX j8;go_wp2_with fail;go_ret;exact .inl ⟨rfl,⟨HM.out,eE⟩,vw.out⟩
  ·have cE:w1.cell? ⟨0,0,none⟩=some (.iface 360 (.pointer (some (A 0)))):=(HE.out.up bN.out).errs.arg;have HDF:Hid (decide ((i+1)*8≤d.size)=false):=decide_eq_false eE;have Tw:Hid (¬ (sS ⟨k,i,t,c,b⟩∧(i+1)*8≤d.size)):=fun h=>eE h.2
   clear eE;go_wp2_with fail;refine (mL db F d i _ Xt.out Cu sj).mono ?_
   rintro e w1' ⟨rfl,rfl⟩;rw [HDF.out];go_wp2_with fail;go_ret;exact .inr ⟨Tw.out,rfl,bN.out⟩
 ·have HS:Hid (∀ w,w.cell? ⟨0,0,none⟩=some (.iface 360 (.pointer (some (A 0))))→Calls prog 96 #[.agg #[.int .i64 k,.int .i64 i,.int .u64 (t:Int),.int .i64 c,.string b]] w fun e w'=>e = .returned (.tuple #[.slice none 0 0,.iface 360 (.pointer (some (A 0)))])∧Below w.heap.size w w'):=fun w hc=>RH (A 0) ⟨k,i,t,c,b⟩ w hs hm hc
  have Tw:Hid (¬ (sS ⟨k,i,t,c,b⟩∧(i+1)*8≤d.size)):=fun h=>hm h.1
  clear hE hd hF hs hx hm hp AO ha;show Calls prog 62 #[.pointer (some ⟨db,0,none⟩),.agg #[.int .i64 k,.int .i64 i,.int .u64 (t:Int),.int .i64 c,.string b]] w _
  go_enter func62,ntmps62;go_wp2_with fail;refine (HS.out _ (HE.out.up HB.out).errs.arg).mono ?_
  rintro e w1 ⟨rfl,aN⟩;have bN:=ab (Below.next HB.out aN);clear aN;go_wp2_with fail;go_ret;exact .inr ⟨Tw.out,rfl,bN.out⟩
end Go.Proofs.YtihmgigfkmofnaaGreatDoor.S
