import Derived.Test.YtihmgigfkmofnaaGreatDoorG31
set_option maxHeartbeats 4000000
set_option maxRecDepth 100000
open Go.Proofs.Tryz
namespace Go.Proofs.YtihmgigfkmofnaaGreatDoor
namespace T
open Go.RowKit
section
variable {PG:Int→Option PD} {w0:World} {lo pb:Nat} {pv:Value} {P:List Nat} {tx:Nat} {h:Nat} {w:World} {sv:Value} {Z Z1:List S.Sh}
theorem p7.setRow{H:Nat}{cs:Array Value}{sx:Value}{wx:World}(hp:p7 w0 lo pb pv P tx wx sx Z1)(ht:mI pb w sv wx sx)(zp:w.heap.size≤H)(hw0:w0.heap.size≤w.heap.size)(Gd:H≠pb)(fl:sx.ownBlock≠some H):p7 w0 lo pb pv P tx (wx.setRow H cs) sx Z1∧mI pb w sv (wx.setRow H cs) sx:=by
 have dG:=Du wx H cs;have h3:=hp;refine ⟨⟨⟨dG.os.trans h3.eT.os,dG.tape.trans h3.eT.tape,dG.output.trans h3.eT.output,ar h3.eT.size dG.size,fun k hk=>(dG.block k (aq hk h3.eT.size) (by omega)).trans (h3.eT.block k hk)⟩,(dG.block pb h3.row.lt (fun e=>Gd e.symm)).trans h3.row,h3.sh.same fun g' z6=>dG.block g' (h3.sh.dx z6).2 (fun e=>fl (e▸z6)),h3.ord,ar h3.lo dG.size,h3.pg,h3.pl⟩,?_⟩
 exact ⟨ar ht.size dG.size,fun k hk h1 h2=>(dG.block k (aq hk ht.size) (by omega)).trans (ht.block k hk h1 h2),ht.own⟩
theorem BS(A:Nat→Addr){b:Nat}{n:SN}{xv lv cv:Value}{f:Int}{lk:List B.Lk}(tY:dP w0 b n xv lv cv)(hu:¬ n.us.length=0)(hE:B.p9 A w0)(hP:p7 w0 lo pb pv P tx w sv Z)(hbo:∀ W,Below w.heap.size w W→Calls prog 184 #[.pointer (some ⟨pb,0,none⟩),.pointer (some ⟨b,0,none⟩)] W fun e w'=>∃ ou TM,e = .returned (.agg #[.int .i64 f,TM])∧B.dm w' TM lk∧p7 w0 lo pb pv P tx w' ou Z1∧mI pb W sv w' ou)(kV:B.lz f lk true=none)(lP:lk.length≤4000):Calls prog 149 #[.pointer (some ⟨pb,0,none⟩),.pointer (some ⟨b,0,none⟩)] w fun e w'=>∃ YT,e = .returned (.agg #[.int .i64 66,.int .i64 0,.int .u64 0,.int .i64 ((lk.length:Int)+1),.string (B.pZ f lk)])∧p7 w0 lo pb pv P tx w' YT Z1∧mI pb w sv w' YT:=by
 obtain ⟨W1,ig⟩ : ∃ W1,w.alloc (.cells #[.int .i64 0,.int .i64 0,.int .u64 0,.int .i64 0,.string ⟨#[]⟩] 87)=W1:=⟨_,rfl⟩;have aO:Below w.heap.size w W1:=ig▸ai w _;have r1:B.au W1 w.heap.size #[.int .i64 0,.int .i64 0,.int .u64 0,.int .i64 0,.string ⟨#[]⟩] 87:=ig▸B.au.new w _ _;obtain ⟨H,hH⟩ : ∃ H,w.heap.size=H:=⟨_,rfl⟩;rw [hH] at r1;have ja:=(tY.below hP.eT).below aO;have ti:=ab (cG b n xv lv cv W1 ja);rw [show decide (n.us.length=0)=false by simp [hu]] at ti
 have ZI:=ab (hbo W1 aO);have nT:=ab r1;have bT:=ab aO;have HP:=ab hP;have nM:=ab kV;have zv:=ab lP;have HE:=ab hE;have HHP:Hid (w.heap.size=H∧H≠pb∧sv.ownBlock≠some H∧H<W1.heap.size):=⟨hH,by have:=hP.row.lt;omega,fun e=>by have:=(hP.sh.dx e).2;omega,r1.lt⟩
 have HMK:Hid (B.Wj lk):=fun p hp=>by
  have:=(B.iX kV).2.2.1 p hp;have:=B.jN this;omega
 clear tY ja hE kV aO r1 hu hP hbo lP;go_enter func149,ntmps149;go_wp2_with fail;refine ti.out.mono ?_
 rintro e w1' ⟨rfl,rfl⟩;go_wp2_with fail;refine ZI.out.mono ?_
 rintro e w2 ⟨s2,l2,rfl,Uo,NO,tX⟩;obtain ⟨la,lc,pW⟩:=Uo.form;subst pW;obtain ⟨W3,NZ⟩ : ∃ W3,w2.alloc (.cells #[.int .i64 f,.slice la lk.length lc] 150)=W3:=⟨_,rfl⟩;have bW:Below w2.heap.size w2 W3:=NZ▸ai w2 _;obtain ⟨K,hK⟩ : ∃ K,w2.heap.size=K:=⟨_,rfl⟩;have rK:B.au W3 K #[.int .i64 f,.slice la lk.length lc] 150:=by rw [← hK];exact NZ▸B.au.new w2 _ _
 have wH:=NO.below bW;have SL:=HHP.out;have r2:B.au w2 H #[.int .i64 0,.int .i64 0,.int .u64 0,.int .i64 0,.string ⟨#[]⟩] 87:=(tX.block H SL.2.2.2 SL.2.1 SL.2.2.1).trans nT.out;have aa0:s2.ownBlock≠some H:=fun e=>by
  rcases tX.own H e with e' | e'
  ·exact SL.2.2.1 e'
  ·have:=SL.2.2.2;omega
 have Wz:=ab (B.RM A f _ lk W3 HMK.out (by have:=zv.out;omega) (Uo.below bW) (HE.out.below wH.eT))
 have k0:=rK.c0;have k1:=rK.c1;have SS:=ab (r2.below bW);have HRK:=ab rK;have HP3:=ab wH;have HT3:=ab ((mI.below sv bT.out).trans (tX.trans (mI.below s2 bW)));have kK:=ab aa0;clear Uo NO tX bW rK wH r2 SL aa0 ZI ti;go_wp2_with fail;refine Wz.out.mono ?_
 rintro e w4 ⟨he,fS⟩;rcases he with ⟨_,rfl⟩ | ⟨k,hk,_⟩
 ·have r4:=SS.out.below fS;have k1':=(HRK.out.below fS).c1;have eZ:=Dq w4 H _ (.int .i64 66) (.int .i64 0) (.int .u64 0) (.int .i64 ((lk.length:Int)+1)) (.string (B.pZ f lk)) r4 rfl ⟨rfl,rfl,rfl,rfl,rfl⟩;have gy:=ab eZ;have Zw:=ab r4;have HP4:=ab (HP3.out.below fS);have HT4:=ab (HT3.out.trans (mI.below s2 fS));have akR:(1:Int)+(lk.length:Int)=(lk.length:Int)+1:=by omega
  have VW:(lk.length:Int)≤4000:=by have:=zv.out;omega
  have SD:(0:Int)≤(lk.length:Int):=by omega
  clear fS Wz eZ r4;go_wp2_with fail;refine (AG pb w4).mono ?_
  rintro e w4' ⟨rfl,rfl⟩;go_wp2_with (refine eV rfl 87 _ _ rfl _ _ rfl rfl gy.out ?_)
  have hU:=p7.setRow (cs:=#[.int .i64 66,.int .i64 0,.int .u64 0,.int .i64 ((lk.length:Int)+1),.string (B.pZ f lk)]) HP4.out HT4.out (by have:=HHP.out.1;omega) HP.out.eT.size HHP.out.2.1 kK.out
  refine bodyPost_ret (results_cell_row rfl _ _ H 87 _ (0,0) _ rfl (OY w4 H _ _ Zw.out) underlying87 rfl info87) rfl ?_
  exact ⟨s2,rfl,hU.1,hU.2⟩
 ·rw [nM.out] at hk;cases hk
theorem DX{k:Nat}(hk:k<P.length):P[k]?=some (fi P k):=by
 unfold fi;rw [aF,af hk];rfl
theorem P4(id:Int)(w:World):Calls prog 72 #[.pointer (some ⟨pb,0,none⟩),.iface 146 (.int .i64 id)] w fun e w'=>e = .returned (.int .i64 id)∧w=w':=by
 have a1:=fun W=>RS (.int .i64 id) W
 go_enter func72,ntmps72;go_wp2;go_ret;exact ⟨rfl,rfl⟩
theorem P5{b:Nat}{Q:Ending→World→Prop}(hl:Calls prog 112 #[.pointer (some ⟨pb,0,none⟩),.pointer (some ⟨b,0,none⟩)] w fun e w'=>(∃ id:Int,e = .returned (.int .i64 id))∧Q e w'):Calls prog 72 #[.pointer (some ⟨pb,0,none⟩),.iface 152 (.pointer (some ⟨b,0,none⟩))] w Q:=by
 have HL:=ab hl;have a1:=fun W=>Km (.pointer (some ⟨b,0,none⟩)) W
 have a2:=fun W=>RT (.pointer (some ⟨b,0,none⟩)) W
 clear hl;go_enter func72,ntmps72;go_wp2_with fail;refine HL.out.mono ?_
 rintro e w1 ⟨⟨id,rfl⟩,hq⟩;have HQ:=ab hq;clear hq HL;go_wp2;exact HQ.out
theorem sg(A:Nat→Addr)(hE:B.p9 A w0)(N0:∀ j,2≤fi P j∧fi P j<1048576):∀ h,Vc PG w0 lo pb pv P tx h
 | 0=>fun p t w sv Z hk ho hP vi jb=>by
  cases p with
  | pg id =>
   have hk:fu PG 0 id t:=hk;have h0:¬ t.1=0:=by have:=hk.1;have:=hk.2.1;omega
   have e1:(aY (fi P) 0 t Z.length)=(t,[]):=if_neg h0;have e2:(fh 0 t:Int)=id:=hk.2.1;rw [e1];refine (P4 id w).mono ?_
   rintro e w' ⟨rfl,rfl⟩;exact ⟨sv,by rw [e2],by simpa using hP,mI.refl _ _ _⟩
  | nd b =>
   obtain ⟨h0,n,xv,lv,cv,tY,hn⟩:=hk;have h0:t.1=0:=h0;have Bf:jh 0 t=1:=if_pos h0;have e1:(aY (fi P) 0 t Z.length)=((fi P Z.length,t.2),[(fi P Z.length,.leaf t.2)]):=if_pos h0;have kt:n.ps=t.2:=hn.2;have kV:wL n.ps true=none:=by rw [kt];exact D5 ho
   rw [e1];refine P5 ((u9 (Z1:=Z) b 76 (n.ps.length:Int) (uy n.ps) hP ((GI A pb b n xv lv cv w (tY.below hP.eT) hn.1 (hE.c.below hP.eT) kV).mono ?_) (fi P Z.length) (DX (by omega))).mono ?_)
   ·rintro e w' ⟨rfl,hb⟩;exact ⟨sv,rfl,hP.below hb,mI.below sv hb⟩
   ·rintro e w' ⟨ou,rfl,h1,h2⟩;rw [kt] at h1;exact ⟨⟨_,rfl⟩,ou,rfl,h1,h2⟩
 | h+1=>fun p t w sv Z hk ho hP vi jb=>by
  cases p with
  | pg id =>
   have hk:fu PG (h+1) id t:=hk;have h0:¬ t.1=0:=by have:=hk.1;have:=hk.2.1;omega
   have e1:(aY (fi P) (h+1) t Z.length)=(t,[]):=if_neg h0;have e2:(fh (h+1) t:Int)=id:=hk.2.1;rw [e1];refine (P4 id w).mono ?_
   rintro e w' ⟨rfl,rfl⟩;exact ⟨sv,by rw [e2],by simpa using hP,mI.refl _ _ _⟩
  | nd b =>
   obtain ⟨h0,n,xv,lv,cv,tY,hn⟩:=hk;have h0:t.1=0:=h0;have Bf:jh (h+1) t=(t.2.2.map (jh h)).sum+1:=if_pos h0;obtain ⟨R,hR⟩ : ∃ R,R=cd (aY (fi P) h) t.2.2 Z.length:=⟨_,rfl⟩;have e1:(aY (fi P) (h+1) t Z.length)=((fi P (Z.length+R.2.length),t.2.1,R.1),R.2++[(fi P (Z.length+R.2.length),.br (lZ R.1) (qJ t.2.1 R.1))]):=by rw [hR];exact if_pos h0
   have hRl:R.2.length=(t.2.2.map (jh h)).sum:=by rw [hR];exact sk (pI h) t.2.2 Z.length
   rw [e1] at jb ⊢;have aa3:(R.1.flatMap (cD h)).Nodup:=by
    have h9:(cU (fi P (Z.length+R.2.length))++R.1.flatMap (cD h)).Nodup:=jb;exact h9.sublist (dF _ _)
   obtain ⟨⟨pT,mc,cM⟩,b8,ja⟩:=ho;have NQ:=(eS h t pT mc).1 cM;have Uj:gi (kG h) pT mc t.2.1 R.1:=by
    rw [hR];exact wE (fun t k lo hi hf=>⟨qK h t k lo hi hf.1,by unfold Full;rw [Ca];exact hf.2⟩) t.2.2 t.2.1 Z.length pT mc NQ
   have NM:n.us.length=t.2.2.length:=hn.1;have jg:t.2.1=n.lk.map (·.1):=hn.2.2.2.1;have aeB:∀ c ∈ R.1,2≤fh h c∧fh h c<1048576:=fun c' vj=>by
    obtain ⟨i,hi,hv⟩:=aK vj;have Bb:i<t.2.2.length:=by rw [hR,iw] at hi;exact hi
    have Mm:t.2.2[i]?=some t.2.2[i]:=af Bb;obtain ⟨ki,g1,_⟩:=sj (aY (fi P) h) t.2.2 Z.length i _ Mm;rw [← hR,af hi,hv] at g1;cases g1;obtain ⟨q,hq⟩ : ∃ q,n.us[i]?=some q:=⟨_,af (by omega)⟩
    exact AU N0 (hn.qi hq Mm) ki
   have kV:B.lz (lZ R.1) (qJ t.2.1 R.1) true=none:=RK Uj b8 ja aeB aa3;have hlen:(qJ t.2.1 R.1).length=n.lk.length:=by rw [wC _ _ (iD Uj),jg,az]
   have hu0:¬ n.us.length=0:=fun e=>hn.2.1 (List.length_eq_zero_iff.1 e)
   refine P5 ((u9 (Z1:=Z++R.2.map (j8 tx)) b 66 (((qJ t.2.1 R.1).length:Int)+1) (B.pZ (lZ R.1) (qJ t.2.1 R.1)) hP (BS A tY hu0 hE hP (fun W hW=>?_) kV (by rw [hlen];exact tY.fine.2.2.2.1)) (fi P (Z.length+R.2.length)) (by rw [ae,az];exact DX (by omega))).mono ?_)
   ·have:=nA (sg A hE N0 h) tY hn ⟨⟨pT,mc,cM⟩,b8,ja⟩ (hP.below hW) (by rw [← hR];exact aa3) (by omega)
    rw [← hR] at this;exact this
   ·rintro e w' ⟨ou,rfl,h1,h2⟩;refine ⟨⟨_,rfl⟩,ou,rfl,?_,h2⟩;rw [bz,← ay];exact h1
end
theorem TI{w:World}{fb fg PP:Nat}{T:Nat→Bool}(h:Q.eU w fb fg PP T):Va w fg:=by
 rcases h.St.2 with ⟨h',_⟩ | ⟨g,cap,cur,h',hb,hg,hn,hm,hs,ht⟩
 ·simp at h'
 ·simp only [Value.slice.injEq,Option.some.injEq,Addr.mk.injEq] at h';obtain ⟨⟨rfl,_⟩,_,rfl⟩:=h';have dn:cur.toList=Q.kD T (Q.nW PP):=by
   rw [← ht,ao (by simp [hs])]
  refine ⟨fun j u hc=>?_,fun cs fr e=>?_,fun cs fr e=>?_⟩
  ·rw [cell_of_row w _ j cur _ _ hg] at hc;obtain ⟨h3,h4⟩:=Array.getElem?_eq_some_iff.1 hc;have hu:u ∈ cur.toList:=by rw [← h4];exact gH h3
   rw [dn] at hu;obtain ⟨i,_,rfl⟩:=List.mem_map.1 hu;exact ⟨(fun s e=>by cases e),(fun t x e=>by cases e)⟩
  ·rw [hg] at e;simp at e
  ·rw [hg] at e;simp at e
theorem Nk{w w':World}{fg:Nat}(ho:Q.gv (fun k=>k=fg) w w')(hd:Va w fg):df w w':=⟨ho.size,fun k hk=>by
 by_cases e:k=fg
 ·exact .inr (e▸hd)
 ·exact .inl (ho.block k hk e)⟩
section
variable {base:Nat} {A:Nat→Addr} {db:Nat} {F:Nat→Prop} {d:S.V.bE} {W0:World} {r:cT}
theorem Dv.only{w w':World}{fg:Nat}(hv:Dv base A db F d w)(ho:Q.gv (fun k=>k=fg) w w')(hb:base≤fg)(hf:¬ F fg):Dv base A db F d w':=by
 obtain ⟨d1,n1,zq⟩:=hv.dev;have eZ:S.V.Step (fun k=>k=fg) (fun k=>k=fg) w w':=⟨ho.os,ho.tape,ho.output,ho.size,ho.block,fun _ h=>.inl h⟩
 have jB:Below base w w':=⟨ho.os,ho.tape,ho.output,ho.size,fun k hk=>ho.block k (aq hk hv.env.errs.size) (by omega)⟩
 refine ⟨⟨d1,n1,zq.keep eZ (fun k hk e=>hf (e▸hk))⟩,hv.env.keep jB,⟨fun i hi=>?_,hv.errs.2⟩,hv.up,hv.alive,hv.lo⟩
 obtain ⟨h1,c,t,h2⟩:=hv.errs.1 i hi;have hl:=hv.lo i hi;exact ⟨(jB.cell (p:=⟨fe i,0,none⟩) hl.1).trans h1,c,t,(jB.block _ hl.2).trans h2⟩
end
theorem Bh(f:Nat→Bool):∀ n,(Q.gB f n).Nodup
 | 0=>List.nodup_nil
 | n+1=>by
  show (Q.gB f n++(if f n then [] else [n])).Nodup
  rw [List.nodup_append];refine ⟨Bh f n,?_,fun a ha b hb=>?_⟩
  ·split <;> simp
  ·have:=((Q.Cr f).1 ha).1;split at hb
   ·simp at hb
   ·simp at hb;omega
theorem xZ(T:Nat→Bool)(PP n:Nat):(Q.fk T PP n).Nodup:=(Bh T PP).sublist (List.take_sublist _ _)
theorem ni{T:Nat→Bool}{PP n:Nat}(hk:Q.qo PP T)(j:Nat):2≤fi (Q.fk T PP n) j∧fi (Q.fk T PP n) j<1048576:=by
 unfold fi;rw [aF];cases h:(Q.fk T PP n)[j]? with
 | none=>simp
 | some x =>
  have hm:=cL h;have:=Q.se hm;have h0:=hk.t0;have h1:=hk.t1;have h2:=hk.hi;simp only [l7];refine ⟨?_,by omega⟩
  rcases a6 x 2 with hx | hx
  ·have:x=0∨x=1:=by omega
   rcases this with rfl | rfl
   ·rw [h0] at this;cases this.2
   ·rw [h1] at this;cases this.2
  ·exact hx
def jz(P:Nat→Nat):cT→cT × List (Nat × PD)
 | none=>(none,[])
 | some x=>(some ⟨x.1,(aY P x.1 x.2 0).1⟩,(aY P x.1 x.2 0).2)
def gm:cT→Nat
 | none=>0
 | some x=>fh x.1 x.2
def j9:cT→Value
 | none=>.nilIface
 | some x=>(C.Ch.pg (fh x.1 x.2:Int)).val
theorem EF(L:List Nat):pV (fi L) 0 L.length=L:=by
 unfold pV fi;refine l9 (by simp) fun i h1 h2=>?_
 simp [List.getElem?_eq_getElem h2]
theorem wD{P:Nat→Nat}{r:cT}(h:eD r):eD (jz P r).1∧aD (jz P r).1=aD r:=by
 cases r with
 | none=>exact ⟨h,rfl⟩
 | some x =>
  obtain ⟨hh,t⟩:=x;exact ⟨⟨qK hh t 0 none none h.1,by show mQ hh (aY P hh t 0).1≤4072;rw [Ca];exact h.2.1,P2 hh t 0 h.2.2⟩,Ew hh t 0⟩
theorem AV{L:List Nat}{r:cT}(hl:L.length=eA r)(h0:∀ j,fi L j≠0):(eh (jz (fi L) r).1).Perm (eh r++L):=by
 cases r with
 | none =>
  have:L=[]:=List.length_eq_zero_iff.1 hl;subst this;exact List.Perm.refl _
 | some x =>
  obtain ⟨hh,t⟩:=x;have Up:jh hh t=L.length:=hl.symm;have:=Et h0 hh t 0;rw [Cb,pI,Up,EF] at this;exact this
theorem qL{T:Nat→Bool}{PP:Nat}{r:cT}(hk:Q.qo PP T)(hn:eA r≤(Q.gB T PP).length)(jb:(eh r).Nodup)(yt:∀ i ∈ eh r,T i=true):(eh (jz (fi (Q.fk T PP (eA r))) r).1).Nodup∧(Q.fk T PP (eA r)).length=eA r:=by
 have hl:(Q.fk T PP (eA r)).length=eA r:=by rw [Q.yb];omega
 refine ⟨?_,hl⟩;rw [(AV hl (fun j=>by have:=ni (n:=eA r) hk j;omega)).nodup_iff,List.nodup_append]
 refine ⟨jb,xZ _ _ _,fun a ha b hb e=>?_⟩
 have h1:=yt a ha;have h2:=(Q.se hb).2;rw [e,h2] at h1;cases h1
structure Mp(base:Nat)(F:Nat→Prop)(tb:Nat)(w:World)(fb fg PP:Nat)(T:Nat→Bool):Prop where
 map:Q.eU w fb fg PP T
 ok:Q.qo PP T
 lo:base≤fg∧base≤fb
 nf:¬ F fg∧¬ F fb
 nt:fg≠tb∧fb≠tb
theorem TV(pb:Nat)(w:World):Calls prog 72 #[.pointer (some ⟨pb,0,none⟩),.nilIface] w fun e w'=>e = .returned (.int .i64 0)∧w=w':=by
 have a1:∀ W,(Instr.typeAssert .nilIface 97 146 true).run prog W = .ok (.tuple #[.int .i64 0,.bool false]) W:=fun W=>by kernel_rfl
 have a2:∀ W,(Instr.typeAssert .nilIface 97 152 true).run prog W = .ok (.tuple #[.pointer none,.bool false]) W:=fun W=>by kernel_rfl
 go_enter func72,ntmps72;go_wp2;go_ret;exact ⟨rfl,rfl⟩
theorem GP(r:cT)(h:gm r=0→r=none)(w:World):Calls prog 43 #[.int .i64 (gm r:Int)] w fun e w'=>e = .returned (j9 r)∧w=w':=by
 cases r with
 | none=>exact oA w
 | some x =>
  have h0:¬ (gm (some x):Int)=0:=fun e=>by
   have:=h (by omega)
   cases this
  exact oB (gm (some x):Int) w h0
section
variable {base:Nat} {A:Nat→Addr} {db:Nat} {F:Nat→Prop} {d:S.V.bE} {W0:World} {r:cT}
theorem P3{w0 w:World}{lo pb:Nat}{pv:Value}{P:List Nat}{tx:Nat}{sv rv:Value}(hE:B.p9 A w0)(N0:∀ j,2≤fi P j∧fi P j<1048576)(hr:ft (cF d) w0 rv r)(cM:eD r)(hP:p7 w0 lo pb pv P tx w sv [])(vi:eA r≤P.length)(jb:(eh (jz (fi P) r).1).Nodup):Calls prog 72 #[.pointer (some ⟨pb,0,none⟩),rv] w fun e w'=>∃ ou,e = .returned (.int .i64 (gm (jz (fi P) r).1:Int))∧p7 w0 lo pb pv P tx w' ou ((jz (fi P) r).2.map (j8 tx))∧mI pb w sv w' ou:=by
 rcases hr with ⟨rfl,rfl⟩ | ⟨p,h,t,rfl,rfl,hk⟩
 ·refine (TV pb w).mono ?_
  rintro e w' ⟨rfl,rfl⟩;exact ⟨sv,rfl,hP,mI.refl _ _ _⟩
 ·refine (sg A hE N0 h p t w sv [] hk (D4 cM) hP (by have h9:jh h t≤P.length:=vi;simpa using h9) jb).mono ?_
  rintro e w' ⟨ou,rfl,h1,h2⟩;exact ⟨ou,rfl,h1,h2⟩
theorem LU{P:Nat→Nat}(hP:∀ j,2≤P j∧P j<1048576):gm (jz P r).1=0→(jz P r).1=none:=fun h=>by
 cases r with
 | none=>rfl
 | some x=>exact absurd h (Eu (fun j=>by have:=hP j;omega) x.1 x.2 0)
theorem info127:(prog.info? 127).map (·.size)=some 4:=by kernel_rfl
theorem ON(w:World)(H:Nat)(F8:Array Value)(a b c d:Value)(hr:B.au w H F8 127)(ho:F8.size=4)(h1:a.oneCell'=true∧b.oneCell'=true∧c.oneCell'=true∧d.oneCell'=true):(Instr.storeAt 127 (.pointer (some ⟨H,0,none⟩)) (.agg #[a,b,c,d])).run prog w = .ok () (w.setRow H #[a,b,c,d]):=by
 have:=run_storeVar_row (P:=prog) w H 127 127 F8 #[a,b,c,d] hr info127 (by rw [ho];rfl) (by simp [h1.1,h1.2.1,h1.2.2.1,h1.2.2.2])
 simp only [Instr.storeAt,Instr.sureAddr,Sem.run_bind,Sem.run_pure,Result.andThen_ok,this]
theorem jO{w w':World}{fb fg PP:Nat}{T:Nat→Bool}(h:Q.eU w fb fg PP T)(h1:w'.heap[fb]?=w.heap[fb]?)(h2:w'.heap[fg]?=w.heap[fg]?):Q.eU w' fb fg PP T:=by
 refine ⟨h1.trans h.dx,⟨h.St.1,?_⟩,h.hi⟩;rcases h.St.2 with ⟨h',_⟩ | ⟨g,cap,cur,h',hb,hg,hr⟩
 ·simp at h'
 ·have e:fg=g:=by simp only [Value.slice.injEq,Option.some.injEq,Addr.mk.injEq] at h';exact h'.1.1
  subst e;exact .inr ⟨fg,cap,cur,h',hb,h2.trans hg,hr⟩
theorem sX.lower{w:World}{lo pT:Nat}{v:Value}{l:List S.Sh}(h:sX w lo v l)(hl:pT≤lo):sX w pT v l:=by
 refine ⟨h.1,?_⟩;rcases h.2 with h' | ⟨g,cap,cur,h',h1,h2⟩
 ·exact .inl h'
 ·exact .inr ⟨g,cap,cur,h',ar hl h1,h2⟩
theorem GV{w:World}{tb fb fg PP tx:Nat}{T:Nat→Bool}(hc:Ts base A db F d W0 w tb r)(hQ:Q.Env base A w)(hM:Mp base F tb w fb fg PP T)(hn:eA r≤(Q.gB T PP).length)(Ut:eA r≤1000000)(jb:(eh r).Nodup)(yt:∀ i ∈ eh r,T i=true):Calls prog 35 #[.pointer (some ⟨tb,0,none⟩),.pointer (some ⟨fb,0,none⟩),.int .u64 (tx:Int)] w fun e w'=>∃ sv,e = .returned (.tuple #[sv,.int .i64 (gm (jz (fi (Q.fk T PP (eA r))) r).1:Int),.nilIface])∧sX w' w.heap.size sv ((jz (fi (Q.fk T PP (eA r))) r).2.map (j8 tx))∧Mp base F tb w' fb fg PP (Q.kL T (Q.fk T PP (eA r)))∧B.au w' tb #[.pointer (some ⟨db,0,none⟩),j9 (jz (fi (Q.fk T PP (eA r))) r).1] 100∧Dv base A db F d w'∧S.V.Step (fun k=>k=fg∨k=tb) (fun k=>k=fg∨k=tb) w w':=by
 obtain ⟨vS,Mq⟩:=qL hM.ok hn jb yt;obtain ⟨L,hL⟩ : ∃ L,L=Q.fk T PP (eA r):=⟨_,rfl⟩;have N0:∀ j,2≤fi L j∧fi L j<1048576:=fun j=>by rw [hL];exact ni hM.ok j
 have htd:Q.ld PP T (eA r:Int)=(none,L,Q.kL T L):=by
  unfold Q.ld;rw [if_neg (by omega),if_neg (by rw [bt];omega),bt,← hL]
 rw [← hL] at vS Mq ⊢;have YN:=ab (jZ hc (by omega))
 have Yi:=ab (Q.OF base A fb fg PP T (eA r:Int) w hM.map hM.ok hQ);rw [htd] at Yi;have HC:=ab hc;have HM:=ab hM;have Wr:=ab vS;have kR:=ab Mq;have FY:=ab N0;have WD:=ab Ut;have MOK:Hid (Q.qo PP (Q.kL T L)):=by
  have hk:=hM.ok;refine ⟨hk.lo,hk.hi,by simp [Q.kL,hk.t0],by simp [Q.kL,hk.t1],fun j hj=>by simp [Q.kL,hk.up j hj]⟩
 obtain ⟨N,hN⟩ : ∃ N,N=eA r:=⟨_,rfl⟩;rw [← hN] at YN Yi;clear hc hQ hM hn Ut jb yt vS Mq hL N0 htd hN;go_enter func35,ntmps35;go_wp2_with fail;refine YN.out.mono ?_
 rintro e w1' ⟨rfl,rfl⟩;go_wp2_with fail;refine Yi.out.mono ?_
 rintro e w1 ⟨v,rfl,aE,hmap,EP⟩;rw [show im A none = .nilIface from rfl]
 have U3:df w w1:=Nk EP (TI HM.out.map);have fD:Dv base A db F d w1:=HC.out.dv.only EP HM.out.lo.1 HM.out.nf.1;obtain ⟨rv,ht,hr⟩:=HC.out.tr;have EH:=dX U3 ht;have fX:=hr.cN U3;have vR:=fV aE;obtain ⟨pa,pc,lM⟩ : ∃ a c,v = .slice a L.length c:=by
  rcases aE.2 with ⟨h',h0⟩ | ⟨g,cap,cur,h',_⟩
  ·exact ⟨none,0,by rw [h',h0]⟩
  ·exact ⟨_,_,h'⟩
 subst lM;obtain ⟨K,hK⟩ : ∃ K,w1.heap.size=K:=⟨_,rfl⟩;have rZ:B.au (w1.alloc (.cells #[.slice none 0 0,.int .u64 0,.slice none 0 0,.nilIface] 127)) K #[.slice none 0 0,.int .u64 0,.slice none 0 0,.nilIface] 127:=by rw [← hK];exact B.au.new w1 _ _
 have eZ:=ON (w1.alloc (.cells #[.slice none 0 0,.int .u64 0,.slice none 0 0,.nilIface] 127)) K _ (.slice pa L.length pc) (.int .u64 (tx:Int)) (.slice none 0 0) .nilIface rZ rfl ⟨rfl,rfl,rfl,rfl⟩;obtain ⟨W2,Ip⟩ : ∃ W2,(w1.alloc (.cells #[.slice none 0 0,.int .u64 0,.slice none 0 0,.nilIface] 127)).setRow K #[.slice pa L.length pc,.int .u64 (tx:Int),.slice none 0 0,.nilIface]=W2:=⟨_,rfl⟩;rw [Ip] at eZ;have H6:=Du (w1.alloc (.cells #[.slice none 0 0,.int .u64 0,.slice none 0 0,.nilIface] 127)) K #[.slice pa L.length pc,.int .u64 (tx:Int),.slice none 0 0,.nilIface];rw [Ip] at H6;have XU:=ai w1 (.cells #[.slice none 0 0,.int .u64 0,.slice none 0 0,.nilIface] 127);have aV:Below w1.heap.size w1 W2:=⟨H6.os.trans XU.os,H6.tape.trans XU.tape,H6.output.trans XU.output,ar XU.size H6.size,fun k hk=>(H6.block k (aq hk XU.size) (by omega)).trans (XU.block k hk)⟩
 have rK:B.au W2 K #[.slice pa L.length pc,.int .u64 (tx:Int),.slice none 0 0,.nilIface] 127:=by rw [← Ip];exact setRow_heap _ K _ _ _ _ rZ
 have gy:=ab eZ;have hP:p7 w1 (K+1) K (.slice pa L.length pc) L tx W2 (.slice none 0 0) []:=⟨aV,rK,sX.nil _ _,⟨by omega,by omega⟩,by have:=rK.lt;omega,vR,by have:=kR.out;have:=WD.out;omega⟩
 have Sl:=ab (P3 fD.UG FY.out fX HC.out.ok hP (by have:=kR.out;omega) Wr.out)
 have c1:W2.cell? ⟨tb,1,none⟩=some rv:=(EH.below aV).c1;have IU:=ab EH;have uK:=ab fD;have HMP:=ab hmap;have Ys:=ab EP;have HKW:Hid (w.heap.size≤K∧w1.heap.size=K):=⟨by have:=EP.size;omega,hK⟩
 have abw:=fX.form;clear eZ H6 XU rZ Ip U3 fD ht hr EH fX vR aE hmap EP aV rK hP Yi YN;rcases abw with rfl | ⟨rt,rx,rfl⟩
 all_goals
  go_wp2_with (refine eV rfl 127 _ _ rfl _ _ rfl rfl gy.out ?_)
  refine Sl.out.mono ?_
  rintro e w3 ⟨s3,rfl,wH,ht3⟩;obtain ⟨sa,sc,hsf⟩:=wH.sh.form;rw [az] at hsf;subst hsf;have htK:tb<K:=by have:=IU.out.lt;have:=HKW.out.2;omega
  have k3:w3.cell? ⟨K,3,none⟩=some .nilIface:=wH.row.cell 3 (by simp)
  have Ub:=IU.out.below wH.eT;have t1:=Ub.c1;have tf:=Ub.free 1;obtain ⟨R,hR⟩ : ∃ R,R=j9 (jz (fi L) r).1:=⟨_,rfl⟩;have wP:=ab (GP (jz (fi L) r).1 (LU FY.out) w3);rw [← hR] at wP;have hRf:R = .nilIface∨∃ t x,R = .iface t x:=by
   rw [hR];cases (jz (fi L) r).1 with
   | none=>exact .inl rfl
   | some x=>exact .inr ⟨_,_,rfl⟩
  have dG:=bG.set tb 1 w3 R;have k2:(w3.setCell ⟨tb,1,none⟩ R).cell? ⟨K,2,none⟩=some (.slice sa (jz (fi L) r).2.length sc):=bP (dG.block K wH.row.lt (by omega)) (wH.row.cell 2 (by simp))
  have nV:Hid (sX (w3.setCell ⟨tb,1,none⟩ R) w.heap.size (.slice sa (jz (fi L) r).2.length sc) ((jz (fi L) r).2.map (j8 tx))∧Mp base F tb (w3.setCell ⟨tb,1,none⟩ R) fb fg PP (Q.kL T L)∧B.au (w3.setCell ⟨tb,1,none⟩ R) tb #[.pointer (some ⟨db,0,none⟩),j9 (jz (fi L) r).1] 100∧Dv base A db F d (w3.setCell ⟨tb,1,none⟩ R)∧S.V.Step (fun k=>k=fg∨k=tb) (fun k=>k=fg∨k=tb) w (w3.setCell ⟨tb,1,none⟩ R)):=by
   have hkw:=HKW.out;have hm:=HM.out;have abd:=HMP.out.TO;have Um:=HMP.out.TN;refine ⟨(wH.sh.same fun g hg=>dG.block g (wH.sh.dx hg).2 (by have:=(wH.sh.dx hg).1;omega)).lower (by omega),⟨jO HMP.out ((dG.block fb (aq abd wH.eT.size) hm.nt.2).trans (wH.eT.block fb abd)) ((dG.block fg (aq Um wH.eT.size) hm.nt.1).trans (wH.eT.block fg Um)),MOK.out,hm.lo,hm.nf,hm.nt⟩,by rw [← hR];exact B.au.one Ub R,(uK.out.below wH.eT).tree HC.out.lo.1 HC.out.lo.2 1 R,?_⟩
   have ho:=Ys.out;exact ⟨dG.os.trans (wH.eT.os.trans ho.os),dG.tape.trans (wH.eT.tape.trans ho.tape),dG.output.trans (wH.eT.output.trans ho.output),ar (ar ho.size wH.eT.size) dG.size,fun k hk hnk=>(dG.block k (by have:=wH.eT.size;omega) (fun e=>hnk (.inr e))).trans ((wH.eT.block k (by omega)).trans (ho.block k hk (fun e=>hnk (.inl e)))),fun _ h=>.inl h⟩
  clear wH ht3 Ub dG Sl c1 hR;rcases hRf with rfl | ⟨qt,qx,rfl⟩
  all_goals
   go_wp2_with fail;refine wP.out.mono ?_
   rintro e w3' ⟨rfl,rfl⟩;go_wp2;go_ret3;exact ⟨_,rfl,nV.out⟩
end
end T
namespace S.V
open Go.RowKit Go.Maps
theorem No{t:ByteArray}(h:t.size=512)(hz:vV t=true):t=qp:=by
 apply Cz
 rw [qp,uB];have:=of_decide_eq_true hz;rw [h] at this;exact this
theorem Ff{x:gL}{j:Int}:∀ {l:List gL},(∀ y ∈ l,y.ix≠x.ix)→(qM x l).find? (fun y=>decide (y.ix=j))=if x.ix=j then some x else l.find? (fun y=>decide (y.ix=j))
 | [],_=>by unfold qM;rw [ky];by_cases hx:x.ix=j <;> simp [hx]
 | y::r,h=>by
  unfold qM;split
  ·rw [ky];by_cases hx:x.ix=j <;> simp [hx]
  ·rw [ky,Ff (fun z hz=>h z (by simp [hz]))]
   by_cases hx:x.ix=j
   ·have hy:y.ix≠j:=fun e=>h y (by simp) (e.trans hx.symm)
    simp [hx,hy]
   ·simp [hx,List.find?_cons]
theorem uk{i j:Int}:∀ l:List gL,(jF i l).find? (fun y=>decide (y.ix=j))=if i=j then none else l.find? (fun y=>decide (y.ix=j))
 | []=>by simp [jF]
 | y::r=>by
  have ih:=uk (i:=i) (j:=j) r;unfold jF at ih ⊢;rw [List.filter_cons];by_cases hy:y.ix=i
  ·simp only [hy,ne_eq,not_true_eq_false,decide_false,kH,if_false,ih,ky];by_cases NU:i=j <;> simp [NU]
  ·simp only [ne_eq,hy,not_false_eq_true,decide_true,if_true,ky,ih];by_cases hyj:y.ix=j
   ·have:i≠j:=fun e=>hy (hyj.trans e.symm)
    simp [hyj,this]
   ·simp [hyj]
theorem vf(l:List gL)(i j:Int)(t:ByteArray)(ht:t.size=512):fC (rI l i t) j=if i=j then t else fC l j:=by
 unfold fC rI;cases hz:vV t
 ·rw [if_neg (by simp),Ff (fun y hy=>(pP hy).2),uk]
  by_cases h:i=j <;> simp [h]
 ·rw [if_pos rfl,uk];by_cases h:i=j
  ·simp [h,(No ht hz).symm]
  ·simp [h]
theorem uP(eG:List gL)(a:Int)(p:List UInt8)(hl:p.length=4096):∀ n:Nat,n≤8→∀ j:Int,fC (gO eG (chunks a p n)) j=if a≤j∧j<a+n then Hg ((p.drop ((j - a).toNat*512)).take 512) else fC eG j:=by
 intro n;induction n with
 | zero =>
  intro _ j;rw [if_neg (by omega)];rfl
 | succ n ih =>
  intro hn j;have hs:(Hg ((p.drop (n*512)).take 512)).size=512:=by rw [oG,ag,al];omega
  rw [vB,qB,chunk,vf _ _ _ _ hs,ih (by omega) j]
  by_cases h1:a+(n:Int)=j
  ·subst h1;rw [if_pos rfl,if_pos ⟨by omega,by omega⟩,show (a+(n:Int) - a).toNat=n by omega]
  ·rw [if_neg h1];by_cases h2:a≤j∧j<a+(n:Int)
   ·rw [if_pos h2,if_pos ⟨h2.1,by omega⟩]
   ·rw [if_neg h2,if_neg (by omega)]
theorem Fe(p:List UInt8):∀ n:Nat,(List.range n).flatMap (fun i:Nat=>(p.drop (i*512)).take 512)=p.take (n*512):=by
 intro n;induction n with
 | zero=>simp
 | succ n ih =>
  rw [List.range_succ,aN,ih,Nat.succ_mul,List.take_add];simp
end S.V
namespace T
open Go.RowKit
theorem lK(x:S.V.gL)(i:Int):∀ l:List S.V.gL,S.V.ez (l++[x]) i=if x.ix=i then some l.length else S.V.ez l i
 | []=>by
  simp only [List.nil_append,S.V.ez,List.length_nil]
 | y::l=>by
  simp only [List.cons_append,S.V.ez,lK x i l,List.length_cons];by_cases h:x.ix=i
  ·simp [h]
  ·simp [h]
theorem kU(i:Int):∀ (l:List S.V.gL) (k:Nat),S.V.ez l i=some k→k<l.length
 | [],k,h=>by simp [S.V.ez] at h
 | y::l,k,h=>by
  simp only [S.V.ez] at h;cases hq:S.V.ez l i with
  | none =>
   rw [hq] at h;simp only at h;split at h
   ·cases h;simp
   ·cases h
  | some q =>
   rw [hq] at h;cases h;have:=kU i l q hq;simp only [List.length_cons];omega
def BQ(eG aX:List S.V.gL)(i:Int):ByteArray:=match S.V.ez aX i with | some k=>((aX[k]?).map S.V.gL.lx).getD S.V.qp | none=>S.V.fC eG i
theorem Dr(eG l:List S.V.gL)(x:S.V.gL)(i:Int):BQ eG (l++[x]) i=if x.ix=i then x.lx else BQ eG l i:=by
 unfold BQ;rw [lK];by_cases h:x.ix=i
 ·rw [if_pos h,if_pos h];simp
 ·rw [if_neg h,if_neg h];cases hq:S.V.ez l i with
  | none=>rfl
  | some k =>
   have:=kU i l k hq;simp only [bf this]
theorem uS(eG:List S.V.gL)(i:Int):∀ n (l:List S.V.gL),l.length=n→(∀ x ∈ l,x.lx.size=512)→BQ eG l i=S.V.fC (S.V.gO eG l) i
 | 0,l,hl,_=>by
  have:l=[]:=List.length_eq_zero_iff.1 hl;subst this;rfl
 | n+1,l,hl,hs=>by
  have cY:l≠[]:=fun e=>by rw [e] at hl;cases hl
  have e:=iA cY;have h1:l.dropLast.length=n:=by rw [List.length_dropLast];omega
  have h2:(l.getLast cY).lx.size=512:=hs _ (List.getLast_mem cY);rw [← e,Dr,S.V.qB,S.V.vf _ _ _ _ h2,uS eG i n l.dropLast h1 (fun x hx=>hs x (List.dropLast_subset l hx))]
theorem pD(d:S.V.bE)(hs:∀ x ∈ d.aX,x.lx.size=512)(s:Int)(n:Nat):S.V.iR d s n=(List.range n).flatMap fun i:Nat=>S.V.bl (S.V.fC (S.V.gO d.eG d.aX) (s+(i:Int))):=by
 have e:∀ i:Int,S.V.gl d i=S.V.fC (S.V.gO d.eG d.aX) i:=fun i=>uS d.eG i _ d.aX rfl hs
 unfold S.V.iR;simp only [e]
def qG(d:S.V.bE)(s:S.Sh):S.V.bE:={ d with aX:=d.aX++S.V.chunks (s.id*8) (S.gX s) 8,nw:=wrap64 (d.nw+8) }
theorem DN{d:S.V.bE}{s:S.Sh}(hm:S.td s)(hs:∀ x ∈ d.aX,x.lx.size=512):∀ x ∈ (qG d s).aX,x.lx.size=512:=fun x hx=>by
 rcases List.mem_append.1 hx with h | h
 ·exact hs x h
 ·obtain ⟨i,hi,rfl⟩:=List.mem_map.1 h;have Ig:=List.mem_range.1 hi;have hl:=S.mq s hm;show (S.V.Hg (((S.gX s).drop (i*512)).take 512)).size=512
  rw [S.V.oG,ag,al];omega
theorem E9{α β:Type}{l:List α}{f g:α→List β}(h:∀ a ∈ l,f a=g a):l.flatMap f=l.flatMap g:=by
 induction l with
 | nil=>rfl
 | cons a l ih=>rw [List.flatMap_cons,List.flatMap_cons,h a (by simp),ih fun b hb=>h b (by simp [hb])]
theorem O8{d:S.V.bE}{s:S.Sh}(hm:S.td s)(hs:∀ x ∈ d.aX,x.lx.size=512)(i:Int):S.V.iR (qG d s) (i*8) 8=if i=s.id then S.gX s else S.V.iR d (i*8) 8:=by
 have hl:=S.mq s hm;rw [pD _ (DN hm hs)];have e1:S.V.gO (qG d s).eG (qG d s).aX=S.V.gO (S.V.gO d.eG d.aX) (S.V.chunks (s.id*8) (S.gX s) 8):=by
  show List.foldl _ _ (_++_)=_
  rw [gx];rfl
 rw [e1];by_cases h:i=s.id
 ·rw [if_pos h,h];have e:(List.range 8).flatMap (fun j:Nat=>S.V.bl (S.V.fC (S.V.gO (S.V.gO d.eG d.aX) (S.V.chunks (s.id*8) (S.gX s) 8)) (s.id*8+(j:Int))))=(List.range 8).flatMap (fun j:Nat=>((S.gX s).drop (j*512)).take 512):=by
   apply E9
   intro j hj;have hj8:j<8:=List.mem_range.1 hj;rw [S.V.uP _ _ _ hl 8 (by decide),if_pos ⟨by omega,by omega⟩,S.V.uB,show (s.id*8+(j:Int) - s.id*8).toNat=j by omega]
  rw [e,S.V.Fe,ao (by rw [hl];decide)]
 ·rw [if_neg h,pD d hs];apply E9
  intro j hj;have hj8:j<8:=List.mem_range.1 hj;rw [S.V.uP _ _ _ hl 8 (by decide),if_neg (by omega)]
theorem AH{d d':S.V.bE}{id:Int}(hz:d'.size=d.size)(hr:S.V.iR d' (id*8) 8=S.V.iR d (id*8) 8):cF d' id=cF d id:=by
 have e:(∃ p s,fE d' id s∧gj s p)=(∃ p s,fE d id s∧gj s p):=by
  apply propext
  constructor
  ·rintro ⟨p,s,⟨h1,h2,h3,h4,h5⟩,h6⟩;exact ⟨p,s,⟨h1,h2,h3,by rw [← hz];exact h4,by rw [h3] at h5 ⊢;rw [← hr];exact h5⟩,h6⟩
  ·rintro ⟨p,s,⟨h1,h2,h3,h4,h5⟩,h6⟩;exact ⟨p,s,⟨h1,h2,h3,by rw [hz];exact h4,by rw [h3] at h5 ⊢;rw [hr];exact h5⟩,h6⟩
 have e2:(fun p=>∃ s,fE d' id s∧gj s p)=(fun p=>∃ s,fE d id s∧gj s p):=by
  funext p
  apply propext
  constructor
  ·rintro ⟨s,⟨h1,h2,h3,h4,h5⟩,h6⟩;exact ⟨s,⟨h1,h2,h3,by rw [← hz];exact h4,by rw [h3] at h5 ⊢;rw [← hr];exact h5⟩,h6⟩
  ·rintro ⟨s,⟨h1,h2,h3,h4,h5⟩,h6⟩;exact ⟨s,⟨h1,h2,h3,by rw [hz];exact h4,by rw [h3] at h5 ⊢;rw [hr];exact h5⟩,h6⟩
 unfold cF;by_cases h:∃ p s,fE d id s∧gj s p
 ·rw [dif_pos (e▸h),dif_pos h];congr 1
  simp only [e2]
 ·rw [dif_neg (e▸h),dif_neg h]
theorem L9{s:S.Sh}{p q:PD}(h1:gj s p)(h2:gj s q):p=q:=by
 rcases h1 with ⟨a1,_,a3⟩ | ⟨a1,_,a3⟩ <;> rcases h2 with ⟨b1,_,b3⟩ | ⟨b1,_,b3⟩
 ·rw [a3,b3]
 ·rw [a1] at b1;cases b1
 ·rw [a1] at b1;cases b1
 ·rw [a3,b3]
theorem Tz{d:S.V.bE}{s:S.Sh}{p:PD}(h:fE d s.id s)(hh:gj s p):cF d s.id=some p:=by
 have hx:∃ p s',fE d s.id s'∧gj s' p:=⟨p,s,h,hh⟩;unfold cF;rw [dif_pos hx];obtain ⟨s',h1,h2⟩:=Classical.choose_spec hx;congr 1
 have e:s'=s:=by
  have a1:=S.ll s' h1.1 h1.2.1;have a2:=S.ll s h.1 h.2.1;have b1:=h1.2.2.2.2;have b2:=h.2.2.2.2;rw [h1.2.2.1] at b1;rw [← a1,← a2,← b1,← b2]
 rw [e] at h2;exact L9 h2 hh
end T
end Go.Proofs.YtihmgigfkmofnaaGreatDoor
namespace Go.Proofs.YtihmgigfkmofnaaGreatDoor.T
open Go.RowKit
theorem Kz(d:S.V.bE)(s:S.Sh)(hm:S.td s)(hd:d.dead=false)(ha:d.eQ=[])(eF:(s.id+1)*8≤d.size):d.write (s.id*8) (S.gX s)=(qG d s,0):=by
 obtain ⟨sz,eG,aX,eQ,dead,nr,nw,ns⟩:=d;simp only at hd ha eF;subst hd ha;have hl:=S.mq s hm;have h2:=hm.2.2.1;have hf:S.V.bE.fits ⟨sz,eG,aX,[],false,nr,nw,ns⟩ (s.id*8) ((8:Nat):Int)=true:=by
  simp only [S.V.bE.fits,decide_eq_true_eq];omega
 simp only [S.V.bE.write,hl,qG];rw [if_neg (by simp),if_neg (by rw [show 4096 / 512=8 from rfl,hf];simp)]
 rfl
end Go.Proofs.YtihmgigfkmofnaaGreatDoor.T
namespace Go.Proofs.YtihmgigfkmofnaaGreatDoor.S
open Go.RowKit
theorem KZ(base:Nat)(A:Nat→Addr)(db:Nat)(F:Nat→Prop)(d:V.bE)(s:Sh)(w:World)(hs:s.body.size≤140737488355328)(hx:s.rD<18446744073709551616)(hd:V.cP w db F d)(hE:Env base A w)(hF:∀ k,F k→base≤k)(hp:d.aX.length≤1000000)(Be:d.dead=false)(ha:d.eQ=[]):Calls prog 62 #[.pointer (some ⟨db,0,none⟩),.agg s.cells.toArray] w fun e w'=>(e = .returned .nilIface∧(td s∧(s.id+1)*8≤d.size)∧∃ F',V.cP w' db F' (T.qG d s)∧V.Step F F' w w')∨(¬ (td s∧(s.id+1)*8≤d.size)∧e = .returned (.iface 360 (.pointer (some (A 0))))∧Below w.heap.size w w'):=by
 have HE:=ab hE;have HD:=ab hd;have YM:=ab hF;obtain ⟨k,i,t,c,b⟩:=s;have HX:Hid (Boxed w.heap.size [.int .i64 k,.int .i64 i,.int .u64 (t:Int),.int .i64 c,.string b] (w.alloc (.cells #[.int .i64 k,.int .i64 i,.int .u64 (t:Int),.int .i64 c,.string b] 87))):=bM w _ _;have HB:=ab (ai w (.cells #[.int .i64 k,.int .i64 i,.int .u64 (t:Int),.int .i64 c,.string b] 87));by_cases hm:td ⟨k,i,t,c,b⟩
 ·have HS:Hid (∀ w,Lay w→FQ w→Calls prog 96 #[.agg #[.int .i64 k,.int .i64 i,.int .u64 (t:Int),.int .i64 c,.string b]] w fun e w'=>∃ g,e = .returned (.tuple #[.slice (some ⟨g,0,none⟩) 4096 4096,.nilIface])∧cJ w' g (gX ⟨k,i,t,c,b⟩)∧w.heap.size≤g∧Below w.heap.size w w'):=fun w h1 h2=>Tn ⟨k,i,t,c,b⟩ w hm hx h1 h2
  have vM:Hid ((gX ⟨k,i,t,c,b⟩).length=4096):=mq _ hm;have CT:0≤i:=by have:=hm.2.2.1;simp only at this;omega
  have vU:i<1048576:=hm.2.2.1.2;have HM:=ab hm;have HWR:Hid ((i+1)*8≤d.size→d.write (i*8) (gX ⟨k,i,t,c,b⟩)=(T.qG d ⟨k,i,t,c,b⟩,0)):=fun h=>T.Kz d ⟨k,i,t,c,b⟩ hm Be ha h
  have N8:Hid (d.aX.length≤1000000∧d.eQ=[]):=⟨hp,ha⟩;clear hE hd hF hs hx hm hp Be ha;generalize ru:gX ⟨k,i,t,c,b⟩=pg at *;clear ru;show Calls prog 62 #[.pointer (some ⟨db,0,none⟩),.agg #[.int .i64 k,.int .i64 i,.int .u64 (t:Int),.int .i64 c,.string b]] w _
  go_enter func62,ntmps62;go_wp2_with fail;refine (HS.out _ (HE.out.up HB.out).lay (HE.out.up HB.out).tab).mono ?_
  rintro e w1 ⟨g,rfl,bH,hg,aO⟩;have Ad:=ab (HX.out.below aO);have bT:=ab (Below.next HB.out aO);have mL:=ab bH;have HG:Hid (w.heap.size<g):=by have:=HX.out.1;show _<_;omega
  have c1:w1.cell? ⟨w.heap.size,1,none⟩=some (.int .i64 i):=Ad.out.2 1 (by simp)
  clear bH hg aO HX HB;have Sp:=ab (HD.out.below bT.out);by_cases eF:(i+1)*8≤d.size
  ·go_wp2_with fail;refine (mY db F d i _ Sp.out CT vU).mono ?_
   rintro e w1' ⟨rfl,rfl⟩;rw [decide_eq_true eF];go_wp2_with fail;refine (uj i _ CT (by omega)).mono ?_
   rintro e w1' ⟨rfl,rfl⟩;have W:=V.KA base A db F d w1 Sp.out (HE.out.up bT.out).errs YM.out (i*8) (.slice (some ⟨g,0,none⟩) 4096 4096) pg ⟨some ⟨g,0,none⟩,4096,g,by rw [vM.out],by rw [vM.out];decide,by rw [vM.out];decide,fun _=>⟨rfl,fun hf=>by have:=HD.out.lt g hf;have:=HG.out;omega⟩,mL.out.cell⟩ (by rw [vM.out];have:=N8.out.1;omega) (by rw [N8.out.2];exact V.xS base A db)
   rw [HWR.out eF] at W;have HW:Hid (Calls prog 98 #[.pointer (some ⟨db,0,none⟩),.int .i64 (i*8),.slice (some ⟨g,0,none⟩) 4096 4096] w1 fun e w'=>e = .returned .nilIface∧∃ F',V.cP w' db F' (T.qG d ⟨k,i,t,c,b⟩)∧V.Step F F' w1 w'):=W
   clear W;go_wp2_with fail;refine Calls.mono HW.out ?_
   rintro e w2 ⟨rfl,F',Ml,iL⟩;have mM:Hid (∃ F',V.cP w2 db F' (T.qG d ⟨k,i,t,c,b⟩)∧V.Step F F' w w2):=⟨F',Ml,(V.Step.bD bT.out).trans iL⟩;clear Ml iL;go_wp2_with fail;go_ret;exact .inl ⟨rfl,⟨HM.out,eF⟩,mM.out⟩
  ·have cE:w1.cell? ⟨0,0,none⟩=some (.iface 360 (.pointer (some (A 0)))):=(HE.out.up bT.out).errs.arg;have HDF:Hid (decide ((i+1)*8≤d.size)=false):=decide_eq_false eF;have Vj:Hid (¬ (td ⟨k,i,t,c,b⟩∧(i+1)*8≤d.size)):=fun h=>eF h.2
   clear eF;go_wp2_with fail;refine (mY db F d i _ Sp.out CT vU).mono ?_
   rintro e w1' ⟨rfl,rfl⟩;rw [HDF.out];go_wp2_with fail;go_ret;exact .inr ⟨Vj.out,rfl,bT.out⟩
 ·have HS:Hid (∀ w,w.cell? ⟨0,0,none⟩=some (.iface 360 (.pointer (some (A 0))))→Calls prog 96 #[.agg #[.int .i64 k,.int .i64 i,.int .u64 (t:Int),.int .i64 c,.string b]] w fun e w'=>e = .returned (.tuple #[.slice none 0 0,.iface 360 (.pointer (some (A 0)))])∧Below w.heap.size w w'):=fun w hc=>To (A 0) ⟨k,i,t,c,b⟩ w hs hm hc
  have Vj:Hid (¬ (td ⟨k,i,t,c,b⟩∧(i+1)*8≤d.size)):=fun h=>hm h.1
  clear hE hd hF hs hx hm hp Be ha;show Calls prog 62 #[.pointer (some ⟨db,0,none⟩),.agg #[.int .i64 k,.int .i64 i,.int .u64 (t:Int),.int .i64 c,.string b]] w _
  go_enter func62,ntmps62;go_wp2_with fail;refine (HS.out _ (HE.out.up HB.out).errs.arg).mono ?_
  rintro e w1 ⟨rfl,aO⟩;have bT:=ab (Below.next HB.out aO);clear aO;go_wp2_with fail;go_ret;exact .inr ⟨Vj.out,rfl,bT.out⟩
end Go.Proofs.YtihmgigfkmofnaaGreatDoor.S
