import Derived.Test.YtihmgigfkmofnaaGreatDoorG32
set_option maxHeartbeats 4000000
set_option maxRecDepth 100000
open Go.Proofs.Tryz
namespace Go.Proofs.YtihmgigfkmofnaaGreatDoor
namespace T
open Go.RowKit
section
variable {PG:Int→Option PD} {w0:World} {lo pb:Nat} {pv:Value} {P:List Nat} {tx:Nat} {h:Nat} {w:World} {sv:Value} {Z Z1:List S.Sh}
theorem pR.setRow{H:Nat}{cs:Array Value}{sx:Value}{wx:World}(hp:pR w0 lo pb pv P tx wx sx Z1)(ht:mL pb w sv wx sx)(BS:w.heap.size≤H)(hw0:w0.heap.size≤w.heap.size)(FH:H≠pb)(fQ:sx.ownBlock≠some H):pR w0 lo pb pv P tx (wx.setRow H cs) sx Z1∧mL pb w sv (wx.setRow H cs) sx:=by
 have dE:=C7 wx H cs;have h3:=hp;refine ⟨⟨⟨dE.os.trans h3.eZ.os,dE.tape.trans h3.eZ.tape,dE.output.trans h3.eZ.output,ar h3.eZ.size dE.size,fun k hk=>(dE.block k (aq hk h3.eZ.size) (by omega)).trans (h3.eZ.block k hk)⟩,(dE.block pb h3.row.lt (fun e=>FH e.symm)).trans h3.row,h3.sh.same fun g' vT=>dE.block g' (h3.sh.dF vT).2 (fun e=>fQ (e▸vT)),h3.ord,ar h3.lo dE.size,h3.pg,h3.pl⟩,?_⟩
 exact ⟨ar ht.size dE.size,fun k hk h1 h2=>(dE.block k (aq hk ht.size) (by omega)).trans (ht.block k hk h1 h2),ht.own⟩
theorem Bo(A:Nat→Addr){b:Nat}{n:SN}{xv lv cv:Value}{f:Int}{lk:List B.Lk}(ye:dQ w0 b n xv lv cv)(hu:¬ n.us.length=0)(hE:B.pU A w0)(hP:pR w0 lo pb pv P tx w sv Z)(hbo:∀ W,Below w.heap.size w W→Calls prog 184 #[.pointer (some ⟨pb,0,none⟩),.pointer (some ⟨b,0,none⟩)] W fun e w'=>∃ oe SV,e = .returned (.agg #[.int .i64 f,SV])∧B.di w' SV lk∧pR w0 lo pb pv P tx w' oe Z1∧mL pb W sv w' oe)(lG:B.nB f lk true=none)(my:lk.length≤4000):Calls prog 149 #[.pointer (some ⟨pb,0,none⟩),.pointer (some ⟨b,0,none⟩)] w fun e w'=>∃ XQ,e = .returned (.agg #[.int .i64 66,.int .i64 0,.int .u64 0,.int .i64 ((lk.length:Int)+1),.string (B.pQ f lk)])∧pR w0 lo pb pv P tx w' XQ Z1∧mL pb w sv w' XQ:=by
 obtain ⟨W1,gL⟩ : ∃ W1,w.alloc (.cells #[.int .i64 0,.int .i64 0,.int .u64 0,.int .i64 0,.string ⟨#[]⟩] 87)=W1:=⟨_,rfl⟩;have aM:Below w.heap.size w W1:=gL▸ai w _;have r1:B.au W1 w.heap.size #[.int .i64 0,.int .i64 0,.int .u64 0,.int .i64 0,.string ⟨#[]⟩] 87:=gL▸B.au.new w _ _;obtain ⟨H,hH⟩ : ∃ H,w.heap.size=H:=⟨_,rfl⟩;rw [hH] at r1;have ke:=(ye.below hP.eZ).below aM;have sJ:=ab (cB b n xv lv cv W1 ke);rw [show decide (n.us.length=0)=false by simp [hu]] at sJ
 have Yw:=ab (hbo W1 aM);have nT:=ab r1;have bN:=ab aM;have HP:=ab hP;have nX:=ab lG;have FP:=ab my;have HE:=ab hE;have HHP:Hid (w.heap.size=H∧H≠pb∧sv.ownBlock≠some H∧H<W1.heap.size):=⟨hH,by have:=hP.row.lt;omega,fun e=>by have:=(hP.sh.dF e).2;omega,r1.lt⟩
 have HMK:Hid (B.Vu lk):=fun p hp=>by
  have:=(B.kV lG).2.2.1 p hp;have:=B.ll this;omega
 clear ye ke hE lG aM r1 hu hP hbo my;go_enter func149,ntmps149;go_wp2_with fail;refine sJ.out.mono ?_
 rintro e w1' ⟨rfl,rfl⟩;go_wp2_with fail;refine Yw.out.mono ?_
 rintro e w2 ⟨s2,l2,rfl,TD,X2,tk⟩;obtain ⟨la,lc,pN⟩:=TD.form;subst pN;obtain ⟨W3,M6⟩ : ∃ W3,w2.alloc (.cells #[.int .i64 f,.slice la lk.length lc] 150)=W3:=⟨_,rfl⟩;have bQ:Below w2.heap.size w2 W3:=M6▸ai w2 _;obtain ⟨K,hK⟩ : ∃ K,w2.heap.size=K:=⟨_,rfl⟩;have rK:B.au W3 K #[.int .i64 f,.slice la lk.length lc] 150:=by rw [← hK];exact M6▸B.au.new w2 _ _
 have vS:=X2.below bQ;have RT:=HHP.out;have r2:B.au w2 H #[.int .i64 0,.int .i64 0,.int .u64 0,.int .i64 0,.string ⟨#[]⟩] 87:=(tk.block H RT.2.2.2 RT.2.1 RT.2.2.1).trans nT.out;have ZO:s2.ownBlock≠some H:=fun e=>by
  rcases tk.own H e with e' | e'
  ·exact RT.2.2.1 e'
  ·have:=RT.2.2.2;omega
 have VJ:=ab (B.QY A f _ lk W3 HMK.out (by have:=FP.out;omega) (TD.below bQ) (HE.out.below vS.eZ))
 have k0:=rK.c0;have k1:=rK.c1;have RY:=ab (r2.below bQ);have HRK:=ab rK;have HP3:=ab vS;have HT3:=ab ((mL.below sv bN.out).trans (tk.trans (mL.below s2 bQ)));have kL:=ab ZO;clear TD X2 tk bQ rK vS r2 RT ZO Yw sJ;go_wp2_with fail;refine VJ.out.mono ?_
 rintro e w4 ⟨he,fW⟩;rcases he with ⟨_,rfl⟩ | ⟨k,hk,_⟩
 ·have r4:=RY.out.below fW;have k1':=(HRK.out.below fW).c1;have eK:=C5 w4 H _ (.int .i64 66) (.int .i64 0) (.int .u64 0) (.int .i64 ((lk.length:Int)+1)) (.string (B.pQ f lk)) r4 rfl ⟨rfl,rfl,rfl,rfl,rfl⟩;have gP:=ab eK;have HR4:=ab r4;have HP4:=ab (HP3.out.below fW);have HT4:=ab (HT3.out.trans (mL.below s2 fW));have ai2:(1:Int)+(lk.length:Int)=(lk.length:Int)+1:=by omega
  have U9:(lk.length:Int)≤4000:=by have:=FP.out;omega
  have RL:(0:Int)≤(lk.length:Int):=by omega
  clear fW VJ eK r4;go_wp2_with fail;refine (An pb w4).mono ?_
  rintro e w4' ⟨rfl,rfl⟩;go_wp2_with (refine fe rfl 87 _ _ rfl _ _ rfl rfl gP.out ?_)
  have ic:=pR.setRow (cs:=#[.int .i64 66,.int .i64 0,.int .u64 0,.int .i64 ((lk.length:Int)+1),.string (B.pQ f lk)]) HP4.out HT4.out (by have:=HHP.out.1;omega) HP.out.eZ.size HHP.out.2.1 kL.out
  refine bodyPost_ret (results_cell_row rfl _ _ H 87 _ (0,0) _ rfl (N7 w4 H _ _ HR4.out) underlying87 rfl info87) rfl ?_
  exact ⟨s2,rfl,ic.1,ic.2⟩
 ·rw [nX.out] at hk;cases hk
theorem Dz{k:Nat}(hk:k<P.length):P[k]?=some (eB P k):=by
 unfold eB;rw [aE,af hk];rfl
theorem Pe(id:Int)(w:World):Calls prog 72 #[.pointer (some ⟨pb,0,none⟩),.iface 146 (.int .i64 id)] w fun e w'=>e = .returned (.int .i64 id)∧w=w':=by
 have a1:=fun W=>Q4 (.int .i64 id) W
 go_enter func72,ntmps72;go_wp2;go_ret;exact ⟨rfl,rfl⟩
theorem Pf{b:Nat}{Q:Ending→World→Prop}(hl:Calls prog 112 #[.pointer (some ⟨pb,0,none⟩),.pointer (some ⟨b,0,none⟩)] w fun e w'=>(∃ id:Int,e = .returned (.int .i64 id))∧Q e w'):Calls prog 72 #[.pointer (some ⟨pb,0,none⟩),.iface 152 (.pointer (some ⟨b,0,none⟩))] w Q:=by
 have HL:=ab hl;have a1:=fun W=>JH (.pointer (some ⟨b,0,none⟩)) W
 have a2:=fun W=>Q5 (.pointer (some ⟨b,0,none⟩)) W
 clear hl;go_enter func72,ntmps72;go_wp2_with fail;refine HL.out.mono ?_
 rintro e w1 ⟨⟨id,rfl⟩,hq⟩;have HQ:=ab hq;clear hq HL;go_wp2;exact HQ.out
theorem rG(A:Nat→Addr)(hE:B.pU A w0)(M8:∀ j,2≤eB P j∧eB P j<1048576):∀ h,Uq PG w0 lo pb pv P tx h
 | 0=>fun p t w sv Z hk ho hP ym jw=>by
  cases p with
  | pg id =>
   have hk:gE PG 0 id t:=hk;have h0:¬ t.1=0:=by have:=hk.1;have:=hk.2.1;omega
   have e1:(aV (eB P) 0 t Z.length)=(t,[]):=if_neg h0;have e2:(fy 0 t:Int)=id:=hk.2.1;rw [e1];refine (Pe id w).mono ?_
   rintro e w' ⟨rfl,rfl⟩;exact ⟨sv,by rw [e2],by simpa using hP,mL.refl _ _ _⟩
  | nd b =>
   obtain ⟨h0,n,xv,lv,cv,ye,hn⟩:=hk;have h0:t.1=0:=h0;have AW:jc 0 t=1:=if_pos h0;have e1:(aV (eB P) 0 t Z.length)=((eB P Z.length,t.2),[(eB P Z.length,.leaf t.2)]):=if_pos h0;have kt:n.ps=t.2:=hn.2;have lG:zI n.ps true=none:=by rw [kt];exact DG ho
   rw [e1];refine Pf ((uq (Z1:=Z) b 76 (n.ps.length:Int) (tG n.ps) hP ((Gg A pb b n xv lv cv w (ye.below hP.eZ) hn.1 (hE.c.below hP.eZ) lG).mono ?_) (eB P Z.length) (Dz (by omega))).mono ?_)
   ·rintro e w' ⟨rfl,hb⟩;exact ⟨sv,rfl,hP.below hb,mL.below sv hb⟩
   ·rintro e w' ⟨oe,rfl,h1,h2⟩;rw [kt] at h1;exact ⟨⟨_,rfl⟩,oe,rfl,h1,h2⟩
 | h+1=>fun p t w sv Z hk ho hP ym jw=>by
  cases p with
  | pg id =>
   have hk:gE PG (h+1) id t:=hk;have h0:¬ t.1=0:=by have:=hk.1;have:=hk.2.1;omega
   have e1:(aV (eB P) (h+1) t Z.length)=(t,[]):=if_neg h0;have e2:(fy (h+1) t:Int)=id:=hk.2.1;rw [e1];refine (Pe id w).mono ?_
   rintro e w' ⟨rfl,rfl⟩;exact ⟨sv,by rw [e2],by simpa using hP,mL.refl _ _ _⟩
  | nd b =>
   obtain ⟨h0,n,xv,lv,cv,ye,hn⟩:=hk;have h0:t.1=0:=h0;have AW:jc (h+1) t=(t.2.2.map (jc h)).sum+1:=if_pos h0;obtain ⟨R,hR⟩ : ∃ R,R=bZ (aV (eB P) h) t.2.2 Z.length:=⟨_,rfl⟩;have e1:(aV (eB P) (h+1) t Z.length)=((eB P (Z.length+R.2.length),t.2.1,R.1),R.2++[(eB P (Z.length+R.2.length),.br (l6 R.1) (qv t.2.1 R.1))]):=by rw [hR];exact if_pos h0
   have hRl:R.2.length=(t.2.2.map (jc h)).sum:=by rw [hR];exact rL (nu h) t.2.2 Z.length
   rw [e1] at jw ⊢;have ZR:(R.1.flatMap (dG h)).Nodup:=by
    have h9:(cY (eB P (Z.length+R.2.length))++R.1.flatMap (dG h)).Nodup:=jw;exact h9.sublist (dD _ _)
   obtain ⟨⟨pJ,mz,cO⟩,b8,ke⟩:=ho;have Tv:=(fA h t pJ mz).1 cO;have Tu:gY (kW h) pJ mz t.2.1 R.1:=by
    rw [hR];exact vP (fun t k lo hi hf=>⟨qy h t k lo hi hf.1,by unfold Full;rw [BH];exact hf.2⟩) t.2.2 t.2.1 Z.length pJ mz Tv
   have MW:n.us.length=t.2.2.length:=hn.1;have jo:t.2.1=n.lk.map (·.1):=hn.2.2.2.1;have ac8:∀ c ∈ R.1,2≤fy h c∧fy h c<1048576:=fun c' uC=>by
    obtain ⟨i,hi,hv⟩:=aO uC;have PV:i<t.2.2.length:=by rw [hR,iw] at hi;exact hi
    have Lu:t.2.2[i]?=some t.2.2[i]:=af PV;obtain ⟨ki,g1,_⟩:=rJ (aV (eB P) h) t.2.2 Z.length i _ Lu;rw [← hR,af hi,hv] at g1;cases g1;obtain ⟨q,hq⟩ : ∃ q,n.us[i]?=some q:=⟨_,af (by omega)⟩
    exact AD M8 (hn.qT hq Lu) ki
   have lG:B.nB (l6 R.1) (qv t.2.1 R.1) true=none:=QW Tu b8 ke ac8 ZR;have hlen:(qv t.2.1 R.1).length=n.lk.length:=by rw [vN _ _ (jV Tu),jo,az]
   have hu0:¬ n.us.length=0:=fun e=>hn.2.1 (List.length_eq_zero_iff.1 e)
   refine Pf ((uq (Z1:=Z++R.2.map (gK tx)) b 66 (((qv t.2.1 R.1).length:Int)+1) (B.pQ (l6 R.1) (qv t.2.1 R.1)) hP (Bo A ye hu0 hE hP (fun W hW=>?_) lG (by rw [hlen];exact ye.fine.2.2.2.1)) (eB P (Z.length+R.2.length)) (by rw [ae,az];exact Dz (by omega))).mono ?_)
   ·have:=nE (rG A hE M8 h) ye hn ⟨⟨pJ,mz,cO⟩,b8,ke⟩ (hP.below hW) (by rw [← hR];exact ZR) (by omega)
    rw [← hR] at this;exact this
   ·rintro e w' ⟨oe,rfl,h1,h2⟩;refine ⟨⟨_,rfl⟩,oe,rfl,?_,h2⟩;rw [bz,← ay];exact h1
end
theorem SQ{w:World}{fb fg PP:Nat}{T:Nat→Bool}(h:Q.dj w fb fg PP T):Uo w fg:=by
 rcases h.Nu.2 with ⟨h',_⟩ | ⟨g,cap,cur,h',hb,hg,hn,hm,hs,ht⟩
 ·simp at h'
 ·simp only [Value.slice.injEq,Option.some.injEq,Addr.mk.injEq] at h';obtain ⟨⟨rfl,_⟩,_,rfl⟩:=h';have df:cur.toList=Q.fj T (Q.nW PP):=by
   rw [← ht,al (by simp [hs])]
  refine ⟨fun j u hc=>?_,fun cs fr e=>?_,fun cs fr e=>?_⟩
  ·rw [cell_of_row w _ j cur _ _ hg] at hc;obtain ⟨h3,h4⟩:=Array.getElem?_eq_some_iff.1 hc;have hu:u ∈ cur.toList:=by rw [← h4];exact gH h3
   rw [df] at hu;obtain ⟨i,_,rfl⟩:=List.mem_map.1 hu;exact ⟨(fun s e=>by cases e),(fun t x e=>by cases e)⟩
  ·rw [hg] at e;simp at e
  ·rw [hg] at e;simp at e
theorem Mx{w w':World}{fg:Nat}(ho:Q.eF (fun k=>k=fg) w w')(hd:Uo w fg):cW w w':=⟨ho.size,fun k hk=>by
 by_cases e:k=fg
 ·exact .inr (e▸hd)
 ·exact .inl (ho.block k hk e)⟩
section
variable {base:Nat} {A:Nat→Addr} {db:Nat} {F:Nat→Prop} {d:S.V.bw} {W0:World} {r:cC}
theorem Dv.only{w w':World}{fg:Nat}(hv:Dv base A db F d w)(ho:Q.eF (fun k=>k=fg) w w')(hb:base≤fg)(hf:¬ F fg):Dv base A db F d w':=by
 obtain ⟨d1,n1,AV⟩:=hv.dev;have eK:S.V.Step (fun k=>k=fg) (fun k=>k=fg) w w':=⟨ho.os,ho.tape,ho.output,ho.size,ho.block,fun _ h=>.inl h⟩
 have jz:Below base w w':=⟨ho.os,ho.tape,ho.output,ho.size,fun k hk=>ho.block k (aq hk hv.env.errs.size) (by omega)⟩
 refine ⟨⟨d1,n1,AV.keep eK (fun k hk e=>hf (e▸hk))⟩,hv.env.keep jz,⟨fun i hi=>?_,hv.errs.2⟩,hv.up,hv.alive,hv.lo⟩
 obtain ⟨h1,c,t,h2⟩:=hv.errs.1 i hi;have hl:=hv.lo i hi;exact ⟨(jz.cell (p:=⟨eV i,0,none⟩) hl.1).trans h1,c,t,(jz.block _ hl.2).trans h2⟩
end
theorem AX(f:Nat→Bool):∀ n,(Q.dU f n).Nodup
 | 0=>List.nodup_nil
 | n+1=>by
  show (Q.dU f n++(if f n then [] else [n])).Nodup
  rw [List.nodup_append];refine ⟨AX f n,?_,fun a ha b hb=>?_⟩
  ·split <;> simp
  ·have:=((Q.js f).1 ha).1;split at hb
   ·simp at hb
   ·simp at hb;omega
theorem xM(T:Nat→Bool)(PP n:Nat):(Q.eT T PP n).Nodup:=(AX T PP).sublist (List.take_sublist _ _)
theorem np{T:Nat→Bool}{PP n:Nat}(hk:Q.kn PP T)(j:Nat):2≤eB (Q.eT T PP n) j∧eB (Q.eT T PP n) j<1048576:=by
 unfold eB;rw [aE];cases h:(Q.eT T PP n)[j]? with
 | none=>simp
 | some x =>
  have hm:=cG h;have:=Q.rE hm;have h0:=hk.t0;have h1:=hk.t1;have h2:=hk.hi;simp only [jA];refine ⟨?_,by omega⟩
  rcases a8 x 2 with hx | hx
  ·have:x=0∨x=1:=by omega
   rcases this with rfl | rfl
   ·rw [h0] at this;cases this.2
   ·rw [h1] at this;cases this.2
  ·exact hx
def fH(P:Nat→Nat):cC→cC × List (Nat × PD)
 | none=>(none,[])
 | some x=>(some ⟨x.1,(aV P x.1 x.2 0).1⟩,(aV P x.1 x.2 0).2)
def gI:cC→Nat
 | none=>0
 | some x=>fy x.1 x.2
def kH:cC→Value
 | none=>.nilIface
 | some x=>(C.Ch.pg (fy x.1 x.2:Int)).val
theorem yb(L:List Nat):pL (eB L) 0 L.length=L:=by
 unfold pL eB;refine ma (by simp) fun i h1 h2=>?_
 simp [List.getElem?_eq_getElem h2]
theorem BI{P:Nat→Nat}{r:cC}(h:fc r):fc (fH P r).1∧aD (fH P r).1=aD r:=by
 cases r with
 | none=>exact ⟨h,rfl⟩
 | some x =>
  obtain ⟨hh,t⟩:=x;exact ⟨⟨qy hh t 0 none none h.1,by show nI hh (aV P hh t 0).1≤4072;rw [BH];exact h.2.1,Pc hh t 0 h.2.2⟩,D4 hh t 0⟩
theorem AE{L:List Nat}{r:cC}(hl:L.length=dO r)(h0:∀ j,eB L j≠0):(eJ (fH (eB L) r).1).Perm (eJ r++L):=by
 cases r with
 | none =>
  have:L=[]:=List.length_eq_zero_iff.1 hl;subst this;exact List.Perm.refl _
 | some x =>
  obtain ⟨hh,t⟩:=x;have TF:jc hh t=L.length:=hl.symm;have:=D1 h0 hh t 0;rw [vO,nu,TF,yb] at this;exact this
theorem qz{T:Nat→Bool}{PP:Nat}{r:cC}(hk:Q.kn PP T)(hn:dO r≤(Q.dU T PP).length)(jw:(eJ r).Nodup)(FG:∀ i ∈ eJ r,T i=true):(eJ (fH (eB (Q.eT T PP (dO r))) r).1).Nodup∧(Q.eT T PP (dO r)).length=dO r:=by
 have hl:(Q.eT T PP (dO r)).length=dO r:=by rw [Q.xN];omega
 refine ⟨?_,hl⟩;rw [(AE hl (fun j=>by have:=np (n:=dO r) hk j;omega)).nodup_iff,List.nodup_append]
 refine ⟨jw,xM _ _ _,fun a ha b hb e=>?_⟩
 have h1:=FG a ha;have h2:=(Q.rE hb).2;rw [e,h2] at h1;cases h1
structure Mp(base:Nat)(F:Nat→Prop)(tb:Nat)(w:World)(fb fg PP:Nat)(T:Nat→Bool):Prop where
 map:Q.dj w fb fg PP T
 ok:Q.kn PP T
 lo:base≤fg∧base≤fb
 nf:¬ F fg∧¬ F fb
 nt:fg≠tb∧fb≠tb
theorem S8(pb:Nat)(w:World):Calls prog 72 #[.pointer (some ⟨pb,0,none⟩),.nilIface] w fun e w'=>e = .returned (.int .i64 0)∧w=w':=by
 have a1:∀ W,(Instr.typeAssert .nilIface 97 146 true).run prog W = .ok (.tuple #[.int .i64 0,.bool false]) W:=fun W=>by kernel_rfl
 have a2:∀ W,(Instr.typeAssert .nilIface 97 152 true).run prog W = .ok (.tuple #[.pointer none,.bool false]) W:=fun W=>by kernel_rfl
 go_enter func72,ntmps72;go_wp2;go_ret;exact ⟨rfl,rfl⟩
theorem Gm(r:cC)(h:gI r=0→r=none)(w:World):Calls prog 43 #[.int .i64 (gI r:Int)] w fun e w'=>e = .returned (kH r)∧w=w':=by
 cases r with
 | none=>exact oq w
 | some x =>
  have h0:¬ (gI (some x):Int)=0:=fun e=>by
   have:=h (by omega)
   cases this
  exact ot (gI (some x):Int) w h0
section
variable {base:Nat} {A:Nat→Addr} {db:Nat} {F:Nat→Prop} {d:S.V.bw} {W0:World} {r:cC}
theorem Pd{w0 w:World}{lo pb:Nat}{pv:Value}{P:List Nat}{tx:Nat}{sv rv:Value}(hE:B.pU A w0)(M8:∀ j,2≤eB P j∧eB P j<1048576)(hr:fK (cM d) w0 rv r)(cO:fc r)(hP:pR w0 lo pb pv P tx w sv [])(ym:dO r≤P.length)(jw:(eJ (fH (eB P) r).1).Nodup):Calls prog 72 #[.pointer (some ⟨pb,0,none⟩),rv] w fun e w'=>∃ oe,e = .returned (.int .i64 (gI (fH (eB P) r).1:Int))∧pR w0 lo pb pv P tx w' oe ((fH (eB P) r).2.map (gK tx))∧mL pb w sv w' oe:=by
 rcases hr with ⟨rfl,rfl⟩ | ⟨p,h,t,rfl,rfl,hk⟩
 ·refine (S8 pb w).mono ?_
  rintro e w' ⟨rfl,rfl⟩;exact ⟨sv,rfl,hP,mL.refl _ _ _⟩
 ·refine (rG A hE M8 h p t w sv [] hk (DF cO) hP (by have h9:jc h t≤P.length:=ym;simpa using h9) jw).mono ?_
  rintro e w' ⟨oe,rfl,h1,h2⟩;exact ⟨oe,rfl,h1,h2⟩
theorem K8{P:Nat→Nat}(hP:∀ j,2≤P j∧P j<1048576):gI (fH P r).1=0→(fH P r).1=none:=fun h=>by
 cases r with
 | none=>rfl
 | some x=>exact absurd h (D2 (fun j=>by have:=hP j;omega) x.1 x.2 0)
theorem info127:(prog.info? 127).map (·.size)=some 4:=by kernel_rfl
theorem NR(w:World)(H:Nat)(FC:Array Value)(a b c d:Value)(hr:B.au w H FC 127)(ho:FC.size=4)(h1:a.oneCell'=true∧b.oneCell'=true∧c.oneCell'=true∧d.oneCell'=true):(Instr.storeAt 127 (.pointer (some ⟨H,0,none⟩)) (.agg #[a,b,c,d])).run prog w = .ok () (w.setRow H #[a,b,c,d]):=by
 have:=run_storeVar_row (P:=prog) w H 127 127 FC #[a,b,c,d] hr info127 (by rw [ho];rfl) (by simp [h1.1,h1.2.1,h1.2.2.1,h1.2.2.2])
 simp only [Instr.storeAt,Instr.sureAddr,Sem.run_bind,Sem.run_pure,Result.andThen_ok,this]
theorem jL{w w':World}{fb fg PP:Nat}{T:Nat→Bool}(h:Q.dj w fb fg PP T)(h1:w'.heap[fb]?=w.heap[fb]?)(h2:w'.heap[fg]?=w.heap[fg]?):Q.dj w' fb fg PP T:=by
 refine ⟨h1.trans h.dF,⟨h.Nu.1,?_⟩,h.hi⟩;rcases h.Nu.2 with ⟨h',_⟩ | ⟨g,cap,cur,h',hb,hg,hr⟩
 ·simp at h'
 ·have e:fg=g:=by simp only [Value.slice.injEq,Option.some.injEq,Addr.mk.injEq] at h';exact h'.1.1
  subst e;exact .inr ⟨fg,cap,cur,h',hb,h2.trans hg,hr⟩
theorem sD.lower{w:World}{lo pJ:Nat}{v:Value}{l:List S.Sh}(h:sD w lo v l)(hl:pJ≤lo):sD w pJ v l:=by
 refine ⟨h.1,?_⟩;rcases h.2 with h' | ⟨g,cap,cur,h',h1,h2⟩
 ·exact .inl h'
 ·exact .inr ⟨g,cap,cur,h',ar hl h1,h2⟩
theorem xl{w:World}{tb fb fg PP tx:Nat}{T:Nat→Bool}(hc:Ts base A db F d W0 w tb r)(hQ:Q.Env base A w)(hM:Mp base F tb w fb fg PP T)(hn:dO r≤(Q.dU T PP).length)(P9:dO r≤1000000)(jw:(eJ r).Nodup)(FG:∀ i ∈ eJ r,T i=true):Calls prog 35 #[.pointer (some ⟨tb,0,none⟩),.pointer (some ⟨fb,0,none⟩),.int .u64 (tx:Int)] w fun e w'=>∃ sv,e = .returned (.tuple #[sv,.int .i64 (gI (fH (eB (Q.eT T PP (dO r))) r).1:Int),.nilIface])∧sD w' w.heap.size sv ((fH (eB (Q.eT T PP (dO r))) r).2.map (gK tx))∧Mp base F tb w' fb fg PP (Q.gl T (Q.eT T PP (dO r)))∧B.au w' tb #[.pointer (some ⟨db,0,none⟩),kH (fH (eB (Q.eT T PP (dO r))) r).1] 100∧Dv base A db F d w'∧S.V.Step (fun k=>k=fg∨k=tb) (fun k=>k=fg∨k=tb) w w':=by
 obtain ⟨vi,FL⟩:=qz hM.ok hn jw FG;obtain ⟨L,hL⟩ : ∃ L,L=Q.eT T PP (dO r):=⟨_,rfl⟩;have M8:∀ j,2≤eB L j∧eB L j<1048576:=fun j=>by rw [hL];exact np hM.ok j
 have Zg:Q.jd PP T (dO r:Int)=(none,L,Q.gl T L):=by
  unfold Q.jd;rw [if_neg (by omega),if_neg (by rw [aW];omega),aW,← hL]
 rw [← hL] at vi FL ⊢;have Il:=ab (iz hc (by omega))
 have MH:=ab (Q.wJ base A fb fg PP T (dO r:Int) w hM.map hM.ok hQ);rw [Zg] at MH;have HC:=ab hc;have HM:=ab hM;have HND:=ab vi;have lW:=ab FL;have Ii:=ab M8;have HCB:=ab P9;have MOK:Hid (Q.kn PP (Q.gl T L)):=by
  have hk:=hM.ok;refine ⟨hk.lo,hk.hi,by simp [Q.gl,hk.t0],by simp [Q.gl,hk.t1],fun j hj=>by simp [Q.gl,hk.up j hj]⟩
 obtain ⟨N,hN⟩ : ∃ N,N=dO r:=⟨_,rfl⟩;rw [← hN] at Il MH;clear hc hQ hM hn P9 jw FG vi FL hL M8 Zg hN;go_enter func35,ntmps35;go_wp2_with fail;refine Il.out.mono ?_
 rintro e w1' ⟨rfl,rfl⟩;go_wp2_with fail;refine MH.out.mono ?_
 rintro e w1 ⟨v,rfl,aF,hmap,uz⟩;rw [show gC A none = .nilIface from rfl]
 have Ue:cW w w1:=Mx uz (SQ HM.out.map);have fP:Dv base A db F d w1:=HC.out.dv.only uz HM.out.lo.1 HM.out.nf.1;obtain ⟨rv,ht,hr⟩:=HC.out.tr;have Eg:=ed Ue ht;have fU:=hr.cH Ue;have vh:=gd aF;obtain ⟨pa,pc,kq⟩ : ∃ a c,v = .slice a L.length c:=by
  rcases aF.2 with ⟨h',h0⟩ | ⟨g,cap,cur,h',_⟩
  ·exact ⟨none,0,by rw [h',h0]⟩
  ·exact ⟨_,_,h'⟩
 subst kq;obtain ⟨K,hK⟩ : ∃ K,w1.heap.size=K:=⟨_,rfl⟩;have rZ:B.au (w1.alloc (.cells #[.slice none 0 0,.int .u64 0,.slice none 0 0,.nilIface] 127)) K #[.slice none 0 0,.int .u64 0,.slice none 0 0,.nilIface] 127:=by rw [← hK];exact B.au.new w1 _ _
 have eK:=NR (w1.alloc (.cells #[.slice none 0 0,.int .u64 0,.slice none 0 0,.nilIface] 127)) K _ (.slice pa L.length pc) (.int .u64 (tx:Int)) (.slice none 0 0) .nilIface rZ rfl ⟨rfl,rfl,rfl,rfl⟩;obtain ⟨W2,Lx⟩ : ∃ W2,(w1.alloc (.cells #[.slice none 0 0,.int .u64 0,.slice none 0 0,.nilIface] 127)).setRow K #[.slice pa L.length pc,.int .u64 (tx:Int),.slice none 0 0,.nilIface]=W2:=⟨_,rfl⟩;rw [Lx] at eK;have Lh:=C7 (w1.alloc (.cells #[.slice none 0 0,.int .u64 0,.slice none 0 0,.nilIface] 127)) K #[.slice pa L.length pc,.int .u64 (tx:Int),.slice none 0 0,.nilIface];rw [Lx] at Lh;have WT:=ai w1 (.cells #[.slice none 0 0,.int .u64 0,.slice none 0 0,.nilIface] 127);have aS:Below w1.heap.size w1 W2:=⟨Lh.os.trans WT.os,Lh.tape.trans WT.tape,Lh.output.trans WT.output,ar WT.size Lh.size,fun k hk=>(Lh.block k (aq hk WT.size) (by omega)).trans (WT.block k hk)⟩
 have rK:B.au W2 K #[.slice pa L.length pc,.int .u64 (tx:Int),.slice none 0 0,.nilIface] 127:=by rw [← Lx];exact setRow_heap _ K _ _ _ _ rZ
 have gP:=ab eK;have hP:pR w1 (K+1) K (.slice pa L.length pc) L tx W2 (.slice none 0 0) []:=⟨aS,rK,sD.nil _ _,⟨by omega,by omega⟩,by have:=rK.lt;omega,vh,by have:=lW.out;have:=HCB.out;omega⟩
 have Rr:=ab (Pd fP.aaR Ii.out fU HC.out.ok hP (by have:=lW.out;omega) HND.out)
 have c1:W2.cell? ⟨tb,1,none⟩=some rv:=(Eg.below aS).c1;have Ig:=ab Eg;have tU:=ab fP;have HMP:=ab hmap;have Xs:=ab uz;have HKW:Hid (w.heap.size≤K∧w1.heap.size=K):=⟨by have:=uz.size;omega,hK⟩
 have aah:=fU.form;clear eK Lh WT rZ Lx Ue fP ht hr Eg fU vh aF hmap uz aS rK hP MH Il;rcases aah with rfl | ⟨rt,rx,rfl⟩
 all_goals
  go_wp2_with (refine fe rfl 127 _ _ rfl _ _ rfl rfl gP.out ?_)
  refine Rr.out.mono ?_
  rintro e w3 ⟨s3,rfl,vS,ht3⟩;obtain ⟨sa,sc,PA⟩:=vS.sh.form;rw [az] at PA;subst PA;have htK:tb<K:=by have:=Ig.out.lt;have:=HKW.out.2;omega
  have k3:w3.cell? ⟨K,3,none⟩=some .nilIface:=vS.row.cell 3 (by simp)
  have Tl:=Ig.out.below vS.eZ;have t1:=Tl.c1;have tf:=Tl.free 1;obtain ⟨R,hR⟩ : ∃ R,R=kH (fH (eB L) r).1:=⟨_,rfl⟩;have wg:=ab (Gm (fH (eB L) r).1 (K8 Ii.out) w3);rw [← hR] at wg;have hRf:R = .nilIface∨∃ t x,R = .iface t x:=by
   rw [hR];cases (fH (eB L) r).1 with
   | none=>exact .inl rfl
   | some x=>exact .inr ⟨_,_,rfl⟩
  have dE:=bJ.set tb 1 w3 R;have k2:(w3.setCell ⟨tb,1,none⟩ R).cell? ⟨K,2,none⟩=some (.slice sa (fH (eB L) r).2.length sc):=bL (dE.block K vS.row.lt (by omega)) (vS.row.cell 2 (by simp))
  have me:Hid (sD (w3.setCell ⟨tb,1,none⟩ R) w.heap.size (.slice sa (fH (eB L) r).2.length sc) ((fH (eB L) r).2.map (gK tx))∧Mp base F tb (w3.setCell ⟨tb,1,none⟩ R) fb fg PP (Q.gl T L)∧B.au (w3.setCell ⟨tb,1,none⟩ R) tb #[.pointer (some ⟨db,0,none⟩),kH (fH (eB L) r).1] 100∧Dv base A db F d (w3.setCell ⟨tb,1,none⟩ R)∧S.V.Step (fun k=>k=fg∨k=tb) (fun k=>k=fg∨k=tb) w (w3.setCell ⟨tb,1,none⟩ R)):=by
   have hkw:=HKW.out;have hm:=HM.out;have Z3:=HMP.out.SW;have Ty:=HMP.out.Rz;refine ⟨(vS.sh.same fun g hg=>dE.block g (vS.sh.dF hg).2 (by have:=(vS.sh.dF hg).1;omega)).lower (by omega),⟨jL HMP.out ((dE.block fb (aq Z3 vS.eZ.size) hm.nt.2).trans (vS.eZ.block fb Z3)) ((dE.block fg (aq Ty vS.eZ.size) hm.nt.1).trans (vS.eZ.block fg Ty)),MOK.out,hm.lo,hm.nf,hm.nt⟩,by rw [← hR];exact B.au.one Tl R,(tU.out.below vS.eZ).tree HC.out.lo.1 HC.out.lo.2 1 R,?_⟩
   have ho:=Xs.out;exact ⟨dE.os.trans (vS.eZ.os.trans ho.os),dE.tape.trans (vS.eZ.tape.trans ho.tape),dE.output.trans (vS.eZ.output.trans ho.output),ar (ar ho.size vS.eZ.size) dE.size,fun k hk hnk=>(dE.block k (by have:=vS.eZ.size;omega) (fun e=>hnk (.inr e))).trans ((vS.eZ.block k (by omega)).trans (ho.block k hk (fun e=>hnk (.inl e)))),fun _ h=>.inl h⟩
  clear vS ht3 Tl dE Rr c1 hR;rcases hRf with rfl | ⟨qt,qx,rfl⟩
  all_goals
   go_wp2_with fail;refine wg.out.mono ?_
   rintro e w3' ⟨rfl,rfl⟩;go_wp2;go_ret3;exact ⟨_,rfl,me.out⟩
end
end T
namespace S.V
open Go.RowKit Go.Maps
theorem MA{t:ByteArray}(h:t.size=512)(hz:vq t=true):t=qe:=by
 apply B8
 rw [qe,tK];have:=of_decide_eq_true hz;rw [h] at this;exact this
theorem EL{x:gN}{j:Int}:∀ {l:List gN},(∀ y ∈ l,y.ix≠x.ix)→(qA x l).find? (fun y=>decide (y.ix=j))=if x.ix=j then some x else l.find? (fun y=>decide (y.ix=j))
 | [],_=>by unfold qA;rw [ky];by_cases hx:x.ix=j <;> simp [hx]
 | y::r,h=>by
  unfold qA;split
  ·rw [ky];by_cases hx:x.ix=j <;> simp [hx]
  ·rw [ky,EL (fun z hz=>h z (by simp [hz]))]
   by_cases hx:x.ix=j
   ·have hy:y.ix≠j:=fun e=>h y (by simp) (e.trans hx.symm)
    simp [hx,hy]
   ·simp [hx,List.find?_cons]
theorem tD{i j:Int}:∀ l:List gN,(jC i l).find? (fun y=>decide (y.ix=j))=if i=j then none else l.find? (fun y=>decide (y.ix=j))
 | []=>by simp [jC]
 | y::r=>by
  have ih:=tD (i:=i) (j:=j) r;unfold jC at ih ⊢;rw [List.filter_cons];by_cases hy:y.ix=i
  ·simp only [hy,ne_eq,not_true_eq_false,decide_false,kF,if_false,ih,ky];by_cases TH:i=j <;> simp [TH]
  ·simp only [ne_eq,hy,not_false_eq_true,decide_true,if_true,ky,ih];by_cases hyj:y.ix=j
   ·have:i≠j:=fun e=>hy (hyj.trans e.symm)
    simp [hyj,this]
   ·simp [hyj]
theorem uw(l:List gN)(i j:Int)(t:ByteArray)(ht:t.size=512):fB (ri l i t) j=if i=j then t else fB l j:=by
 unfold fB ri;cases hz:vq t
 ·rw [if_neg (by simp),EL (fun y hy=>(pD hy).2),tD]
  by_cases h:i=j <;> simp [h]
 ·rw [if_pos rfl,tD];by_cases h:i=j
  ·simp [h,(MA ht hz).symm]
  ·simp [h]
theorem tZ(eN:List gN)(a:Int)(p:List UInt8)(hl:p.length=4096):∀ n:Nat,n≤8→∀ j:Int,fB (gR eN (chunks a p n)) j=if a≤j∧j<a+n then GJ ((p.drop ((j - a).toNat*512)).take 512) else fB eN j:=by
 intro n;induction n with
 | zero =>
  intro _ j;rw [if_neg (by omega)];rfl
 | succ n ih =>
  intro hn j;have hs:(GJ ((p.drop (n*512)).take 512)).size=512:=by rw [ow,ag,ao];omega
  rw [uN,qk,chunk,uw _ _ _ _ hs,ih (by omega) j]
  by_cases h1:a+(n:Int)=j
  ·subst h1;rw [if_pos rfl,if_pos ⟨by omega,by omega⟩,show (a+(n:Int) - a).toNat=n by omega]
  ·rw [if_neg h1];by_cases h2:a≤j∧j<a+(n:Int)
   ·rw [if_pos h2,if_pos ⟨h2.1,by omega⟩]
   ·rw [if_neg h2,if_neg (by omega)]
theorem EK(p:List UInt8):∀ n:Nat,(List.range n).flatMap (fun i:Nat=>(p.drop (i*512)).take 512)=p.take (n*512):=by
 intro n;induction n with
 | zero=>simp
 | succ n ih =>
  rw [List.range_succ,aR,ih,Nat.succ_mul,List.take_add];simp
end S.V
namespace T
open Go.RowKit
theorem lN(x:S.V.gN)(i:Int):∀ l:List S.V.gN,S.V.eC (l++[x]) i=if x.ix=i then some l.length else S.V.eC l i
 | []=>by
  simp only [List.nil_append,S.V.eC,List.length_nil]
 | y::l=>by
  simp only [List.cons_append,S.V.eC,lN x i l,List.length_cons];by_cases h:x.ix=i
  ·simp [h]
  ·simp [h]
theorem kS(i:Int):∀ (l:List S.V.gN) (k:Nat),S.V.eC l i=some k→k<l.length
 | [],k,h=>by simp [S.V.eC] at h
 | y::l,k,h=>by
  simp only [S.V.eC] at h;cases hq:S.V.eC l i with
  | none =>
   rw [hq] at h;simp only at h;split at h
   ·cases h;simp
   ·cases h
  | some q =>
   rw [hq] at h;cases h;have:=kS i l q hq;simp only [List.length_cons];omega
def Bl(eN aX:List S.V.gN)(i:Int):ByteArray:=match S.V.eC aX i with | some k=>((aX[k]?).map S.V.gN.lx).getD S.V.qe | none=>S.V.fB eN i
theorem C6(eN l:List S.V.gN)(x:S.V.gN)(i:Int):Bl eN (l++[x]) i=if x.ix=i then x.lx else Bl eN l i:=by
 unfold Bl;rw [lN];by_cases h:x.ix=i
 ·rw [if_pos h,if_pos h];simp
 ·rw [if_neg h,if_neg h];cases hq:S.V.eC l i with
  | none=>rfl
  | some k =>
   have:=kS i l k hq;simp only [bD this]
theorem ue(eN:List S.V.gN)(i:Int):∀ n (l:List S.V.gN),l.length=n→(∀ x ∈ l,x.lx.size=512)→Bl eN l i=S.V.fB (S.V.gR eN l) i
 | 0,l,hl,_=>by
  have:l=[]:=List.length_eq_zero_iff.1 hl;subst this;rfl
 | n+1,l,hl,hs=>by
  have dH:l≠[]:=fun e=>by rw [e] at hl;cases hl
  have e:=iB dH;have h1:l.dropLast.length=n:=by rw [List.length_dropLast];omega
  have h2:(l.getLast dH).lx.size=512:=hs _ (List.getLast_mem dH);rw [← e,C6,S.V.qk,S.V.uw _ _ _ _ h2,ue eN i n l.dropLast h1 (fun x hx=>hs x (List.dropLast_subset l hx))]
theorem o7(d:S.V.bw)(hs:∀ x ∈ d.aX,x.lx.size=512)(s:Int)(n:Nat):S.V.iQ d s n=(List.range n).flatMap fun i:Nat=>S.V.bl (S.V.fB (S.V.gR d.eN d.aX) (s+(i:Int))):=by
 have e:∀ i:Int,S.V.gm d i=S.V.fB (S.V.gR d.eN d.aX) i:=fun i=>ue d.eN i _ d.aX rfl hs
 unfold S.V.iQ;simp only [e]
def qp(d:S.V.bw)(s:S.Sh):S.V.bw:={ d with aX:=d.aX++S.V.chunks (s.id*8) (S.ia s) 8,nw:=wrap64 (d.nw+8) }
theorem Dp{d:S.V.bw}{s:S.Sh}(hm:S.sF s)(hs:∀ x ∈ d.aX,x.lx.size=512):∀ x ∈ (qp d s).aX,x.lx.size=512:=fun x hx=>by
 rcases List.mem_append.1 hx with h | h
 ·exact hs x h
 ·obtain ⟨i,hi,rfl⟩:=List.mem_map.1 h;have G9:=List.mem_range.1 hi;have hl:=S.mq s hm;show (S.V.GJ (((S.ia s).drop (i*512)).take 512)).size=512
  rw [S.V.ow,ag,ao];omega
theorem EH{α β:Type}{l:List α}{f g:α→List β}(h:∀ a ∈ l,f a=g a):l.flatMap f=l.flatMap g:=by
 induction l with
 | nil=>rfl
 | cons a l ih=>rw [List.flatMap_cons,List.flatMap_cons,h a (by simp),ih fun b hb=>h b (by simp [hb])]
theorem Og{d:S.V.bw}{s:S.Sh}(hm:S.sF s)(hs:∀ x ∈ d.aX,x.lx.size=512)(i:Int):S.V.iQ (qp d s) (i*8) 8=if i=s.id then S.ia s else S.V.iQ d (i*8) 8:=by
 have hl:=S.mq s hm;rw [o7 _ (Dp hm hs)];have e1:S.V.gR (qp d s).eN (qp d s).aX=S.V.gR (S.V.gR d.eN d.aX) (S.V.chunks (s.id*8) (S.ia s) 8):=by
  show List.foldl _ _ (_++_)=_
  rw [gx];rfl
 rw [e1];by_cases h:i=s.id
 ·rw [if_pos h,h];have e:(List.range 8).flatMap (fun j:Nat=>S.V.bl (S.V.fB (S.V.gR (S.V.gR d.eN d.aX) (S.V.chunks (s.id*8) (S.ia s) 8)) (s.id*8+(j:Int))))=(List.range 8).flatMap (fun j:Nat=>((S.ia s).drop (j*512)).take 512):=by
   apply EH
   intro j hj;have hj8:j<8:=List.mem_range.1 hj;rw [S.V.tZ _ _ _ hl 8 (by decide),if_pos ⟨by omega,by omega⟩,S.V.tK,show (s.id*8+(j:Int) - s.id*8).toNat=j by omega]
  rw [e,S.V.EK,al (by rw [hl];decide)]
 ·rw [if_neg h,o7 d hs];apply EH
  intro j hj;have hj8:j<8:=List.mem_range.1 hj;rw [S.V.tZ _ _ _ hl 8 (by decide),if_neg (by omega)]
theorem Ap{d d':S.V.bw}{id:Int}(hz:d'.size=d.size)(hr:S.V.iQ d' (id*8) 8=S.V.iQ d (id*8) 8):cM d' id=cM d id:=by
 have e:(∃ p s,fC d' id s∧gF s p)=(∃ p s,fC d id s∧gF s p):=by
  apply propext
  constructor
  ·rintro ⟨p,s,⟨h1,h2,h3,h4,h5⟩,h6⟩;exact ⟨p,s,⟨h1,h2,h3,by rw [← hz];exact h4,by rw [h3] at h5 ⊢;rw [← hr];exact h5⟩,h6⟩
  ·rintro ⟨p,s,⟨h1,h2,h3,h4,h5⟩,h6⟩;exact ⟨p,s,⟨h1,h2,h3,by rw [hz];exact h4,by rw [h3] at h5 ⊢;rw [hr];exact h5⟩,h6⟩
 have e2:(fun p=>∃ s,fC d' id s∧gF s p)=(fun p=>∃ s,fC d id s∧gF s p):=by
  funext p
  apply propext
  constructor
  ·rintro ⟨s,⟨h1,h2,h3,h4,h5⟩,h6⟩;exact ⟨s,⟨h1,h2,h3,by rw [← hz];exact h4,by rw [h3] at h5 ⊢;rw [← hr];exact h5⟩,h6⟩
  ·rintro ⟨s,⟨h1,h2,h3,h4,h5⟩,h6⟩;exact ⟨s,⟨h1,h2,h3,by rw [hz];exact h4,by rw [h3] at h5 ⊢;rw [hr];exact h5⟩,h6⟩
 unfold cM;by_cases h:∃ p s,fC d id s∧gF s p
 ·rw [dif_pos (e▸h),dif_pos h];congr 1
  simp only [e2]
 ·rw [dif_neg (e▸h),dif_neg h]
theorem Lj{s:S.Sh}{p q:PD}(h1:gF s p)(h2:gF s q):p=q:=by
 rcases h1 with ⟨a1,_,a3⟩ | ⟨a1,_,a3⟩ <;> rcases h2 with ⟨b1,_,b3⟩ | ⟨b1,_,b3⟩
 ·rw [a3,b3]
 ·rw [a1] at b1;cases b1
 ·rw [a1] at b1;cases b1
 ·rw [a3,b3]
theorem SI{d:S.V.bw}{s:S.Sh}{p:PD}(h:fC d s.id s)(hh:gF s p):cM d s.id=some p:=by
 have hx:∃ p s',fC d s.id s'∧gF s' p:=⟨p,s,h,hh⟩;unfold cM;rw [dif_pos hx];obtain ⟨s',h1,h2⟩:=Classical.choose_spec hx;congr 1
 have e:s'=s:=by
  have a1:=S.lf s' h1.1 h1.2.1;have a2:=S.lf s h.1 h.2.1;have b1:=h1.2.2.2.2;have b2:=h.2.2.2.2;rw [h1.2.2.1] at b1;rw [← a1,← a2,← b1,← b2]
 rw [e] at h2;exact Lj h2 hh
end T
end Go.Proofs.YtihmgigfkmofnaaGreatDoor
namespace Go.Proofs.YtihmgigfkmofnaaGreatDoor.T
open Go.RowKit
theorem JW(d:S.V.bw)(s:S.Sh)(hm:S.sF s)(hd:d.dead=false)(ha:d.eX=[])(eM:(s.id+1)*8≤d.size):d.write (s.id*8) (S.ia s)=(qp d s,0):=by
 obtain ⟨sz,eN,aX,eX,dead,nr,nw,ns⟩:=d;simp only at hd ha eM;subst hd ha;have hl:=S.mq s hm;have h2:=hm.2.2.1;have hf:S.V.bw.fits ⟨sz,eN,aX,[],false,nr,nw,ns⟩ (s.id*8) ((8:Nat):Int)=true:=by
  simp only [S.V.bw.fits,decide_eq_true_eq];omega
 simp only [S.V.bw.write,hl,qp];rw [if_neg (by simp),if_neg (by rw [show 4096 / 512=8 from rfl,hf];simp)]
 rfl
end Go.Proofs.YtihmgigfkmofnaaGreatDoor.T
namespace Go.Proofs.YtihmgigfkmofnaaGreatDoor.S
open Go.RowKit
theorem Km(base:Nat)(A:Nat→Addr)(db:Nat)(F:Nat→Prop)(d:V.bw)(s:Sh)(w:World)(hs:s.body.size≤140737488355328)(hx:s.pG<18446744073709551616)(hd:V.cL w db F d)(hE:Env base A w)(hF:∀ k,F k→base≤k)(hp:d.aX.length≤1000000)(AU:d.dead=false)(ha:d.eX=[]):Calls prog 62 #[.pointer (some ⟨db,0,none⟩),.agg s.cells.toArray] w fun e w'=>(e = .returned .nilIface∧(sF s∧(s.id+1)*8≤d.size)∧∃ F',V.cL w' db F' (T.qp d s)∧V.Step F F' w w')∨(¬ (sF s∧(s.id+1)*8≤d.size)∧e = .returned (.iface 360 (.pointer (some (A 0))))∧Below w.heap.size w w'):=by
 have HE:=ab hE;have HD:=ab hd;have HFB:=ab hF;obtain ⟨k,i,t,c,b⟩:=s;have HX:Hid (Boxed w.heap.size [.int .i64 k,.int .i64 i,.int .u64 (t:Int),.int .i64 c,.string b] (w.alloc (.cells #[.int .i64 k,.int .i64 i,.int .u64 (t:Int),.int .i64 c,.string b] 87))):=bM w _ _;have HB:=ab (ai w (.cells #[.int .i64 k,.int .i64 i,.int .u64 (t:Int),.int .i64 c,.string b] 87));by_cases hm:sF ⟨k,i,t,c,b⟩
 ·have HS:Hid (∀ w,Lay w→Fk w→Calls prog 96 #[.agg #[.int .i64 k,.int .i64 i,.int .u64 (t:Int),.int .i64 c,.string b]] w fun e w'=>∃ g,e = .returned (.tuple #[.slice (some ⟨g,0,none⟩) 4096 4096,.nilIface])∧cF w' g (ia ⟨k,i,t,c,b⟩)∧w.heap.size≤g∧Below w.heap.size w w'):=fun w h1 h2=>Sw ⟨k,i,t,c,b⟩ w hm hx h1 h2
  have pS:Hid ((ia ⟨k,i,t,c,b⟩).length=4096):=mq _ hm;have Cs:0≤i:=by have:=hm.2.2.1;simp only at this;omega
  have vm:i<1048576:=hm.2.2.1.2;have HM:=ab hm;have HWR:Hid ((i+1)*8≤d.size→d.write (i*8) (ia ⟨k,i,t,c,b⟩)=(T.qp d ⟨k,i,t,c,b⟩,0)):=fun h=>T.JW d ⟨k,i,t,c,b⟩ hm AU ha h
  have RZ:Hid (d.aX.length≤1000000∧d.eX=[]):=⟨hp,ha⟩;clear hE hd hF hs hx hm hp AU ha;generalize AP:ia ⟨k,i,t,c,b⟩=pg at *;clear AP;show Calls prog 62 #[.pointer (some ⟨db,0,none⟩),.agg #[.int .i64 k,.int .i64 i,.int .u64 (t:Int),.int .i64 c,.string b]] w _
  go_enter func62,ntmps62;go_wp2_with fail;refine (HS.out _ (HE.out.up HB.out).lay (HE.out.up HB.out).tab).mono ?_
  rintro e w1 ⟨g,rfl,bE,hg,aM⟩;have zL:=ab (HX.out.below aM);have bN:=ab (Below.next HB.out aM);have mO:=ab bE;have HG:Hid (w.heap.size<g):=by have:=HX.out.1;show _<_;omega
  have c1:w1.cell? ⟨w.heap.size,1,none⟩=some (.int .i64 i):=zL.out.2 1 (by simp)
  clear bE hg aM HX HB;have VL:=ab (HD.out.below bN.out);by_cases eM:(i+1)*8≤d.size
  ·go_wp2_with fail;refine (ng db F d i _ VL.out Cs vm).mono ?_
   rintro e w1' ⟨rfl,rfl⟩;rw [decide_eq_true eM];go_wp2_with fail;refine (tC i _ Cs (by omega)).mono ?_
   rintro e w1' ⟨rfl,rfl⟩;have W:=V.JX base A db F d w1 VL.out (HE.out.up bN.out).errs HFB.out (i*8) (.slice (some ⟨g,0,none⟩) 4096 4096) pg ⟨some ⟨g,0,none⟩,4096,g,by rw [pS.out],by rw [pS.out];decide,by rw [pS.out];decide,fun _=>⟨rfl,fun hf=>by have:=HD.out.lt g hf;have:=HG.out;omega⟩,mO.out.cell⟩ (by rw [pS.out];have:=RZ.out.1;omega) (by rw [RZ.out.2];exact V.xC base A db)
   rw [HWR.out eM] at W;have HW:Hid (Calls prog 98 #[.pointer (some ⟨db,0,none⟩),.int .i64 (i*8),.slice (some ⟨g,0,none⟩) 4096 4096] w1 fun e w'=>e = .returned .nilIface∧∃ F',V.cL w' db F' (T.qp d ⟨k,i,t,c,b⟩)∧V.Step F F' w1 w'):=W
   clear W;go_wp2_with fail;refine Calls.mono HW.out ?_
   rintro e w2 ⟨rfl,F',Jo,jv⟩;have mP:Hid (∃ F',V.cL w2 db F' (T.qp d ⟨k,i,t,c,b⟩)∧V.Step F F' w w2):=⟨F',Jo,(V.Step.bo bN.out).trans jv⟩;clear Jo jv;go_wp2_with fail;go_ret;exact .inl ⟨rfl,⟨HM.out,eM⟩,mP.out⟩
  ·have cE:w1.cell? ⟨0,0,none⟩=some (.iface 360 (.pointer (some (A 0)))):=(HE.out.up bN.out).errs.arg;have HDF:Hid (decide ((i+1)*8≤d.size)=false):=decide_eq_false eM;have Ux:Hid (¬ (sF ⟨k,i,t,c,b⟩∧(i+1)*8≤d.size)):=fun h=>eM h.2
   clear eM;go_wp2_with fail;refine (ng db F d i _ VL.out Cs vm).mono ?_
   rintro e w1' ⟨rfl,rfl⟩;rw [HDF.out];go_wp2_with fail;go_ret;exact .inr ⟨Ux.out,rfl,bN.out⟩
 ·have HS:Hid (∀ w,w.cell? ⟨0,0,none⟩=some (.iface 360 (.pointer (some (A 0))))→Calls prog 96 #[.agg #[.int .i64 k,.int .i64 i,.int .u64 (t:Int),.int .i64 c,.string b]] w fun e w'=>e = .returned (.tuple #[.slice none 0 0,.iface 360 (.pointer (some (A 0)))])∧Below w.heap.size w w'):=fun w hc=>Sx (A 0) ⟨k,i,t,c,b⟩ w hs hm hc
  have Ux:Hid (¬ (sF ⟨k,i,t,c,b⟩∧(i+1)*8≤d.size)):=fun h=>hm h.1
  clear hE hd hF hs hx hm hp AU ha;show Calls prog 62 #[.pointer (some ⟨db,0,none⟩),.agg #[.int .i64 k,.int .i64 i,.int .u64 (t:Int),.int .i64 c,.string b]] w _
  go_enter func62,ntmps62;go_wp2_with fail;refine (HS.out _ (HE.out.up HB.out).errs.arg).mono ?_
  rintro e w1 ⟨rfl,aM⟩;have bN:=ab (Below.next HB.out aM);clear aM;go_wp2_with fail;go_ret;exact .inr ⟨Ux.out,rfl,bN.out⟩
end Go.Proofs.YtihmgigfkmofnaaGreatDoor.S
