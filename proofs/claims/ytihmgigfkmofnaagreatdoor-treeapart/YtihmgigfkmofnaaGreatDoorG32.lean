import Derived.Test.YtihmgigfkmofnaaGreatDoorG31
set_option maxHeartbeats 4000000
set_option maxRecDepth 100000
open Go.Proofs.Tryz
namespace Go.Proofs.YtihmgigfkmofnaaGreatDoor
namespace T
open Go.RowKit
section
variable {PG:Int→Option PD} {w0:World} {lo pb:Nat} {pv:Value} {P:List Nat} {tx:Nat} {h:Nat} {w:World} {sv:Value} {Z Z1:List S.Sh}
theorem pH.setRow{H:Nat}{cs:Array Value}{sx:Value}{wx:World}(hp:pH w0 lo pb pv P tx wx sx Z1)(ht:mx pb w sv wx sx)(Bw:w.heap.size≤H)(hw0:w0.heap.size≤w.heap.size)(Fh:H≠pb)(fJ:sx.ownBlock≠some H):pH w0 lo pb pv P tx (wx.setRow H cs) sx Z1∧mx pb w sv (wx.setRow H cs) sx:=by
 have dC:=CG wx H cs;have h3:=hp;refine ⟨⟨⟨dC.os.trans h3.ew.os,dC.tape.trans h3.ew.tape,dC.output.trans h3.ew.output,ar h3.ew.size dC.size,fun k hk=>(dC.block k (aq hk h3.ew.size) (by omega)).trans (h3.ew.block k hk)⟩,(dC.block pb h3.row.lt (fun e=>Fh e.symm)).trans h3.row,h3.sh.same fun g' zb=>dC.block g' (h3.sh.dr zb).2 (fun e=>fJ (e▸zb)),h3.ord,ar h3.lo dC.size,h3.pg,h3.pl⟩,?_⟩
 exact ⟨ar ht.size dC.size,fun k hk h1 h2=>(dC.block k (aq hk ht.size) (by omega)).trans (ht.block k hk h1 h2),ht.own⟩
theorem A0(A:Nat→Addr){b:Nat}{n:SN}{xv lv cv:Value}{f:Int}{lk:List B.Lk}(xB:dH w0 b n xv lv cv)(hu:¬ n.us.length=0)(hE:B.pJ A w0)(hP:pH w0 lo pb pv P tx w sv Z)(hbo:∀ W,Below w.heap.size w W→Calls prog 184 #[.pointer (some ⟨pb,0,none⟩),.pointer (some ⟨b,0,none⟩)] W fun e w'=>∃ nZ Sp,e = .returned (.agg #[.int .i64 f,Sp])∧B.di w' Sp lk∧pH w0 lo pb pv P tx w' nZ Z1∧mx pb W sv w' nZ)(lu:B.mX f lk true=none)(mf:lk.length≤4000):Calls prog 149 #[.pointer (some ⟨pb,0,none⟩),.pointer (some ⟨b,0,none⟩)] w fun e w'=>∃ Xg,e = .returned (.agg #[.int .i64 66,.int .i64 0,.int .u64 0,.int .i64 ((lk.length:Int)+1),.string (B.pF f lk)])∧pH w0 lo pb pv P tx w' Xg Z1∧mx pb w sv w' Xg:=by
 obtain ⟨W1,gF⟩ : ∃ W1,w.alloc (.cells #[.int .i64 0,.int .i64 0,.int .u64 0,.int .i64 0,.string ⟨#[]⟩] 87)=W1:=⟨_,rfl⟩;have aL:Below w.heap.size w W1:=gF▸ai w _;have r1:B.au W1 w.heap.size #[.int .i64 0,.int .i64 0,.int .u64 0,.int .i64 0,.string ⟨#[]⟩] 87:=gF▸B.au.new w _ _;obtain ⟨H,hH⟩ : ∃ H,w.heap.size=H:=⟨_,rfl⟩;rw [hH] at r1;have kn:=(xB.below hP.ew).below aL;have su:=ab (cB b n xv lv cv W1 kn);rw [show decide (n.us.length=0)=false by simp [hu]] at su
 have XV:=ab (hbo W1 aL);have nH:=ab r1;have bP:=ab aL;have HP:=ab hP;have nO:=ab lu;have Fu:=ab mf;have HE:=ab hE;have HHP:Hid (w.heap.size=H∧H≠pb∧sv.ownBlock≠some H∧H<W1.heap.size):=⟨hH,by have:=hP.row.lt;omega,fun e=>by have:=(hP.sh.dr e).2;omega,r1.lt⟩
 have HMK:Hid (B.UX lk):=fun p hp=>by
  have:=(B.kN lu).2.2.1 p hp;have:=B.kV this;omega
 clear xB kn hE lu aL r1 hu hP hbo mf;go_enter func149,ntmps149;go_wp2_with fail;refine su.out.mono ?_
 rintro e w1' ⟨rfl,rfl⟩;go_wp2_with fail;refine XV.out.mono ?_
 rintro e w2 ⟨s2,l2,rfl,K4,Xs,sX⟩;obtain ⟨la,lc,pD⟩:=K4.form;subst pD;obtain ⟨W3,MJ⟩ : ∃ W3,w2.alloc (.cells #[.int .i64 f,.slice la lk.length lc] 150)=W3:=⟨_,rfl⟩;have bT:Below w2.heap.size w2 W3:=MJ▸ai w2 _;obtain ⟨K,hK⟩ : ∃ K,w2.heap.size=K:=⟨_,rfl⟩;have rK:B.au W3 K #[.int .i64 f,.slice la lk.length lc] 150:=by rw [← hK];exact MJ▸B.au.new w2 _ _
 have vz:=Xs.below bT;have Rq:=HHP.out;have r2:B.au w2 H #[.int .i64 0,.int .i64 0,.int .u64 0,.int .i64 0,.string ⟨#[]⟩] 87:=(sX.block H Rq.2.2.2 Rq.2.1 Rq.2.2.1).trans nH.out;have Za:s2.ownBlock≠some H:=fun e=>by
  rcases sX.own H e with e' | e'
  ·exact Rq.2.2.1 e'
  ·have:=Rq.2.2.2;omega
 have Vd:=ab (B.Qs A f _ lk W3 HMK.out (by have:=Fu.out;omega) (K4.below bT) (HE.out.below vz.ew))
 have k0:=rK.c0;have k1:=rK.c1;have Rw:=ab (r2.below bT);have HRK:=ab rK;have HP3:=ab vz;have HT3:=ab ((mx.below sv bP.out).trans (sX.trans (mx.below s2 bT)));have kB:=ab Za;clear K4 Xs sX bT rK vz r2 Rq Za XV su;go_wp2_with fail;refine Vd.out.mono ?_
 rintro e w4 ⟨he,gj⟩;rcases he with ⟨_,rfl⟩ | ⟨k,hk,_⟩
 ·have r4:=Rw.out.below gj;have k1':=(HRK.out.below gj).c1;have fj:=CE w4 H _ (.int .i64 66) (.int .i64 0) (.int .u64 0) (.int .i64 ((lk.length:Int)+1)) (.string (B.pF f lk)) r4 rfl ⟨rfl,rfl,rfl,rfl,rfl⟩;have gS:=ab fj;have HR4:=ab r4;have HP4:=ab (HP3.out.below gj);have HT4:=ab (HT3.out.trans (mx.below s2 gj));have aiE:(1:Int)+(lk.length:Int)=(lk.length:Int)+1:=by omega
  have UC:(lk.length:Int)≤4000:=by have:=Fu.out;omega
  have Rh:(0:Int)≤(lk.length:Int):=by omega
  clear gj Vd fj r4;go_wp2_with fail;refine (zR pb w4).mono ?_
  rintro e w4' ⟨rfl,rfl⟩;go_wp2_with (refine eV rfl 87 _ _ rfl _ _ rfl rfl gS.out ?_)
  have gY:=pH.setRow (cs:=#[.int .i64 66,.int .i64 0,.int .u64 0,.int .i64 ((lk.length:Int)+1),.string (B.pF f lk)]) HP4.out HT4.out (by have:=HHP.out.1;omega) HP.out.ew.size HHP.out.2.1 kB.out
  refine bodyPost_ret (results_cell_row rfl _ _ H 87 _ (0,0) _ rfl (NH w4 H _ _ HR4.out) underlying87 rfl info87) rfl ?_
  exact ⟨s2,rfl,gY.1,gY.2⟩
 ·rw [nO.out] at hk;cases hk
theorem C7{k:Nat}(hk:k<P.length):P[k]?=some (fe P k):=by
 unfold fe;rw [aJ,af hk];rfl
theorem OI(id:Int)(w:World):Calls prog 72 #[.pointer (some ⟨pb,0,none⟩),.iface 146 (.int .i64 id)] w fun e w'=>e = .returned (.int .i64 id)∧w=w':=by
 have a1:=fun W=>Qx (.int .i64 id) W
 go_enter func72,ntmps72;go_wp2;go_ret;exact ⟨rfl,rfl⟩
theorem OJ{b:Nat}{Q:Ending→World→Prop}(hl:Calls prog 112 #[.pointer (some ⟨pb,0,none⟩),.pointer (some ⟨b,0,none⟩)] w fun e w'=>(∃ id:Int,e = .returned (.int .i64 id))∧Q e w'):Calls prog 72 #[.pointer (some ⟨pb,0,none⟩),.iface 152 (.pointer (some ⟨b,0,none⟩))] w Q:=by
 have HL:=ab hl;have a1:=fun W=>Jp (.pointer (some ⟨b,0,none⟩)) W
 have a2:=fun W=>Qy (.pointer (some ⟨b,0,none⟩)) W
 clear hl;go_enter func72,ntmps72;go_wp2_with fail;refine HL.out.mono ?_
 rintro e w1 ⟨⟨id,rfl⟩,hq⟩;have HQ:=ab hq;clear hq HL;go_wp2;exact HQ.out
theorem ry(A:Nat→Addr)(hE:B.pJ A w0)(ML:∀ j,2≤fe P j∧fe P j<1048576):∀ h,TN PG w0 lo pb pv P tx h
 | 0=>fun p t w sv Z hk ho hP xK jo=>by
  cases p with
  | pg id =>
   have hk:gA PG 0 id t:=hk;have h0:¬ t.1=0:=by have:=hk.1;have:=hk.2.1;omega
   have e1:(aW (fe P) 0 t Z.length)=(t,[]):=if_neg h0;have e2:(ft 0 t:Int)=id:=hk.2.1;rw [e1];refine (OI id w).mono ?_
   rintro e w' ⟨rfl,rfl⟩;exact ⟨sv,by rw [e2],by simpa using hP,mx.refl _ _ _⟩
  | nd b =>
   obtain ⟨h0,n,xv,lv,cv,xB,hn⟩:=hk;have h0:t.1=0:=h0;have Av:iX 0 t=1:=if_pos h0;have e1:(aW (fe P) 0 t Z.length)=((fe P Z.length,t.2),[(fe P Z.length,.leaf t.2)]):=if_pos h0;have j6:n.ps=t.2:=hn.2;have lu:zh n.ps true=none:=by rw [j6];exact Dg ho
   rw [e1];refine OJ ((tU (Z1:=Z) b 76 (n.ps.length:Int) (tk n.ps) hP ((FN A pb b n xv lv cv w (xB.below hP.ew) hn.1 (hE.c.below hP.ew) lu).mono ?_) (fe P Z.length) (C7 (by omega))).mono ?_)
   ·rintro e w' ⟨rfl,hb⟩;exact ⟨sv,rfl,hP.below hb,mx.below sv hb⟩
   ·rintro e w' ⟨nZ,rfl,h1,h2⟩;rw [j6] at h1;exact ⟨⟨_,rfl⟩,nZ,rfl,h1,h2⟩
 | h+1=>fun p t w sv Z hk ho hP xK jo=>by
  cases p with
  | pg id =>
   have hk:gA PG (h+1) id t:=hk;have h0:¬ t.1=0:=by have:=hk.1;have:=hk.2.1;omega
   have e1:(aW (fe P) (h+1) t Z.length)=(t,[]):=if_neg h0;have e2:(ft (h+1) t:Int)=id:=hk.2.1;rw [e1];refine (OI id w).mono ?_
   rintro e w' ⟨rfl,rfl⟩;exact ⟨sv,by rw [e2],by simpa using hP,mx.refl _ _ _⟩
  | nd b =>
   obtain ⟨h0,n,xv,lv,cv,xB,hn⟩:=hk;have h0:t.1=0:=h0;have Av:iX (h+1) t=(t.2.2.map (iX h)).sum+1:=if_pos h0;obtain ⟨R,hR⟩ : ∃ R,R=bY (aW (fe P) h) t.2.2 Z.length:=⟨_,rfl⟩;have e1:(aW (fe P) (h+1) t Z.length)=((fe P (Z.length+R.2.length),t.2.1,R.1),R.2++[(fe P (Z.length+R.2.length),.br (lN R.1) (qj t.2.1 R.1))]):=by rw [hR];exact if_pos h0
   have hRl:R.2.length=(t.2.2.map (iX h)).sum:=by rw [hR];exact rB (oX h) t.2.2 Z.length
   rw [e1] at jo ⊢;have Zf:(R.1.flatMap (dB h)).Nodup:=by
    have h9:(cY (fe P (Z.length+R.2.length))++R.1.flatMap (dB h)).Nodup:=jo;exact h9.sublist (dz _ _)
   obtain ⟨⟨pz,mh,cN⟩,b7,kn⟩:=ho;have O9:=(fu h t pz mh).1 cN;have SR:gR (kO h) pz mh t.2.1 R.1:=by
    rw [hR];exact vr (fun t k lo hi hf=>⟨ql h t k lo hi hf.1,by unfold Full;rw [Bh];exact hf.2⟩) t.2.2 t.2.1 Z.length pz mh O9
   have MD:n.us.length=t.2.2.length:=hn.1;have ju:t.2.1=n.lk.map (·.1):=hn.2.2.2.1;have acG:∀ c ∈ R.1,2≤ft h c∧ft h c<1048576:=fun c' ub=>by
    obtain ⟨i,hi,hv⟩:=aQ ub;have Pl:i<t.2.2.length:=by rw [hR,ik] at hi;exact hi
    have Le:t.2.2[i]?=some t.2.2[i]:=af Pl;obtain ⟨ki,g1,_⟩:=rA (aW (fe P) h) t.2.2 Z.length i _ Le;rw [← hR,af hi,hv] at g1;cases g1;obtain ⟨q,hq⟩ : ∃ q,n.us[i]?=some q:=⟨_,af (by omega)⟩
    exact Ac ML (hn.qL hq Le) ki
   have lu:B.mX (lN R.1) (qj t.2.1 R.1) true=none:=Qq SR b7 kn acG Zf;have hlen:(qj t.2.1 R.1).length=n.lk.length:=by rw [vq _ _ (jO SR),ju,az]
   have hu0:¬ n.us.length=0:=fun e=>hn.2.1 (List.length_eq_zero_iff.1 e)
   refine OJ ((tU (Z1:=Z++R.2.map (jT tx)) b 66 (((qj t.2.1 R.1).length:Int)+1) (B.pF (lN R.1) (qj t.2.1 R.1)) hP (A0 A xB hu0 hE hP (fun W hW=>?_) lu (by rw [hlen];exact xB.fine.2.2.2.1)) (fe P (Z.length+R.2.length)) (by rw [ae,az];exact C7 (by omega))).mono ?_)
   ·have:=nc (ry A hE ML h) xB hn ⟨⟨pz,mh,cN⟩,b7,kn⟩ (hP.below hW) (by rw [← hR];exact Zf) (by omega)
    rw [← hR] at this;exact this
   ·rintro e w' ⟨nZ,rfl,h1,h2⟩;refine ⟨⟨_,rfl⟩,nZ,rfl,?_,h2⟩;rw [bt,← ax];exact h1
end
theorem Sk{w:World}{fb fg PP:Nat}{T:Nat→Bool}(h:Q.eT w fb fg PP T):QF w fg:=by
 rcases h.QZ.2 with ⟨h',_⟩ | ⟨g,cap,cur,h',hb,hg,hn,hm,hs,ht⟩
 ·simp at h'
 ·simp only [Value.slice.injEq,Option.some.injEq,Addr.mk.injEq] at h';obtain ⟨⟨rfl,_⟩,_,rfl⟩:=h';have df:cur.toList=Q.kh T (Q.nW PP):=by
   rw [← ht,al (by simp [hs])]
  refine ⟨fun j u hc=>?_,fun cs fr e=>?_,fun cs fr e=>?_⟩
  ·rw [cell_of_row w _ j cur _ _ hg] at hc;obtain ⟨h3,h4⟩:=Array.getElem?_eq_some_iff.1 hc;have hu:u ∈ cur.toList:=by rw [← h4];exact gE h3
   rw [df] at hu;obtain ⟨i,_,rfl⟩:=List.mem_map.1 hu;exact ⟨(fun s e=>by cases e),(fun t x e=>by cases e)⟩
  ·rw [hg] at e;simp at e
  ·rw [hg] at e;simp at e
theorem Mf{w w':World}{fg:Nat}(ho:Q.gl (fun k=>k=fg) w w')(hd:QF w fg):cP w w':=⟨ho.size,fun k hk=>by
 by_cases e:k=fg
 ·exact .inr (e▸hd)
 ·exact .inl (ho.block k hk e)⟩
section
variable {base:Nat} {A:Nat→Addr} {db:Nat} {F:Nat→Prop} {d:S.V.bq} {W0:World} {r:ch}
theorem Dv.only{w w':World}{fg:Nat}(hv:Dv base A db F d w)(ho:Q.gl (fun k=>k=fg) w w')(hb:base≤fg)(hf:¬ F fg):Dv base A db F d w':=by
 obtain ⟨d1,n1,Bz⟩:=hv.dev;have fj:S.V.Step (fun k=>k=fg) (fun k=>k=fg) w w':=⟨ho.os,ho.tape,ho.output,ho.size,ho.block,fun _ h=>.inl h⟩
 have jt:Below base w w':=⟨ho.os,ho.tape,ho.output,ho.size,fun k hk=>ho.block k (aq hk hv.env.errs.size) (by omega)⟩
 refine ⟨⟨d1,n1,Bz.keep fj (fun k hk e=>hf (e▸hk))⟩,hv.env.keep jt,⟨fun i hi=>?_,hv.errs.2⟩,hv.up,hv.alive,hv.lo⟩
 obtain ⟨h1,c,t,h2⟩:=hv.errs.1 i hi;have hl:=hv.lo i hi;exact ⟨(jt.cell (p:=⟨eR i,0,none⟩) hl.1).trans h1,c,t,(jt.block _ hl.2).trans h2⟩
end
theorem Aw(f:Nat→Bool):∀ n,(Q.gv f n).Nodup
 | 0=>List.nodup_nil
 | n+1=>by
  show (Q.gv f n++(if f n then [] else [n])).Nodup
  rw [List.nodup_append];refine ⟨Aw f n,?_,fun a ha b hb=>?_⟩
  ·split <;> simp
  ·have:=((Q.BE f).1 ha).1;split at hb
   ·simp at hb
   ·simp at hb;omega
theorem xe(T:Nat→Bool)(PP n:Nat):(Q.fh T PP n).Nodup:=(Aw T PP).sublist (List.take_sublist _ _)
theorem mS{T:Nat→Bool}{PP n:Nat}(hk:Q.pU PP T)(j:Nat):2≤fe (Q.fh T PP n) j∧fe (Q.fh T PP n) j<1048576:=by
 unfold fe;rw [aJ];cases h:(Q.fh T PP n)[j]? with
 | none=>simp
 | some x =>
  have hm:=cG h;have:=Q.rr hm;have h0:=hk.t0;have h1:=hk.t1;have h2:=hk.hi;simp only [lP];refine ⟨?_,by omega⟩
  rcases bg x 2 with hx | hx
  ·have:x=0∨x=1:=by omega
   rcases this with rfl | rfl
   ·rw [h0] at this;cases this.2
   ·rw [h1] at this;cases this.2
  ·exact hx
def jr(P:Nat→Nat):ch→ch × List (Nat × PD)
 | none=>(none,[])
 | some x=>(some ⟨x.1,(aW P x.1 x.2 0).1⟩,(aW P x.1 x.2 0).2)
def gK:ch→Nat
 | none=>0
 | some x=>ft x.1 x.2
def kt:ch→Value
 | none=>.nilIface
 | some x=>(C.Ch.pg (ft x.1 x.2:Int)).val
theorem DT(L:List Nat):pB (fe L) 0 L.length=L:=by
 unfold pB fe;refine lR (by simp) fun i h1 h2=>?_
 simp [List.getElem?_eq_getElem h2]
theorem Bj{P:Nat→Nat}{r:ch}(h:eP r):eP (jr P r).1∧aB (jr P r).1=aB r:=by
 cases r with
 | none=>exact ⟨h,rfl⟩
 | some x =>
  obtain ⟨hh,t⟩:=x;exact ⟨⟨ql hh t 0 none none h.1,by show np hh (aW P hh t 0).1≤4072;rw [Bh];exact h.2.1,OG hh t 0 h.2.2⟩,DK hh t 0⟩
theorem Ad{L:List Nat}{r:ch}(hl:L.length=eE r)(h0:∀ j,fe L j≠0):(eB (jr (fe L) r).1).Perm (eB r++L):=by
 cases r with
 | none =>
  have:L=[]:=List.length_eq_zero_iff.1 hl;subst this;exact List.Perm.refl _
 | some x =>
  obtain ⟨hh,t⟩:=x;have SY:iX hh t=L.length:=hl.symm;have:=DH h0 hh t 0;rw [Bi,oX,SY,DT] at this;exact this
theorem qm{T:Nat→Bool}{PP:Nat}{r:ch}(hk:Q.pU PP T)(hn:eE r≤(Q.gv T PP).length)(jo:(eB r).Nodup)(Ff:∀ i ∈ eB r,T i=true):(eB (jr (fe (Q.fh T PP (eE r))) r).1).Nodup∧(Q.fh T PP (eE r)).length=eE r:=by
 have hl:(Q.fh T PP (eE r)).length=eE r:=by rw [Q.xf];omega
 refine ⟨?_,hl⟩;rw [(Ad hl (fun j=>by have:=mS (n:=eE r) hk j;omega)).nodup_iff,List.nodup_append]
 refine ⟨jo,xe _ _ _,fun a ha b hb e=>?_⟩
 have h1:=Ff a ha;have h2:=(Q.rr hb).2;rw [e,h2] at h1;cases h1
structure Mp(base:Nat)(F:Nat→Prop)(tb:Nat)(w:World)(fb fg PP:Nat)(T:Nat→Bool):Prop where
 map:Q.eT w fb fg PP T
 ok:Q.pU PP T
 lo:base≤fg∧base≤fb
 nf:¬ F fg∧¬ F fb
 nt:fg≠tb∧fb≠tb
theorem Sw(pb:Nat)(w:World):Calls prog 72 #[.pointer (some ⟨pb,0,none⟩),.nilIface] w fun e w'=>e = .returned (.int .i64 0)∧w=w':=by
 have a1:∀ W,(Instr.typeAssert .nilIface 97 146 true).run prog W = .ok (.tuple #[.int .i64 0,.bool false]) W:=fun W=>by kernel_rfl
 have a2:∀ W,(Instr.typeAssert .nilIface 97 152 true).run prog W = .ok (.tuple #[.pointer none,.bool false]) W:=fun W=>by kernel_rfl
 go_enter func72,ntmps72;go_wp2;go_ret;exact ⟨rfl,rfl⟩
theorem FU(r:ch)(h:gK r=0→r=none)(w:World):Calls prog 43 #[.int .i64 (gK r:Int)] w fun e w'=>e = .returned (kt r)∧w=w':=by
 cases r with
 | none=>exact oe w
 | some x =>
  have h0:¬ (gK (some x):Int)=0:=fun e=>by
   have:=h (by omega)
   cases this
  exact og (gK (some x):Int) w h0
section
variable {base:Nat} {A:Nat→Addr} {db:Nat} {F:Nat→Prop} {d:S.V.bq} {W0:World} {r:ch}
theorem OH{w0 w:World}{lo pb:Nat}{pv:Value}{P:List Nat}{tx:Nat}{sv rv:Value}(hE:B.pJ A w0)(ML:∀ j,2≤fe P j∧fe P j<1048576)(hr:ez (cM d) w0 rv r)(cN:eP r)(hP:pH w0 lo pb pv P tx w sv [])(xK:eE r≤P.length)(jo:(eB (jr (fe P) r).1).Nodup):Calls prog 72 #[.pointer (some ⟨pb,0,none⟩),rv] w fun e w'=>∃ nZ,e = .returned (.int .i64 (gK (jr (fe P) r).1:Int))∧pH w0 lo pb pv P tx w' nZ ((jr (fe P) r).2.map (jT tx))∧mx pb w sv w' nZ:=by
 rcases hr with ⟨rfl,rfl⟩ | ⟨p,h,t,rfl,rfl,hk⟩
 ·refine (Sw pb w).mono ?_
  rintro e w' ⟨rfl,rfl⟩;exact ⟨sv,rfl,hP,mx.refl _ _ _⟩
 ·refine (ry A hE ML h p t w sv [] hk (Df cN) hP (by have h9:iX h t≤P.length:=xK;simpa using h9) jo).mono ?_
  rintro e w' ⟨nZ,rfl,h1,h2⟩;exact ⟨nZ,rfl,h1,h2⟩
theorem KN{P:Nat→Nat}(hP:∀ j,2≤P j∧P j<1048576):gK (jr P r).1=0→(jr P r).1=none:=fun h=>by
 cases r with
 | none=>rfl
 | some x=>exact absurd h (DI (fun j=>by have:=hP j;omega) x.1 x.2 0)
theorem info127:(prog.info? 127).map (·.size)=some 4:=by kernel_rfl
theorem Nv(w:World)(H:Nat)(E8:Array Value)(a b c d:Value)(hr:B.au w H E8 127)(ho:E8.size=4)(h1:a.oneCell'=true∧b.oneCell'=true∧c.oneCell'=true∧d.oneCell'=true):(Instr.storeAt 127 (.pointer (some ⟨H,0,none⟩)) (.agg #[a,b,c,d])).run prog w = .ok () (w.setRow H #[a,b,c,d]):=by
 have:=run_storeVar_row (P:=prog) w H 127 127 E8 #[a,b,c,d] hr info127 (by rw [ho];rfl) (by simp [h1.1,h1.2.1,h1.2.2.1,h1.2.2.2])
 simp only [Instr.storeAt,Instr.sureAddr,Sem.run_bind,Sem.run_pure,Result.andThen_ok,this]
theorem iP{w w':World}{fb fg PP:Nat}{T:Nat→Bool}(h:Q.eT w fb fg PP T)(h1:w'.heap[fb]?=w.heap[fb]?)(h2:w'.heap[fg]?=w.heap[fg]?):Q.eT w' fb fg PP T:=by
 refine ⟨h1.trans h.dr,⟨h.QZ.1,?_⟩,h.hi⟩;rcases h.QZ.2 with ⟨h',_⟩ | ⟨g,cap,cur,h',hb,hg,hr⟩
 ·simp at h'
 ·have e:fg=g:=by simp only [Value.slice.injEq,Option.some.injEq,Addr.mk.injEq] at h';exact h'.1.1
  subst e;exact .inr ⟨fg,cap,cur,h',hb,h2.trans hg,hr⟩
theorem sj.lower{w:World}{lo pz:Nat}{v:Value}{l:List S.Sh}(h:sj w lo v l)(hl:pz≤lo):sj w pz v l:=by
 refine ⟨h.1,?_⟩;rcases h.2 with h' | ⟨g,cap,cur,h',h1,h2⟩
 ·exact .inl h'
 ·exact .inr ⟨g,cap,cur,h',ar hl h1,h2⟩
theorem FZ{w:World}{tb fb fg PP tx:Nat}{T:Nat→Bool}(hc:Ts base A db F d W0 w tb r)(hQ:Q.Env base A w)(hM:Mp base F tb w fb fg PP T)(hn:eE r≤(Q.gv T PP).length)(S3:eE r≤1000000)(jo:(eB r).Nodup)(Ff:∀ i ∈ eB r,T i=true):Calls prog 35 #[.pointer (some ⟨tb,0,none⟩),.pointer (some ⟨fb,0,none⟩),.int .u64 (tx:Int)] w fun e w'=>∃ sv,e = .returned (.tuple #[sv,.int .i64 (gK (jr (fe (Q.fh T PP (eE r))) r).1:Int),.nilIface])∧sj w' w.heap.size sv ((jr (fe (Q.fh T PP (eE r))) r).2.map (jT tx))∧Mp base F tb w' fb fg PP (Q.kC T (Q.fh T PP (eE r)))∧B.au w' tb #[.pointer (some ⟨db,0,none⟩),kt (jr (fe (Q.fh T PP (eE r))) r).1] 100∧Dv base A db F d w'∧S.V.Step (fun k=>k=fg∨k=tb) (fun k=>k=fg∨k=tb) w w':=by
 obtain ⟨uR,Lj⟩:=qm hM.ok hn jo Ff;obtain ⟨L,hL⟩ : ∃ L,L=Q.fh T PP (eE r):=⟨_,rfl⟩;have ML:∀ j,2≤fe L j∧fe L j<1048576:=fun j=>by rw [hL];exact mS hM.ok j
 have htd:Q.kR PP T (eE r:Int)=(none,L,Q.kC T L):=by
  unfold Q.kR;rw [if_neg (by omega),if_neg (by rw [bm];omega),bm,← hL]
 rw [← hL] at uR Lj ⊢;have W6:=ab (pT hc (by omega))
 have HTK:=ab (Q.Nl base A fb fg PP T (eE r:Int) w hM.map hM.ok hQ);rw [htd] at HTK;have HC:=ab hc;have HM:=ab hM;have HND:=ab uR;have lU:=ab Lj;have Hu:=ab ML;have HCB:=ab S3;have MOK:Hid (Q.pU PP (Q.kC T L)):=by
  have hk:=hM.ok;refine ⟨hk.lo,hk.hi,by simp [Q.kC,hk.t0],by simp [Q.kC,hk.t1],fun j hj=>by simp [Q.kC,hk.up j hj]⟩
 obtain ⟨N,hN⟩ : ∃ N,N=eE r:=⟨_,rfl⟩;rw [← hN] at W6 HTK;clear hc hQ hM hn S3 jo Ff uR Lj hL ML htd hN;go_enter func35,ntmps35;go_wp2_with fail;refine W6.out.mono ?_
 rintro e w1' ⟨rfl,rfl⟩;go_wp2_with fail;refine HTK.out.mono ?_
 rintro e w1 ⟨v,rfl,aE,hmap,D1⟩;rw [show ig A none = .nilIface from rfl]
 have TF:cP w w1:=Mf D1 (Sk HM.out.map);have fI:Dv base A db F d w1:=HC.out.dv.only D1 HM.out.lo.1 HM.out.nf.1;obtain ⟨rv,ht,hr⟩:=HC.out.tr;have DV:=dU TF ht;have fV:=hr.cC TF;have uQ:=fT aE;obtain ⟨pa,pc,kL⟩ : ∃ a c,v = .slice a L.length c:=by
  rcases aE.2 with ⟨h',h0⟩ | ⟨g,cap,cur,h',_⟩
  ·exact ⟨none,0,by rw [h',h0]⟩
  ·exact ⟨_,_,h'⟩
 subst kL;obtain ⟨K,hK⟩ : ∃ K,w1.heap.size=K:=⟨_,rfl⟩;have rZ:B.au (w1.alloc (.cells #[.slice none 0 0,.int .u64 0,.slice none 0 0,.nilIface] 127)) K #[.slice none 0 0,.int .u64 0,.slice none 0 0,.nilIface] 127:=by rw [← hK];exact B.au.new w1 _ _
 have fj:=Nv (w1.alloc (.cells #[.slice none 0 0,.int .u64 0,.slice none 0 0,.nilIface] 127)) K _ (.slice pa L.length pc) (.int .u64 (tx:Int)) (.slice none 0 0) .nilIface rZ rfl ⟨rfl,rfl,rfl,rfl⟩;obtain ⟨W2,Lh⟩ : ∃ W2,(w1.alloc (.cells #[.slice none 0 0,.int .u64 0,.slice none 0 0,.nilIface] 127)).setRow K #[.slice pa L.length pc,.int .u64 (tx:Int),.slice none 0 0,.nilIface]=W2:=⟨_,rfl⟩;rw [Lh] at fj;have KW:=CG (w1.alloc (.cells #[.slice none 0 0,.int .u64 0,.slice none 0 0,.nilIface] 127)) K #[.slice pa L.length pc,.int .u64 (tx:Int),.slice none 0 0,.nilIface];rw [Lh] at KW;have Wg:=ai w1 (.cells #[.slice none 0 0,.int .u64 0,.slice none 0 0,.nilIface] 127);have aU:Below w1.heap.size w1 W2:=⟨KW.os.trans Wg.os,KW.tape.trans Wg.tape,KW.output.trans Wg.output,ar Wg.size KW.size,fun k hk=>(KW.block k (aq hk Wg.size) (by omega)).trans (Wg.block k hk)⟩
 have rK:B.au W2 K #[.slice pa L.length pc,.int .u64 (tx:Int),.slice none 0 0,.nilIface] 127:=by rw [← Lh];exact setRow_heap _ K _ _ _ _ rZ
 have gS:=ab fj;have hP:pH w1 (K+1) K (.slice pa L.length pc) L tx W2 (.slice none 0 0) []:=⟨aU,rK,sj.nil _ _,⟨by omega,by omega⟩,by have:=rK.lt;omega,uQ,by have:=lU.out;have:=HCB.out;omega⟩
 have QS:=ab (OH fI.aaj Hu.out fV HC.out.ok hP (by have:=lU.out;omega) HND.out)
 have c1:W2.cell? ⟨tb,1,none⟩=some rv:=(DV.below aU).c1;have Hs:=ab DV;have tE:=ab fI;have HMP:=ab hmap;have WI:=ab D1;have HKW:Hid (w.heap.size≤K∧w1.heap.size=K):=⟨by have:=D1.size;omega,hK⟩
 have ZF:=fV.form;clear fj KW Wg rZ Lh TF fI ht hr DV fV uQ aE hmap D1 aU rK hP HTK W6;rcases ZF with rfl | ⟨rt,rx,rfl⟩
 all_goals
  go_wp2_with (refine eV rfl 127 _ _ rfl _ _ rfl rfl gS.out ?_)
  refine QS.out.mono ?_
  rintro e w3 ⟨s3,rfl,vz,ht3⟩;obtain ⟨sa,sc,hsf⟩:=vz.sh.form;rw [az] at hsf;subst hsf;have htK:tb<K:=by have:=Hs.out.lt;have:=HKW.out.2;omega
  have k3:w3.cell? ⟨K,3,none⟩=some .nilIface:=vz.row.cell 3 (by simp)
  have SH:=Hs.out.below vz.ew;have t1:=SH.c1;have tf:=SH.free 1;obtain ⟨R,hR⟩ : ∃ R,R=kt (jr (fe L) r).1:=⟨_,rfl⟩;have vG:=ab (FU (jr (fe L) r).1 (KN Hu.out) w3);rw [← hR] at vG;have hRf:R = .nilIface∨∃ t x,R = .iface t x:=by
   rw [hR];cases (jr (fe L) r).1 with
   | none=>exact .inl rfl
   | some x=>exact .inr ⟨_,_,rfl⟩
  have dC:=bJ.set tb 1 w3 R;have k2:(w3.setCell ⟨tb,1,none⟩ R).cell? ⟨K,2,none⟩=some (.slice sa (jr (fe L) r).2.length sc):=bB (dC.block K vz.row.lt (by omega)) (vz.row.cell 2 (by simp))
  have mB:Hid (sj (w3.setCell ⟨tb,1,none⟩ R) w.heap.size (.slice sa (jr (fe L) r).2.length sc) ((jr (fe L) r).2.map (jT tx))∧Mp base F tb (w3.setCell ⟨tb,1,none⟩ R) fb fg PP (Q.kC T L)∧B.au (w3.setCell ⟨tb,1,none⟩ R) tb #[.pointer (some ⟨db,0,none⟩),kt (jr (fe L) r).1] 100∧Dv base A db F d (w3.setCell ⟨tb,1,none⟩ R)∧S.V.Step (fun k=>k=fg∨k=tb) (fun k=>k=fg∨k=tb) w (w3.setCell ⟨tb,1,none⟩ R)):=by
   have hkw:=HKW.out;have hm:=HM.out;have Zp:=HMP.out.Q3;have SV:=HMP.out.Q2;refine ⟨(vz.sh.same fun g hg=>dC.block g (vz.sh.dr hg).2 (by have:=(vz.sh.dr hg).1;omega)).lower (by omega),⟨iP HMP.out ((dC.block fb (aq Zp vz.ew.size) hm.nt.2).trans (vz.ew.block fb Zp)) ((dC.block fg (aq SV vz.ew.size) hm.nt.1).trans (vz.ew.block fg SV)),MOK.out,hm.lo,hm.nf,hm.nt⟩,by rw [← hR];exact B.au.one SH R,(tE.out.below vz.ew).tree HC.out.lo.1 HC.out.lo.2 1 R,?_⟩
   have ho:=WI.out;exact ⟨dC.os.trans (vz.ew.os.trans ho.os),dC.tape.trans (vz.ew.tape.trans ho.tape),dC.output.trans (vz.ew.output.trans ho.output),ar (ar ho.size vz.ew.size) dC.size,fun k hk hnk=>(dC.block k (by have:=vz.ew.size;omega) (fun e=>hnk (.inr e))).trans ((vz.ew.block k (by omega)).trans (ho.block k hk (fun e=>hnk (.inl e)))),fun _ h=>.inl h⟩
  clear vz ht3 SH dC QS c1 hR;rcases hRf with rfl | ⟨qt,qx,rfl⟩
  all_goals
   go_wp2_with fail;refine vG.out.mono ?_
   rintro e w3' ⟨rfl,rfl⟩;go_wp2;go_ret3;exact ⟨_,rfl,mB.out⟩
end
end T
namespace S.V
open Go.RowKit Go.Maps
theorem Mh{t:ByteArray}(h:t.size=512)(hz:uV t=true):t=pW:=by
 apply BN
 rw [pW,tn];have:=of_decide_eq_true hz;rw [h] at this;exact this
theorem Eo{x:gH}{j:Int}:∀ {l:List gH},(∀ y ∈ l,y.ix≠x.ix)→(qn x l).find? (fun y=>decide (y.ix=j))=if x.ix=j then some x else l.find? (fun y=>decide (y.ix=j))
 | [],_=>by unfold qn;rw [j8];by_cases hx:x.ix=j <;> simp [hx]
 | y::r,h=>by
  unfold qn;split
  ·rw [j8];by_cases hx:x.ix=j <;> simp [hx]
  ·rw [j8,Eo (fun z hz=>h z (by simp [hz]))]
   by_cases hx:x.ix=j
   ·have hy:y.ix≠j:=fun e=>h y (by simp) (e.trans hx.symm)
    simp [hx,hy]
   ·simp [hx,List.find?_cons]
theorem tg{i j:Int}:∀ l:List gH,(jx i l).find? (fun y=>decide (y.ix=j))=if i=j then none else l.find? (fun y=>decide (y.ix=j))
 | []=>by simp [jx]
 | y::r=>by
  have ih:=tg (i:=i) (j:=j) r;unfold jx at ih ⊢;rw [List.filter_cons];by_cases hy:y.ix=i
  ·simp only [hy,ne_eq,not_true_eq_false,decide_false,kq,if_false,ih,j8];by_cases Ro:i=j <;> simp [Ro]
  ·simp only [ne_eq,hy,not_false_eq_true,decide_true,if_true,j8,ih];by_cases hyj:y.ix=j
   ·have:i≠j:=fun e=>hy (hyj.trans e.symm)
    simp [hyj,this]
   ·simp [hyj]
theorem tW(l:List gH)(i j:Int)(t:ByteArray)(ht:t.size=512):fx (qW l i t) j=if i=j then t else fx l j:=by
 unfold fx qW;cases hz:uV t
 ·rw [if_neg (by simp),Eo (fun y hy=>(ph hy).2),tg]
  by_cases h:i=j <;> simp [h]
 ·rw [if_pos rfl,tg];by_cases h:i=j
  ·simp [h,(Mh ht hz).symm]
  ·simp [h]
theorem tK(eD:List gH)(a:Int)(p:List UInt8)(hl:p.length=4096):∀ n:Nat,n≤8→∀ j:Int,fx (gJ eD (chunks a p n)) j=if a≤j∧j<a+n then Gm ((p.drop ((j - a).toNat*512)).take 512) else fx eD j:=by
 intro n;induction n with
 | zero =>
  intro _ j;rw [if_neg (by omega)];rfl
 | succ n ih =>
  intro hn j;have hs:(Gm ((p.drop (n*512)).take 512)).size=512:=by rw [om,ag,ao];omega
  rw [uw,p9,chunk,tW _ _ _ _ hs,ih (by omega) j]
  by_cases h1:a+(n:Int)=j
  ·subst h1;rw [if_pos rfl,if_pos ⟨by omega,by omega⟩,show (a+(n:Int) - a).toNat=n by omega]
  ·rw [if_neg h1];by_cases h2:a≤j∧j<a+(n:Int)
   ·rw [if_pos h2,if_pos ⟨h2.1,by omega⟩]
   ·rw [if_neg h2,if_neg (by omega)]
theorem En(p:List UInt8):∀ n:Nat,(List.range n).flatMap (fun i:Nat=>(p.drop (i*512)).take 512)=p.take (n*512):=by
 intro n;induction n with
 | zero=>simp
 | succ n ih =>
  rw [List.range_succ,aR,ih,Nat.succ_mul,List.take_add];simp
end S.V
namespace T
open Go.RowKit
theorem lA(x:S.V.gH)(i:Int):∀ l:List S.V.gH,S.V.ep (l++[x]) i=if x.ix=i then some l.length else S.V.ep l i
 | []=>by
  simp only [List.nil_append,S.V.ep,List.length_nil]
 | y::l=>by
  simp only [List.cons_append,S.V.ep,lA x i l,List.length_cons];by_cases h:x.ix=i
  ·simp [h]
  ·simp [h]
theorem kK(i:Int):∀ (l:List S.V.gH) (k:Nat),S.V.ep l i=some k→k<l.length
 | [],k,h=>by simp [S.V.ep] at h
 | y::l,k,h=>by
  simp only [S.V.ep] at h;cases hq:S.V.ep l i with
  | none =>
   rw [hq] at h;simp only at h;split at h
   ·cases h;simp
   ·cases h
  | some q =>
   rw [hq] at h;cases h;have:=kK i l q hq;simp only [List.length_cons];omega
def AY(eD aV:List S.V.gH)(i:Int):ByteArray:=match S.V.ep aV i with | some k=>((aV[k]?).map S.V.gH.kG).getD S.V.pW | none=>S.V.fx eD i
theorem CF(eD l:List S.V.gH)(x:S.V.gH)(i:Int):AY eD (l++[x]) i=if x.ix=i then x.kG else AY eD l i:=by
 unfold AY;rw [lA];by_cases h:x.ix=i
 ·rw [if_pos h,if_pos h];simp
 ·rw [if_neg h,if_neg h];cases hq:S.V.ep l i with
  | none=>rfl
  | some k =>
   have:=kK i l k hq;simp only [bA this]
theorem tN(eD:List S.V.gH)(i:Int):∀ n (l:List S.V.gH),l.length=n→(∀ x ∈ l,x.kG.size=512)→AY eD l i=S.V.fx (S.V.gJ eD l) i
 | 0,l,hl,_=>by
  have:l=[]:=List.length_eq_zero_iff.1 hl;subst this;rfl
 | n+1,l,hl,hs=>by
  have dE:l≠[]:=fun e=>by rw [e] at hl;cases hl
  have e:=iq dE;have h1:l.dropLast.length=n:=by rw [List.length_dropLast];omega
  have h2:(l.getLast dE).kG.size=512:=hs _ (List.getLast_mem dE);rw [← e,CF,S.V.p9,S.V.tW _ _ _ _ h2,tN eD i n l.dropLast h1 (fun x hx=>hs x (List.dropLast_subset l hx))]
theorem oS(d:S.V.bq)(hs:∀ x ∈ d.aV,x.kG.size=512)(s:Int)(n:Nat):S.V.iM d s n=(List.range n).flatMap fun i:Nat=>S.V.bl (S.V.fx (S.V.gJ d.eD d.aV) (s+(i:Int))):=by
 have e:∀ i:Int,S.V.gd d i=S.V.fx (S.V.gJ d.eD d.aV) i:=fun i=>tN d.eD i _ d.aV rfl hs
 unfold S.V.iM;simp only [e]
def qg(d:S.V.bq)(s:S.Sh):S.V.bq:={ d with aV:=d.aV++S.V.chunks (s.id*8) (S.gW s) 8,nw:=wrap64 (d.nw+8) }
theorem CW{d:S.V.bq}{s:S.Sh}(hm:S.sm s)(hs:∀ x ∈ d.aV,x.kG.size=512):∀ x ∈ (qg d s).aV,x.kG.size=512:=fun x hx=>by
 rcases List.mem_append.1 hx with h | h
 ·exact hs x h
 ·obtain ⟨i,hi,rfl⟩:=List.mem_map.1 h;have GQ:=List.mem_range.1 hi;have hl:=S.l8 s hm;show (S.V.Gm (((S.gW s).drop (i*512)).take 512)).size=512
  rw [S.V.om,ag,ao];omega
theorem Ek{α β:Type}{l:List α}{f g:α→List β}(h:∀ a ∈ l,f a=g a):l.flatMap f=l.flatMap g:=by
 induction l with
 | nil=>rfl
 | cons a l ih=>rw [List.flatMap_cons,List.flatMap_cons,h a (by simp),ih fun b hb=>h b (by simp [hb])]
theorem NP{d:S.V.bq}{s:S.Sh}(hm:S.sm s)(hs:∀ x ∈ d.aV,x.kG.size=512)(i:Int):S.V.iM (qg d s) (i*8) 8=if i=s.id then S.gW s else S.V.iM d (i*8) 8:=by
 have hl:=S.l8 s hm;rw [oS _ (CW hm hs)];have e1:S.V.gJ (qg d s).eD (qg d s).aV=S.V.gJ (S.V.gJ d.eD d.aV) (S.V.chunks (s.id*8) (S.gW s) 8):=by
  show List.foldl _ _ (_++_)=_
  rw [gq];rfl
 rw [e1];by_cases h:i=s.id
 ·rw [if_pos h,h];have e:(List.range 8).flatMap (fun j:Nat=>S.V.bl (S.V.fx (S.V.gJ (S.V.gJ d.eD d.aV) (S.V.chunks (s.id*8) (S.gW s) 8)) (s.id*8+(j:Int))))=(List.range 8).flatMap (fun j:Nat=>((S.gW s).drop (j*512)).take 512):=by
   apply Ek
   intro j hj;have hj8:j<8:=List.mem_range.1 hj;rw [S.V.tK _ _ _ hl 8 (by decide),if_pos ⟨by omega,by omega⟩,S.V.tn,show (s.id*8+(j:Int) - s.id*8).toNat=j by omega]
  rw [e,S.V.En,al (by rw [hl];decide)]
 ·rw [if_neg h,oS d hs];apply Ek
  intro j hj;have hj8:j<8:=List.mem_range.1 hj;rw [S.V.tK _ _ _ hl 8 (by decide),if_neg (by omega)]
theorem zT{d d':S.V.bq}{id:Int}(hz:d'.size=d.size)(hr:S.V.iM d' (id*8) 8=S.V.iM d (id*8) 8):cM d' id=cM d id:=by
 have e:(∃ p s,fy d' id s∧gB s p)=(∃ p s,fy d id s∧gB s p):=by
  apply propext
  constructor
  ·rintro ⟨p,s,⟨h1,h2,h3,h4,h5⟩,h6⟩;exact ⟨p,s,⟨h1,h2,h3,by rw [← hz];exact h4,by rw [h3] at h5 ⊢;rw [← hr];exact h5⟩,h6⟩
  ·rintro ⟨p,s,⟨h1,h2,h3,h4,h5⟩,h6⟩;exact ⟨p,s,⟨h1,h2,h3,by rw [hz];exact h4,by rw [h3] at h5 ⊢;rw [hr];exact h5⟩,h6⟩
 have e2:(fun p=>∃ s,fy d' id s∧gB s p)=(fun p=>∃ s,fy d id s∧gB s p):=by
  funext p
  apply propext
  constructor
  ·rintro ⟨s,⟨h1,h2,h3,h4,h5⟩,h6⟩;exact ⟨s,⟨h1,h2,h3,by rw [← hz];exact h4,by rw [h3] at h5 ⊢;rw [← hr];exact h5⟩,h6⟩
  ·rintro ⟨s,⟨h1,h2,h3,h4,h5⟩,h6⟩;exact ⟨s,⟨h1,h2,h3,by rw [hz];exact h4,by rw [h3] at h5 ⊢;rw [hr];exact h5⟩,h6⟩
 unfold cM;by_cases h:∃ p s,fy d id s∧gB s p
 ·rw [dif_pos (e▸h),dif_pos h];congr 1
  simp only [e2]
 ·rw [dif_neg (e▸h),dif_neg h]
theorem KZ{s:S.Sh}{p q:PD}(h1:gB s p)(h2:gB s q):p=q:=by
 rcases h1 with ⟨a1,_,a3⟩ | ⟨a1,_,a3⟩ <;> rcases h2 with ⟨b1,_,b3⟩ | ⟨b1,_,b3⟩
 ·rw [a3,b3]
 ·rw [a1] at b1;cases b1
 ·rw [a1] at b1;cases b1
 ·rw [a3,b3]
theorem Sd{d:S.V.bq}{s:S.Sh}{p:PD}(h:fy d s.id s)(hh:gB s p):cM d s.id=some p:=by
 have hx:∃ p s',fy d s.id s'∧gB s' p:=⟨p,s,h,hh⟩;unfold cM;rw [dif_pos hx];obtain ⟨s',h1,h2⟩:=Classical.choose_spec hx;congr 1
 have e:s'=s:=by
  have a1:=S.kU s' h1.1 h1.2.1;have a2:=S.kU s h.1 h.2.1;have b1:=h1.2.2.2.2;have b2:=h.2.2.2.2;rw [h1.2.2.1] at b1;rw [← a1,← a2,← b1,← b2]
 rw [e] at h2;exact KZ h2 hh
end T
end Go.Proofs.YtihmgigfkmofnaaGreatDoor
namespace Go.Proofs.YtihmgigfkmofnaaGreatDoor.T
open Go.RowKit
theorem JD(d:S.V.bq)(s:S.Sh)(hm:S.sm s)(hd:d.dead=false)(ha:d.eO=[])(eC:(s.id+1)*8≤d.size):d.write (s.id*8) (S.gW s)=(qg d s,0):=by
 obtain ⟨sz,eD,aV,eO,dead,nr,nw,ns⟩:=d;simp only at hd ha eC;subst hd ha;have hl:=S.l8 s hm;have h2:=hm.2.2.1;have hf:S.V.bq.fits ⟨sz,eD,aV,[],false,nr,nw,ns⟩ (s.id*8) ((8:Nat):Int)=true:=by
  simp only [S.V.bq.fits,decide_eq_true_eq];omega
 simp only [S.V.bq.write,hl,qg];rw [if_neg (by simp),if_neg (by rw [show 4096 / 512=8 from rfl,hf];simp)]
 rfl
end Go.Proofs.YtihmgigfkmofnaaGreatDoor.T
namespace Go.Proofs.YtihmgigfkmofnaaGreatDoor.S
open Go.RowKit
theorem J2(base:Nat)(A:Nat→Addr)(db:Nat)(F:Nat→Prop)(d:V.bq)(s:Sh)(w:World)(hs:s.body.size≤140737488355328)(hx:s.sE<18446744073709551616)(hd:V.cJ w db F d)(hE:Env base A w)(hF:∀ k,F k→base≤k)(hp:d.aV.length≤1000000)(Au:d.dead=false)(ha:d.eO=[]):Calls prog 62 #[.pointer (some ⟨db,0,none⟩),.agg s.cells.toArray] w fun e w'=>(e = .returned .nilIface∧(sm s∧(s.id+1)*8≤d.size)∧∃ F',V.cJ w' db F' (T.qg d s)∧V.Step F F' w w')∨(¬ (sm s∧(s.id+1)*8≤d.size)∧e = .returned (.iface 360 (.pointer (some (A 0))))∧Below w.heap.size w w'):=by
 have HE:=ab hE;have HD:=ab hd;have HFB:=ab hF;obtain ⟨k,i,t,c,b⟩:=s;have HX:Hid (Boxed w.heap.size [.int .i64 k,.int .i64 i,.int .u64 (t:Int),.int .i64 c,.string b] (w.alloc (.cells #[.int .i64 k,.int .i64 i,.int .u64 (t:Int),.int .i64 c,.string b] 87))):=bL w _ _;have HB:=ab (ai w (.cells #[.int .i64 k,.int .i64 i,.int .u64 (t:Int),.int .i64 c,.string b] 87));by_cases hm:sm ⟨k,i,t,c,b⟩
 ·have HS:Hid (∀ w,Lay w→EW w→Calls prog 96 #[.agg #[.int .i64 k,.int .i64 i,.int .u64 (t:Int),.int .i64 c,.string b]] w fun e w'=>∃ g,e = .returned (.tuple #[.slice (some ⟨g,0,none⟩) 4096 4096,.nilIface])∧cF w' g (gW ⟨k,i,t,c,b⟩)∧w.heap.size≤g∧Below w.heap.size w w'):=fun w h1 h2=>RZ ⟨k,i,t,c,b⟩ w hm hx h1 h2
  have rW:Hid ((gW ⟨k,i,t,c,b⟩).length=4096):=l8 _ hm;have B8:0≤i:=by have:=hm.2.2.1;simp only at this;omega
  have uS:i<1048576:=hm.2.2.1.2;have HM:=ab hm;have HWR:Hid ((i+1)*8≤d.size→d.write (i*8) (gW ⟨k,i,t,c,b⟩)=(T.qg d ⟨k,i,t,c,b⟩,0)):=fun h=>T.JD d ⟨k,i,t,c,b⟩ hm Au ha h
  have Rx:Hid (d.aV.length≤1000000∧d.eO=[]):=⟨hp,ha⟩;clear hE hd hF hs hx hm hp Au ha;generalize An:gW ⟨k,i,t,c,b⟩=pg at *;clear An;show Calls prog 62 #[.pointer (some ⟨db,0,none⟩),.agg #[.int .i64 k,.int .i64 i,.int .u64 (t:Int),.int .i64 c,.string b]] w _
  go_enter func62,ntmps62;go_wp2_with fail;refine (HS.out _ (HE.out.up HB.out).lay (HE.out.up HB.out).tab).mono ?_
  rintro e w1 ⟨g,rfl,bE,hg,aL⟩;have zk:=ab (HX.out.below aL);have bP:=ab (Below.next HB.out aL);have mA:=ab bE;have HG:Hid (w.heap.size<g):=by have:=HX.out.1;show _<_;omega
  have c1:w1.cell? ⟨w.heap.size,1,none⟩=some (.int .i64 i):=zk.out.2 1 (by simp)
  clear bE hg aL HX HB;have Vf:=ab (HD.out.below bP.out);by_cases eC:(i+1)*8≤d.size
  ·go_wp2_with fail;refine (mN db F d i _ Vf.out B8 uS).mono ?_
   rintro e w1' ⟨rfl,rfl⟩;rw [decide_eq_true eC];go_wp2_with fail;refine (te i _ B8 (by omega)).mono ?_
   rintro e w1' ⟨rfl,rfl⟩;have W:=V.JE base A db F d w1 Vf.out (HE.out.up bP.out).errs HFB.out (i*8) (.slice (some ⟨g,0,none⟩) 4096 4096) pg ⟨some ⟨g,0,none⟩,4096,g,by rw [rW.out],by rw [rW.out];decide,by rw [rW.out];decide,fun _=>⟨rfl,fun hf=>by have:=HD.out.lt g hf;have:=HG.out;omega⟩,mA.out.cell⟩ (by rw [rW.out];have:=Rx.out.1;omega) (by rw [Rx.out.2];exact V.wT base A db)
   rw [HWR.out eC] at W;have HW:Hid (Calls prog 98 #[.pointer (some ⟨db,0,none⟩),.int .i64 (i*8),.slice (some ⟨g,0,none⟩) 4096 4096] w1 fun e w'=>e = .returned .nilIface∧∃ F',V.cJ w' db F' (T.qg d ⟨k,i,t,c,b⟩)∧V.Step F F' w1 w'):=W
   clear W;go_wp2_with fail;refine Calls.mono HW.out ?_
   rintro e w2 ⟨rfl,F',Ld,jm⟩;have nI:Hid (∃ F',V.cJ w2 db F' (T.qg d ⟨k,i,t,c,b⟩)∧V.Step F F' w w2):=⟨F',Ld,(V.Step.bw bP.out).trans jm⟩;clear Ld jm;go_wp2_with fail;go_ret;exact .inl ⟨rfl,⟨HM.out,eC⟩,nI.out⟩
  ·have cE:w1.cell? ⟨0,0,none⟩=some (.iface 360 (.pointer (some (A 0)))):=(HE.out.up bP.out).errs.arg;have HDF:Hid (decide ((i+1)*8≤d.size)=false):=decide_eq_false eC;have TV:Hid (¬ (sm ⟨k,i,t,c,b⟩∧(i+1)*8≤d.size)):=fun h=>eC h.2
   clear eC;go_wp2_with fail;refine (mN db F d i _ Vf.out B8 uS).mono ?_
   rintro e w1' ⟨rfl,rfl⟩;rw [HDF.out];go_wp2_with fail;go_ret;exact .inr ⟨TV.out,rfl,bP.out⟩
 ·have HS:Hid (∀ w,w.cell? ⟨0,0,none⟩=some (.iface 360 (.pointer (some (A 0))))→Calls prog 96 #[.agg #[.int .i64 k,.int .i64 i,.int .u64 (t:Int),.int .i64 c,.string b]] w fun e w'=>e = .returned (.tuple #[.slice none 0 0,.iface 360 (.pointer (some (A 0)))])∧Below w.heap.size w w'):=fun w hc=>R0 (A 0) ⟨k,i,t,c,b⟩ w hs hm hc
  have TV:Hid (¬ (sm ⟨k,i,t,c,b⟩∧(i+1)*8≤d.size)):=fun h=>hm h.1
  clear hE hd hF hs hx hm hp Au ha;show Calls prog 62 #[.pointer (some ⟨db,0,none⟩),.agg #[.int .i64 k,.int .i64 i,.int .u64 (t:Int),.int .i64 c,.string b]] w _
  go_enter func62,ntmps62;go_wp2_with fail;refine (HS.out _ (HE.out.up HB.out).errs.arg).mono ?_
  rintro e w1 ⟨rfl,aL⟩;have bP:=ab (Below.next HB.out aL);clear aL;go_wp2_with fail;go_ret;exact .inr ⟨TV.out,rfl,bP.out⟩
end Go.Proofs.YtihmgigfkmofnaaGreatDoor.S
