import Derived.Test.YtihmgigfkmofnaaGreatDoorG30
import Derived.Deep.CutBlock
set_option maxHeartbeats 8000000
set_option maxRecDepth 100000
open Go.Proofs.Tryz
namespace Go.Proofs.YtihmgigfkmofnaaGreatDoor
namespace T
open Go.RowKit
attribute [local go_sem ↓] Go.wp_at_zero Go.wp_at_succ
section
variable {base:Nat} {A:Nat→Addr} {db:Nat} {F:Nat→Prop} {d:S.V.bE} {w0:World} {tb:Nat} {x:Bx} {fr en:ByteArray} {lim lo:Nat}
theorem Br.c1{w:World}{b:Nat}{n:SN}{pv lv cv:Value}(h:Br w b n pv lv cv):w.cell? ⟨b,1,none⟩=some (.int .i64 n.f):=h.row.cell 1 (by simp)
theorem Br.c2{w:World}{b:Nat}{n:SN}{pv lv cv:Value}(h:Br w b n pv lv cv):w.cell? ⟨b,2,none⟩=some lv:=h.row.cell 2 (by simp)
theorem Br.c3{w:World}{b:Nat}{n:SN}{pv lv cv:Value}(h:Br w b n pv lv cv):w.cell? ⟨b,3,none⟩=some cv:=h.row.cell 3 (by simp)
theorem Br.qi{w:World}{b:Nat}{n:SN}{pv lv:Value}{a:Option Addr}{m c:Nat}(h:Br w b n pv lv (.slice a m c)){k:Nat}{p:C.Ch}(hk:n.us[k]?=some p):∃ g o,a=some ⟨g,o,none⟩∧w.cell? ⟨g,o+k,none⟩=some p.val:=by
 obtain ⟨a',c',he,_,_,hc⟩:=h.kids;cases he;obtain ⟨g,o,ha,h1⟩:=hc k p.val (by unfold C.bn;rw [aG,hk];rfl)
 exact ⟨g,o,ha,h1⟩
theorem z8{rv:Value}{h:Nat}(IH:Kw base A db F d w0 tb x fr en lim lo h)(iK:Dv base A db F d w0)(Hy:B.au w0 tb #[.pointer (some ⟨db,0,none⟩),rv] 100):Kw base A db F d w0 tb x fr en lim lo (h+1):=by
 intro p t dp w v acc M hk nH hg Gh eb jb lW nk;have I3:=ab (hg.again iK hk lW nk);have wP:Hid (∀ W,Gs base A db F d w0 tb x fr en lim lo W v acc (M++cU (fh (h+1) t))→Calls prog 92 #[.pointer (some ⟨tb,0,none⟩),p.val,.int .i64 (dp:Int)] W fun e w'=>(lU (pz d w0) A ⟨h+1,t⟩ e w'∧True)∧Dv base A db F d w'∧Mv db F W w'):=fun W hW=>by
  have aw:=hW.mv.cN iK;refine (qE (pz d w0) p ⟨h+1,t⟩ tb rv dp W ⟨⟨hk,nH⟩,.inl aw⟩ (dX aw Hy) hW.dv (.inr (by omega))).mono ?_
  rintro e w' ⟨⟨h1,_⟩,h2,h3⟩;exact ⟨⟨h1,trivial⟩,h2,h3⟩
 have IX:Hid (∀ (k:Nat) (wr:World) (vk:Value) (ak:List Pr) (Mk:List Nat) (b:Nat) (n:SN) (pv lv cv:Value) (c:Nd h) (q:C.Ch),I5 base A db F d w0 tb x fr en lim lo t w v acc M b n pv lv cv k wr vk ak Mk→t.2.2[k]?=some c→eu (cF d) w0 h q c→Calls prog 90 #[q.val,.int .i64 ((dp:Int)+1),.pointer (some ⟨x.m,0,none⟩),.pointer (some ⟨x.f,0,none⟩),.pointer (some ⟨x.t,0,none⟩),.pointer (some ⟨x.fr,0,none⟩),.pointer (some ⟨x.en,0,none⟩),.pointer (some ⟨x.p,0,none⟩),.pointer (some ⟨x.l,0,none⟩),.pointer (some ⟨x.g,0,none⟩)] wr fun e w'=>∃ v' M',e = .returned (.bool (fy fr en lim h c ak).2)∧I5 base A db F d w0 tb x fr en lim lo t w v acc M b n pv lv cv (k+1) w' v' (fy fr en lim h c ak).1 M'):=fun k wr vk ak Mk b n pv lv cv c q hl hc hkq=>hl.qi IH nH hc hkq Gh eb jb lW nk
 obtain ⟨pt,px,ir⟩:=bU p;rw [ir] at wP I3 ⊢;have k0:w.cell? ⟨x.m,0,none⟩=some (.map (some x.mb)):=hg.cm;have ZH:=ab Gh;have HGD:=ab nH;have Ys:Hid (cU (fh (h+1) t)=cU t.1):=rfl;clear hg hk nH iK Hy ir Gh eb lW nk jb IH;go_enter func90,ntmps90;go_wp2_with fail;refine I3.out.mono ?_
 rintro e wa ⟨rfl,zY,Qi⟩;have k1:wa.cell? ⟨x.t,0,none⟩=some (.pointer (some ⟨tb,0,none⟩)):=zY.ct;have uL:=ab (wP.out wa zY);have HS:=ab zY;have HT:=ab Qi;clear zY Qi wP I3 k0;go_wp2_with fail;refine uL.out.mono ?_
 rintro e w1 ⟨⟨EI,_⟩,fD,fo⟩;rcases EI with ⟨hE,_⟩ | ⟨b,n,pv,lv,cv,rfl,hs,hn⟩
 ·exact (hE:False).elim
 ·have XN:=HS.out.go fo fD;have A8:aW (cF d) w0 (h+1) n t:=hn.1.1;have NM:n.us.length=t.2.2.length:=A8.1;have jg:t.2.1=n.lk.map (·.1):=A8.2.2.2.1;have h0:¬ n.us.length=0:=fun e=>A8.2.1 (List.length_eq_zero_iff.1 e)
  have ti:=ab (cG b n pv lv cv w1 hs);rw [show decide (n.us.length=0)=false by simp [h0]] at ti
  have hU:=hs.fine;have gQ:n.us.length=n.lk.length+1:=by
   rcases A8.2.2.1 with h9 | h9
   ·exact absurd h9 h0
   ·exact h9
  have CI:Hid (n.us.length=t.2.2.length∧t.2.1=n.lk.map (·.1)∧n.us.length=n.lk.length+1∧n.lk.length≤4000):=⟨NM,jg,gQ,hU.2.2.2.1⟩;have Oc:Hid (∀ (k:Nat) (q:C.Ch) (c:Nd h),n.us[k]?=some q→t.2.2[k]?=some c→eu (cF d) w0 h q c):=fun k q c h1 h2=>A8.qi h1 h2
  have HSO:Hid (t.2.1.Pairwise fun a b=>cR a b=true):=by
   obtain ⟨⟨pT,mc,ho⟩,_⟩:=HGD.out;exact jM ((eS h t pT mc).1 ho)
  have Ah:Hid (∀ q,q≤n.us.length→I5 base A db F d w0 tb x fr en lim lo t w v acc M b n pv lv cv q w1 v acc (M++cU t.1)):=fun q _=>by
   refine ⟨by rw [← Ys.out];exact XN,HT.out.trans (wV.mv v fo),hs.br,?_,fun i hi=>?_,?_⟩
   ·have:((t.2.2.drop q).flatMap (flat h)).length≤(flat (h+1) t).length:=by
     show _≤(t.2.2.flatMap (flat h)).length
     conv=>rhs;rw [← aI q t.2.2,aN,ae]
     omega
    omega
   ·rcases List.mem_append.1 hi with h | h
    ·exact .inl h
    ·exact .inr (dV _ h)
   ·simp only [ae];omega
  have p1:=hs.c1;have p2:=hs.c2;have Xg:=XN.cfr;have Wp:Hid (∀ W,Below w1.heap.size w1 W→Calls prog 81 #[.agg #[.int .i64 n.f,lv],.string fr] W fun e w'=>(∃ p:Nat,e = .returned (.int .i64 (p:Int))∧B.fK n.lk fr p)∧Below w1.heap.size w1 w'):=fun W hW=>(B.Bw n.f lv n.lk fr W (by omega) (hs.bn.below hW)).mono fun e w' ⟨h1,h2⟩=>⟨h1,Below.next hW h2⟩
  obtain ⟨la,lc,pW⟩:=hs.bn.form;obtain ⟨ca,cc,sU⟩:=hs.kids.form;obtain ⟨xa,xc,wG⟩:=hs.iH.form;obtain ⟨N,hN⟩ : ∃ N,N=n.us.length:=⟨_,rfl⟩;obtain ⟨L,hL⟩ : ∃ L,L=n.lk.length:=⟨_,rfl⟩;rw [← hN] at sU Ah;rw [← hL] at pW;subst pW sU wG;have HN:Hid (N=n.us.length):=hN;have HL:Hid (L=n.lk.length):=hL;clear fD fo uL hs hn h0 A8 NM jg hU gQ k1 XN hN hL;go_wp2_with fail;refine ti.out.mono ?_
  rintro e w1' ⟨rfl,rfl⟩;go_wp2_with fail;go_region_held3 (fun w'=>w'.cell? ⟨b,1,none⟩=some (.int .i64 n.f)∧w'.cell? ⟨b,2,none⟩=some (.slice la L lc)∧w'.cell? ⟨x.fr,0,none⟩=some (.string fr)) (go_keep)
   (first
    | (go_at_call 81;refine (Wp.out _ (by first | exact Below.refl _ _ | exact B.aP (Below.refl _ _))).mono ?_;rintro e w2 ⟨⟨q,rfl,zW⟩,aV⟩;have HPI:=ab zW;have bL:=ab aV;have m0:=(aV.cell (p:=⟨b,1,none⟩) (World.block_lt_of_cell? w1 _ p1)).trans p1;have m1:=(aV.cell (p:=⟨b,2,none⟩) (World.block_lt_of_cell? w1 _ p2)).trans p2;have m2:=(aV.cell (p:=⟨x.fr,0,none⟩) (World.block_lt_of_cell? w1 _ Xg)).trans Xg;clear zW aV))
  clear m0 m1 m2 p1 p2 Xg ti Wp HS HT;have HQ:Hid (q≤N∧I5 base A db F d w0 tb x fr en lim lo t w v acc M b n (.slice xa n.ps.length xc) (.slice la L lc) (.slice ca N cc) q w2 v acc (M++cU t.1)∧fy fr en lim (h+1) t acc=lQ (fy fr en lim h) en (Np t.2.1 q) (t.2.1.drop q) (t.2.2.drop q) acc):=by
   have h1:=HPI.out.1;have h2:=CI.out;have h3:=HN.out;exact ⟨by omega,(Ah.out q (by omega)).below bL.out,Mx acc h2.2.1 HPI.out HSO.out⟩
  clear HPI Ah bL HSO;go_wp2_with fail;go_loopw [16] (fun i wr=>∃ (k:Nat) (vk:Value) (ak:List Pr) (Mk:List Nat),i = .int .i64 (k:Int)∧k≤N∧I5 base A db F d w0 tb x fr en lim lo t w v acc M b n (.slice xa n.ps.length xc) (.slice la L lc) (.slice ca N cc) k wr vk ak Mk∧fy fr en lim (h+1) t acc=lQ (fy fr en lim h) en (Np t.2.1 k) (t.2.1.drop k) (t.2.2.drop k) ak)
   (fun i _=>N - (intOf i).toNat)
  case atStart=>exact ⟨q,v,acc,M++cU t.1,rfl,HQ.out.1,HQ.out.2.1,HQ.out.2.2⟩
  case round =>
   obtain ⟨k,vk,ak,Mk,rfl,hkN,hl,abF⟩:=hrel;have HL:=ab hl;have HD:=ab abF;have p3:=hl.br.c3;clear abF HQ;by_cases bO:k<N
   ·obtain ⟨u,hu⟩ : ∃ u,n.us[k]?=some u:=⟨_,af (by have:=HN.out;omega)⟩
    obtain ⟨c,hc⟩ : ∃ c,t.2.2[k]?=some c:=⟨_,af (by have:=HN.out;have:=CI.out.1;omega)⟩
    obtain ⟨g,o,rfl,QQ⟩:=hl.br.qi hu;obtain ⟨ut,ux,Hw⟩:=bU u;rw [Hw] at QQ;have hcu:=CI.out;have hN:=HN.out;have Zm:Hid (∀ W,Below wr.heap.size wr W→Calls prog 95 #[.agg #[.int .i64 n.f,.slice la L lc],.int .i64 (k:Int),.string en] W fun e w'=>e = .returned (.bool (yU en (Np t.2.1 k)))∧Below wr.heap.size wr w'):=fun W hW=>(Ce n.f (.slice la L lc) n.lk k en W (hl.br.bn.below hW) (by omega) (by omega)).mono fun e w' ⟨h1,h2⟩=>⟨by rw [h1,hcu.2.1,U2 _ _ _ (by omega)],Below.next hW h2⟩
    have SZ:Hid (∀ W,Below wr.heap.size wr W→Calls prog 90 #[.iface ut ux,.int .i64 ((dp:Int)+1),.pointer (some ⟨x.m,0,none⟩),.pointer (some ⟨x.f,0,none⟩),.pointer (some ⟨x.t,0,none⟩),.pointer (some ⟨x.fr,0,none⟩),.pointer (some ⟨x.en,0,none⟩),.pointer (some ⟨x.p,0,none⟩),.pointer (some ⟨x.l,0,none⟩),.pointer (some ⟨x.g,0,none⟩)] W fun e w'=>∃ v' M',e = .returned (.bool (fy fr en lim h c ak).2)∧I5 base A db F d w0 tb x fr en lim lo t w v acc M b n (.slice xa n.ps.length xc) (.slice la L lc) (.slice (some ⟨g,o,none⟩) N cc) (k+1) w' v' (fy fr en lim h c ak).1 M'):=fun W hW=>by
     rw [← Hw];exact IX.out k W vk ak Mk b n _ _ _ c u (hl.below hW) hc (Oc.out k u c hu hc)
    have eZ:=Ir (fy fr en lim h) en t.2.1 t.2.2 k ak c hc;rw [← HD.out] at eZ;have p1:=hl.br.c1;have p2:=hl.br.c2;have ken:=hl.gs.cen;have kg:wr.cell? ⟨x.g,0,none⟩=some (.func (.func 90) #[] #[.pointer (some ⟨x.m,0,none⟩),.pointer (some ⟨x.f,0,none⟩),.pointer (some ⟨x.t,0,none⟩),.pointer (some ⟨x.fr,0,none⟩),.pointer (some ⟨x.en,0,none⟩),.pointer (some ⟨x.p,0,none⟩),.pointer (some ⟨x.l,0,none⟩),.pointer (some ⟨x.g,0,none⟩)]):=hl.gs.cg;have HC:Hid (∀ W,Below wr.heap.size wr W→W.cell? ⟨b,1,none⟩=some (.int .i64 n.f)∧W.cell? ⟨b,2,none⟩=some (.slice la L lc)∧W.cell? ⟨b,3,none⟩=some (.slice (some ⟨g,o,none⟩) N cc)∧W.cell? ⟨x.en,0,none⟩=some (.string en)∧W.cell? ⟨x.g,0,none⟩=some (.func (.func 90) #[] #[.pointer (some ⟨x.m,0,none⟩),.pointer (some ⟨x.f,0,none⟩),.pointer (some ⟨x.t,0,none⟩),.pointer (some ⟨x.fr,0,none⟩),.pointer (some ⟨x.en,0,none⟩),.pointer (some ⟨x.p,0,none⟩),.pointer (some ⟨x.l,0,none⟩),.pointer (some ⟨x.g,0,none⟩)])∧W.cell? ⟨g,o+k,none⟩=some (.iface ut ux)):=fun W hW=>by
     have:=hl.below hW;exact ⟨this.br.c1,this.br.c2,this.br.c3,this.gs.cen,this.gs.cg,by
      rw [← Hw];obtain ⟨g',o',he,h1⟩:=this.br.qi hu;cases he;exact h1⟩
    have tj:Hid (∀ (k':Nat) (W:World) (v':Value) (a':List Pr) (M':List Nat),I5 base A db F d w0 tb x fr en lim lo t w v acc M b n (.slice xa n.ps.length xc) (.slice la L lc) (.slice (some ⟨g,o,none⟩) N cc) k' W v' a' M'→W.cell? ⟨b,1,none⟩=some (.int .i64 n.f)∧W.cell? ⟨b,2,none⟩=some (.slice la L lc)∧W.cell? ⟨b,3,none⟩=some (.slice (some ⟨g,o,none⟩) N cc)∧W.cell? ⟨x.en,0,none⟩=some (.string en)∧W.cell? ⟨x.g,0,none⟩=some (.func (.func 90) #[] #[.pointer (some ⟨x.m,0,none⟩),.pointer (some ⟨x.f,0,none⟩),.pointer (some ⟨x.t,0,none⟩),.pointer (some ⟨x.fr,0,none⟩),.pointer (some ⟨x.en,0,none⟩),.pointer (some ⟨x.p,0,none⟩),.pointer (some ⟨x.l,0,none⟩),.pointer (some ⟨x.g,0,none⟩)])∧W.cell? ⟨g,o+k,none⟩=some (.iface ut ux)):=fun k' W v' a' M' this=>by
     exact ⟨this.br.c1,this.br.c2,this.br.c3,this.gs.cen,this.gs.cg,by
      rw [← Hw];obtain ⟨g',o',he,h1⟩:=this.br.qi hu;cases he;exact h1⟩
    have HU:=ab hu;have HUV:=ab Hw;have Mg:(0:Int)≤(k:Int):=by omega
    have iV:(k:Int)<(N:Int):=by omega
    have T4:IntKind.i64.wrap ((k:Int)+1)=(k:Int)+1:=by rw [IntKind.wrap_i64];omega
    have hwd:IntKind.i64.wrap ((dp:Int)+1)=(dp:Int)+1:=by have:=ZH.out;rw [IntKind.wrap_i64];omega
    have gy:=ab eZ;have Vl:Hid (k+1≤N):=bO;clear hl hcu hN eZ hu Hw IX Oc bO hkN;by_cases hbh:yU en (Np t.2.1 k)=true
    ·rw [hbh] at Zm;rw [if_pos hbh] at gy;clear SZ;go_wp2_with fail;refine wp_region_held_drew (S:=(fun w'=>w'.cell? ⟨b,1,none⟩=some (.int .i64 n.f)∧w'.cell? ⟨b,2,none⟩=some (.slice la L lc)∧w'.cell? ⟨x.en,0,none⟩=some (.string en))) (by kernel_rfl) ⟨p1,p2,ken⟩ (fun gu=>?_)
     refine wpAnyH_take (i:=0) (oi:={ dst:=some 70,op:=Op.move (Operand.tmp 13),type:=152,pos := "look.go:49",after:=#[],guard:=none }) (v:=?_) rfl (by kernel_rfl) (by kernel_rfl) (by kernel_rfl) (fun _ _ _ h=>h) (Or.inl ⟨by rfl,?_⟩) (by assumption) ?_
     rotate_left
     ·(intro w' yB;(try dsimp only at yB);go_simp;try with_reducible rfl)
     simp only [Act.put,aC,List.set_cons_zero,List.set_cons_succ];refine wpAnyH_take (i:=1) (oi:={ dst:=some 71,op:=Op.nilCheck (Operand.tmp 70),type:=0,pos := "look.go:49",after:=#[{ on:=0,ground:=Ground.data }],guard:=none }) (v:=?_) rfl (by kernel_rfl) (by kernel_rfl) (by kernel_rfl) (fun _ _ _ h=>h) (Or.inl ⟨by rfl,?_⟩) (by assumption) ?_
     rotate_left
     ·(intro w' yB;(try dsimp only at yB);go_simp;try with_reducible rfl)
     simp only [Act.put,aC,List.set_cons_zero,List.set_cons_succ];refine wpAnyH_take (i:=2) (oi:={ dst:=some 72,op:=Op.fieldAddr 155 (Operand.tmp 71) 1,type:=0,pos := "look.go:49",after:=#[{ on:=1,ground:=Ground.data }],guard:=none }) (v:=?_) rfl (by kernel_rfl) (by kernel_rfl) (by kernel_rfl) (fun _ _ _ h=>h) (Or.inl ⟨by rfl,?_⟩) (by assumption) ?_
     rotate_left
     ·(intro w' yB;(try dsimp only at yB);go_simp;try with_reducible rfl)
     simp only [Act.put,aC,List.set_cons_zero,List.set_cons_succ];refine wpAnyH_take (i:=3) (oi:={ dst:=some 73,op:=Op.load 150 (Operand.tmp 72),type:=150,pos := "look.go:49",after:=#[{ on:=2,ground:=Ground.data }],guard:=none }) (v:=?_) rfl (by kernel_rfl) (by kernel_rfl) (by kernel_rfl) (fun _ _ _ h=>h) (Or.inl ⟨by rfl,?_⟩) (by assumption) ?_
     rotate_left
     ·(intro w' yB;(try dsimp only at yB);go_simp;try with_reducible rfl)
     simp only [Act.put,aC,List.set_cons_zero,List.set_cons_succ];refine wpAnyH_take (i:=4) (oi:={ dst:=some 74,op:=Op.move (Operand.tmp 16),type:=3,pos := "look.go:49",after:=#[],guard:=none }) (v:=?_) rfl (by kernel_rfl) (by kernel_rfl) (by kernel_rfl) (fun _ _ _ h=>h) (Or.inl ⟨by rfl,?_⟩) (by assumption) ?_
     rotate_left
     ·(intro w' yB;(try dsimp only at yB);go_simp;try with_reducible rfl)
     simp only [Act.put,aC,List.set_cons_zero,List.set_cons_succ];refine wpAnyH_take (i:=5) (oi:={ dst:=some 75,op:=Op.load 9 (Operand.tmp 6),type:=9,pos := "look.go:49",after:=#[],guard:=none }) (v:=?_) rfl (by kernel_rfl) (by kernel_rfl) (by kernel_rfl) (fun _ _ _ h=>h) (Or.inl ⟨by rfl,?_⟩) (by assumption) ?_
     rotate_left
     ·(intro w' yB;(try dsimp only at yB);go_simp;try with_reducible rfl)
     simp only [Act.put,aC,List.set_cons_zero,List.set_cons_succ];refine wpAnyH_ready (rs:=[6]) (by kernel_rfl) (by simp) ?_
     refine AllReadyH.cons (o:={ dst:=some 76,op:=Op.call { callee:=Callee.value (Operand.func 95),args:=#[Operand.tmp 73,Operand.tmp 74,Operand.tmp 75],argTypes:=#[150,3,9] },type:=4,pos := "look.go:49",after:=#[{ on:=3,ground:=Ground.data },{ on:=4,ground:=Ground.data },{ on:=5,ground:=Ground.data }],guard:=none }) rfl (fun K hK=>?_) AllReadyH.nil
     clear gu;go_simp
     refine (Zm.out _ (by first | exact Below.refl _ _ | exact B.aP (Below.refl _ _))).mono ?_
     rintro e w3 ⟨rfl,bW⟩;have eH:=ab bW;obtain ⟨n1,n2,n3,n4,n5,n6⟩:=HC.out w3 bW;clear bW;refine hK.out _ _ ⟨n1,n2,n4⟩ (fun gu=>?_)
     clear hK K;refine wpAnyH_take (i:=7) (oi:={ dst:=some 77,op:=Op.move (Operand.tmp 76),type:=4,pos := "look.go:49",after:=#[{ on:=6,ground:=Ground.data },{ on:=6,ground:=Ground.chain }],guard:=none }) (v:=?_) rfl (by kernel_rfl) (by kernel_rfl) (by kernel_rfl) (fun _ _ _ h=>h) (Or.inl ⟨by rfl,?_⟩) (by assumption) ?_
     rotate_left
     ·(intro w' yB;(try dsimp only at yB);go_simp;try with_reducible rfl)
     simp only [Act.put,aC,List.set_cons_zero,List.set_cons_succ];refine wpAnyH_take (i:=8) (oi:={ dst:=some 78,op:=Op.load 167 (Operand.tmp 9),type:=167,pos := "look.go:49",after:=#[{ on:=7,ground:=Ground.guard }],guard:=some (7,false) }) (v:=undef) rfl (by kernel_rfl) (by kernel_rfl) (by kernel_rfl) (fun _ _ _ h=>h) (Or.inr ⟨by rfl,rfl⟩) (by assumption) ?_
     simp only [Act.put,aC,List.set_cons_zero,List.set_cons_succ];refine wpAnyH_take (i:=9) (oi:={ dst:=some 79,op:=Op.move (Operand.tmp 13),type:=152,pos := "look.go:49",after:=#[{ on:=7,ground:=Ground.guard }],guard:=some (7,false) }) (v:=undef) rfl (by kernel_rfl) (by kernel_rfl) (by kernel_rfl) (fun _ _ _ h=>h) (Or.inr ⟨by rfl,rfl⟩) (by assumption) ?_
     simp only [Act.put,aC,List.set_cons_zero,List.set_cons_succ];refine wpAnyH_take (i:=10) (oi:={ dst:=some 80,op:=Op.nilCheck (Operand.tmp 79),type:=0,pos := "look.go:49",after:=#[{ on:=9,ground:=Ground.data },{ on:=7,ground:=Ground.guard }],guard:=some (7,false) }) (v:=undef) rfl (by kernel_rfl) (by kernel_rfl) (by kernel_rfl) (fun _ _ _ h=>h) (Or.inr ⟨by rfl,rfl⟩) (by assumption) ?_
     simp only [Act.put,aC,List.set_cons_zero,List.set_cons_succ];refine wpAnyH_take (i:=11) (oi:={ dst:=some 81,op:=Op.fieldAddr 155 (Operand.tmp 80) 2,type:=0,pos := "look.go:49",after:=#[{ on:=10,ground:=Ground.data },{ on:=7,ground:=Ground.guard }],guard:=some (7,false) }) (v:=undef) rfl (by kernel_rfl) (by kernel_rfl) (by kernel_rfl) (fun _ _ _ h=>h) (Or.inr ⟨by rfl,rfl⟩) (by assumption) ?_
     simp only [Act.put,aC,List.set_cons_zero,List.set_cons_succ];refine wpAnyH_take (i:=12) (oi:={ dst:=some 82,op:=Op.load 153 (Operand.tmp 81),type:=153,pos := "look.go:49",after:=#[{ on:=11,ground:=Ground.data },{ on:=7,ground:=Ground.guard }],guard:=some (7,false) }) (v:=undef) rfl (by kernel_rfl) (by kernel_rfl) (by kernel_rfl) (fun _ _ _ h=>h) (Or.inr ⟨by rfl,rfl⟩) (by assumption) ?_
     simp only [Act.put,aC,List.set_cons_zero,List.set_cons_succ];refine wpAnyH_take (i:=13) (oi:={ dst:=some 83,op:=Op.move (Operand.tmp 16),type:=3,pos := "look.go:49",after:=#[{ on:=7,ground:=Ground.guard }],guard:=some (7,false) }) (v:=undef) rfl (by kernel_rfl) (by kernel_rfl) (by kernel_rfl) (fun _ _ _ h=>h) (Or.inr ⟨by rfl,rfl⟩) (by assumption) ?_
     simp only [Act.put,aC,List.set_cons_zero,List.set_cons_succ];refine wpAnyH_take (i:=14) (oi:={ dst:=some 84,op:=Op.indexAddr 153 (Operand.tmp 82) (Operand.tmp 83),type:=0,pos := "look.go:49",after:=#[{ on:=12,ground:=Ground.data },{ on:=13,ground:=Ground.data },{ on:=7,ground:=Ground.guard }],guard:=some (7,false) }) (v:=undef) rfl (by kernel_rfl) (by kernel_rfl) (by kernel_rfl) (fun _ _ _ h=>h) (Or.inr ⟨by rfl,rfl⟩) (by assumption) ?_
     simp only [Act.put,aC,List.set_cons_zero,List.set_cons_succ];refine wpAnyH_take (i:=15) (oi:={ dst:=some 85,op:=Op.load 97 (Operand.tmp 84),type:=97,pos := "look.go:49",after:=#[{ on:=14,ground:=Ground.data },{ on:=7,ground:=Ground.guard }],guard:=some (7,false) }) (v:=undef) rfl (by kernel_rfl) (by kernel_rfl) (by kernel_rfl) (fun _ _ _ h=>h) (Or.inr ⟨by rfl,rfl⟩) (by assumption) ?_
     simp only [Act.put,aC,List.set_cons_zero,List.set_cons_succ];refine wpAnyH_take (i:=16) (oi:={ dst:=some 86,op:=Op.move (Operand.tmp 1),type:=3,pos := "look.go:49",after:=#[{ on:=7,ground:=Ground.guard }],guard:=some (7,false) }) (v:=undef) rfl (by kernel_rfl) (by kernel_rfl) (by kernel_rfl) (fun _ _ _ h=>h) (Or.inr ⟨by rfl,rfl⟩) (by assumption) ?_
     simp only [Act.put,aC,List.set_cons_zero,List.set_cons_succ];refine wpAnyH_take (i:=17) (oi:={ dst:=some 87,op:=Op.binOp BinOp.add 3 (Operand.tmp 86) (Operand.const (Value.int IntKind.i64 1)) 3,type:=3,pos := "look.go:49",after:=#[{ on:=16,ground:=Ground.data },{ on:=7,ground:=Ground.guard }],guard:=some (7,false) }) (v:=undef) rfl (by kernel_rfl) (by kernel_rfl) (by kernel_rfl) (fun _ _ _ h=>h) (Or.inr ⟨by rfl,rfl⟩) (by assumption) ?_
     simp only [Act.put,aC,List.set_cons_zero,List.set_cons_succ];refine wpAnyH_take (i:=18) (oi:={ dst:=some 88,op:=Op.call { callee:=Callee.value (Operand.tmp 78),args:=#[Operand.tmp 85,Operand.tmp 87],argTypes:=#[97,3] },type:=4,pos := "look.go:49",after:=#[{ on:=8,ground:=Ground.data },{ on:=15,ground:=Ground.data },{ on:=17,ground:=Ground.data },{ on:=7,ground:=Ground.chain },{ on:=7,ground:=Ground.guard }],guard:=some (7,false) }) (v:=undef) rfl (by kernel_rfl) (by kernel_rfl) (by kernel_rfl) (fun _ _ _ h=>h) (Or.inr ⟨by rfl,rfl⟩) (by assumption) ?_
     simp only [Act.put,aC,List.set_cons_zero,List.set_cons_succ];refine wpAnyH_take (i:=19) (oi:={ dst:=some 89,op:=Op.unOp UnOp.not 4 (Operand.tmp 88),type:=4,pos := "look.go:49",after:=#[{ on:=18,ground:=Ground.data },{ on:=7,ground:=Ground.guard }],guard:=some (7,false) }) (v:=undef) rfl (by kernel_rfl) (by kernel_rfl) (by kernel_rfl) (fun _ _ _ h=>h) (Or.inr ⟨by rfl,rfl⟩) (by assumption) ?_
     simp only [Act.put,aC,List.set_cons_zero,List.set_cons_succ];refine wpAnyH_take (i:=20) (oi:={ dst:=some 90,op:=Op.pick (Operand.tmp 77) (Operand.const (Value.bool true)) (Operand.tmp 89),type:=4,pos := "look.go:49",after:=#[{ on:=7,ground:=Ground.data },{ on:=19,ground:=Ground.data }],guard:=none }) (v:=?_) rfl (by kernel_rfl) (by kernel_rfl) (by kernel_rfl) (fun _ _ _ h=>h) (Or.inl ⟨by rfl,?_⟩) (by assumption) ?_
     rotate_left
     ·(intro w' yB;(try dsimp only at yB);go_simp;try with_reducible rfl)
     simp only [Act.put,aC,List.set_cons_zero,List.set_cons_succ];refine wpAnyH_done (by kernel_rfl) ?_ _
     clear gu;go_wp2;go_ret;exact (HL.out.below eH.out).out gy.out
    ·rw [Bool.not_eq_true] at hbh;rw [hbh] at Zm;rw [if_neg (by rw [hbh];simp)] at gy
     obtain ⟨r,hr⟩ : ∃ r,r=(fy fr en lim h c ak).2:=⟨_,rfl⟩;rw [← hr] at SZ gy;have HR:=ab hr;clear hr;go_wp2_with fail;cases r
     ·rw [if_neg (by simp)] at gy
      go_region_held3 (fun w'=>w'.cell? ⟨b,1,none⟩=some (.int .i64 n.f)∧w'.cell? ⟨b,2,none⟩=some (.slice la L lc)∧w'.cell? ⟨x.en,0,none⟩=some (.string en)∧w'.cell? ⟨b,3,none⟩=some (.slice (some ⟨g,o,none⟩) N cc)∧w'.cell? ⟨x.g,0,none⟩=some (.func (.func 90) #[] #[.pointer (some ⟨x.m,0,none⟩),.pointer (some ⟨x.f,0,none⟩),.pointer (some ⟨x.t,0,none⟩),.pointer (some ⟨x.fr,0,none⟩),.pointer (some ⟨x.en,0,none⟩),.pointer (some ⟨x.p,0,none⟩),.pointer (some ⟨x.l,0,none⟩),.pointer (some ⟨x.g,0,none⟩)])∧w'.cell? ⟨g,o+k,none⟩=some (.iface ut ux)) (go_keep)
       (first
        | (go_at_call 95;refine (Zm.out _ (by first | exact Below.refl _ _ | exact B.aP (Below.refl _ _))).mono ?_;rintro e w3 ⟨rfl,bW⟩;have eH:=ab bW;obtain ⟨n1,n2,n3,n4,n5,n6⟩:=HC.out w3 bW;clear bW)
        | (go_at_call 90;refine (SZ.out _ eH.out).mono ?_;rintro e w4 ⟨v4,M4,rfl,Ge⟩;have YE:=ab Ge;obtain ⟨o1,o2,o3,o4,o5,o6⟩:=tj.out _ _ _ _ _ Ge;clear Ge))
      all_goals
       go_wp2;go_ret;exact YE.out.out gy.out
     ·rw [if_pos rfl] at gy;go_region_held3 (fun w'=>w'.cell? ⟨b,1,none⟩=some (.int .i64 n.f)∧w'.cell? ⟨b,2,none⟩=some (.slice la L lc)∧w'.cell? ⟨x.en,0,none⟩=some (.string en)∧w'.cell? ⟨b,3,none⟩=some (.slice (some ⟨g,o,none⟩) N cc)∧w'.cell? ⟨x.g,0,none⟩=some (.func (.func 90) #[] #[.pointer (some ⟨x.m,0,none⟩),.pointer (some ⟨x.f,0,none⟩),.pointer (some ⟨x.t,0,none⟩),.pointer (some ⟨x.fr,0,none⟩),.pointer (some ⟨x.en,0,none⟩),.pointer (some ⟨x.p,0,none⟩),.pointer (some ⟨x.l,0,none⟩),.pointer (some ⟨x.g,0,none⟩)])∧w'.cell? ⟨g,o+k,none⟩=some (.iface ut ux)) (go_keep)
       (first
        | (go_at_call 95;refine (Zm.out _ (by first | exact Below.refl _ _ | exact B.aP (Below.refl _ _))).mono ?_;rintro e w3 ⟨rfl,bW⟩;have eH:=ab bW;obtain ⟨n1,n2,n3,n4,n5,n6⟩:=HC.out w3 bW;clear bW)
        | (go_at_call 90;refine (SZ.out _ eH.out).mono ?_;rintro e w4 ⟨v4,M4,rfl,Ge⟩;have YE:=ab Ge;obtain ⟨o1,o2,o3,o4,o5,o6⟩:=tj.out _ _ _ _ _ Ge;clear Ge))
      all_goals
       clear SZ HC Zm tj;go_wp2;go_roundw
       case rel=>exact ⟨k+1,v4,(fy fr en lim h c ak).1,M4,by rw [gk];rfl,Vl.out,YE.out,gy.out⟩
       case measure=>simp [intOf];have:=Vl.out;omega
   ·have:k=N:=by omega
    subst this;have HE:=ab (HL.out.out (e:=true) (by rw [HD.out,My _ _ _ _ _ _ (by have:=HN.out;have:=CI.out.1;omega)]))
    clear hl IX Oc CI HN HD HL;go_wp2;go_ret;exact HE.out
end
attribute [local go_sem ↓] Go.wp_at_zero Go.wp_at_succ
section
variable {PG:Int→Option PD} {w0:World} {lo pb:Nat} {pv:Value} {P:List Nat} {tx:Nat} {h:Nat} {w:World} {sv:Value} {Z:List S.Sh}
theorem UD{h:Nat}{cs:List (Nd h)}{c:Nd h}(hc:cs[0]?=some c):lZ cs=(fh h c:Int):=by
 cases cs with
 | nil=>simp at hc
 | cons d cs=>cases hc;rfl
theorem nA(IH:Vc PG w0 lo pb pv P tx h){b:Nat}{n:SN}{xv lv cv:Value}{t:Nd (h+1)}(tY:dP w0 b n xv lv cv)(hn:aW PG w0 (h+1) n t)(ho:R0 (h+1) t)(hP:p7 w0 lo pb pv P tx w sv Z)(jb:((cd (aY (fi P) h) t.2.2 Z.length).1.flatMap (cD h)).Nodup)(vi:Z.length+(t.2.2.map (jh h)).sum≤P.length):Calls prog 184 #[.pointer (some ⟨pb,0,none⟩),.pointer (some ⟨b,0,none⟩)] w fun e w'=>∃ ou TM,e = .returned (.agg #[.int .i64 (lZ (cd (aY (fi P) h) t.2.2 Z.length).1),TM])∧B.dm w' TM (qJ t.2.1 (cd (aY (fi P) h) t.2.2 Z.length).1)∧p7 w0 lo pb pv P tx w' ou (Z++(cd (aY (fi P) h) t.2.2 Z.length).2.map (j8 tx))∧mI pb w sv w' ou:=by
 have NM:n.us.length=t.2.2.length:=hn.1;have jg:t.2.1=n.lk.map (·.1):=hn.2.2.2.1;have h0:¬ n.us.length=0:=fun e=>hn.2.1 (List.length_eq_zero_iff.1 e)
 have gQ:n.us.length=n.lk.length+1:=by
  rcases hn.2.2.1 with h9 | h9
  ·exact absurd h9 h0
  ·exact h9
 have SD:0<n.lk.length:=by
  have h9:t.2.1≠[]:=ho.2.2;rw [jg] at h9;cases hl:n.lk with
  | nil=>rw [hl] at h9;exact absurd rfl h9
  | cons _ _=>simp
 have hU:=tY.fine;obtain ⟨W1,ig⟩ : ∃ W1,w.alloc (.cells #[.int .i64 0,.slice none 0 0] 150)=W1:=⟨_,rfl⟩;have aO:Below w.heap.size w W1:=ig▸ai w _;obtain ⟨H,hH⟩ : ∃ H,w.heap.size=H:=⟨_,rfl⟩;have rH:B.au W1 H #[.int .i64 0,.slice none 0 0] 150:=by rw [← hH];exact ig▸B.au.new w _ _
 have hP1:=hP.below aO;obtain ⟨news,ie⟩ : ∃ news,news=(cd (aY (fi P) h) t.2.2 Z.length).1:=⟨_,rfl⟩;have yu:news.length=n.lk.length+1:=by rw [ie,iw];omega
 have Gj:(qJ t.2.1 news).length=n.lk.length:=by rw [wC _ _ (by rw [yu,jg,az]),jg,az]
 obtain ⟨q0,Sy⟩ : ∃ q,n.us[0]?=some q:=⟨_,af (by omega)⟩
 obtain ⟨c0,qQ⟩ : ∃ c,t.2.2[0]?=some c:=⟨_,af (by omega)⟩
 obtain ⟨la,lc,pW⟩:=tY.bn.form;obtain ⟨ca,cc,sU⟩:=tY.kids.form;have XJ:=tY.bn;subst pW sU;obtain ⟨g,o,rfl,bq⟩:=tY.br.qi Sy;obtain ⟨ut,ux,Hw⟩:=bU q0;rw [Hw,Nat.add_zero] at bq;obtain ⟨ta,htr,aaC⟩:=tY.kids.drop (m:=1) (by omega)
 have nP:∀ W',(Instr.sliceAt 153 (.slice (some ⟨g,o,none⟩) (n.lk.length+1) cc) (some (.int .i64 1)) none none).run prog W' = .ok (.slice ta n.lk.length (cc - 1)) W':=fun W'=>by
  have:=aaC W';rw [gQ] at this;simpa using this
 have Yh:Hid (∀ i q,n.us[i+1]?=some q→∃ g' o',ta=some ⟨g',o',none⟩∧w0.cell? ⟨g',o'+i,none⟩=some q.val):=fun i q hq=>by
  obtain ⟨a',c',he,-,-,hc⟩:=htr;simp only [Value.slice.injEq] at he;obtain ⟨rfl,-,-⟩:=he;exact hc i q.val (by unfold C.bn;rw [aG,bZ,Nat.add_comm 1 i,hq];rfl)
 have QA:=JW (aY (fi P) h) t.2.2 Z.length 0 c0 qQ;simp only [List.take_zero,cd,List.length_nil,Nat.add_zero,List.nil_append] at QA;have Sm:Hid (∀ W kk uu,sY w0 lo pb pv P tx n.lk w sv H W sv Z kk uu→Calls prog 72 #[.pointer (some ⟨pb,0,none⟩),.iface ut ux] W fun e w'=>∃ ou,e = .returned (.int .i64 (lZ news))∧sY w0 lo pb pv P tx n.lk w sv H w' ou (Z++(cd (aY (fi P) h) (t.2.2.take 1) Z.length).2.map (j8 tx)) kk uu):=fun W kk uu hW=>by
  have L6:jh h c0≤(t.2.2.map (jh h)).sum:=by
   have e1:=xo (l:=t.2.2.map (jh h)) (i:=0) (x:=jh h c0) (by rw [aG,qQ];rfl)
   have e2:=lH (t.2.2.map (jh h)) 1;simp only [List.take_zero,List.sum_nil,Nat.zero_add] at e1;omega
  rw [← Hw];refine (IH q0 c0 W sv Z (hn.qi Sy qQ) (wk ho qQ) hW.zo (by omega) (xV jb QA.1)).mono ?_
  rintro e w' ⟨ou,rfl,g1,g2⟩;refine ⟨ou,by rw [ie,UD QA.1],hW.move g2 ?_⟩
  rw [show t.2.2.take 1=t.2.2.take (0+1) from rfl,QA.2]
  exact g1
 have tj:Hid (∀ W sx Zc kk,sY w0 lo pb pv P tx n.lk w sv H W sx Zc kk none→Calls prog 209 #[.slice la n.lk.length lc] W fun e w'=>∃ ug uc,e = .returned (.slice (some ⟨ug,0,none⟩) n.lk.length uc)∧sY w0 lo pb pv P tx n.lk w sv H w' sx Zc kk (some (ug,uc))):=fun W sx Zc kk hW=>by
  refine (B.eN _ n.lk W (by have:=hU.2.2.2.1;omega) (XJ.below hW.zo.eT)).mono ?_
  rintro e w' ⟨u,rfl,hou,hb⟩;obtain ⟨ug,uc,hu,-⟩:=hou.has SD;subst hu;exact ⟨ug,uc,rfl,hW.clone hou hb⟩
 have HOL:Hid (∀ W,Below w0.heap.size w0 W→W.cell? ⟨b,3,none⟩=some (.slice (some ⟨g,o,none⟩) (n.lk.length+1) cc)∧W.cell? ⟨b,2,none⟩=some (.slice la n.lk.length lc)∧W.cell? ⟨g,o,none⟩=some (.iface ut ux)):=fun W hW=>⟨by rw [← gQ];exact (tY.below hW).c3,(tY.below hW).c2,(hW.cell (p:=⟨g,o,none⟩) (World.block_lt_of_cell? w0 _ bq)).trans bq⟩
 obtain ⟨p3,p2,p4⟩:=HOL.out W1 hP1.eT;have J4:(0:Int)≤(n.lk.length:Int):=by omega
 have A8:(0:Int)<(n.lk.length:Int)+1:=by omega
 have zg:Hid (sY w0 lo pb pv P tx n.lk w sv H W1 sv Z none none):=⟨hP1,mI.below sv aO,rH,⟨by omega,by have:=hP.row.lt;omega,fun e=>by have:=(hP.sh.dx e).2;omega⟩,(fun _ h=>by cases h),(fun _ _ h=>by cases h),(fun _ _ _ h=>by cases h)⟩
 have Oc:Hid (∀ (k:Nat) (q:C.Ch) (c:Nd h),n.us[k]?=some q→t.2.2[k]?=some c→eu PG w0 h q c∧R0 h c):=fun k q c h1 h2=>⟨hn.qi h1 h2,wk ho h2⟩
 have HIH:Hid (Vc PG w0 lo pb pv P tx h):=IH;have Wr:=ab jb;have wT:=ab vi;have Wv:Hid (n.lk.map (·.1)=t.2.1):=jg.symm;have Ve:Hid (w0.heap.size≤w.heap.size):=hP.eT.size;have HBG:Hid (b<w.heap.size∧g<w.heap.size):=⟨aq tY.row.lt hP.eT.size,aq (World.block_lt_of_cell? w0 _ bq) hP.eT.size⟩;have HRH:=ab rH;have HHW:Hid (w.heap.size=H∧W1.heap.size=H+1∧Below w.heap.size w W1):=⟨hH,by rw [← ig,← hH];simp,aO⟩
 have kR:Hid (0<n.lk.length∧n.us.length=n.lk.length+1∧n.lk.length≤4000∧n.us.length=t.2.2.length∧(qJ t.2.1 news).length=n.lk.length):=⟨SD,gQ,hU.2.2.2.1,NM,Gj⟩;have HNW:=ab ie;rw [← ie];clear jg jb vi htr aaC hP1 hP rH aO SD gQ hU NM yu Gj XJ bq QA Sy qQ Hw h0 ie;go_enter func184,ntmps184;go_upto_region 1 with fail
 go_cut [5] (fun u wx=>∃ K ug uc sx,u = .pointer (some ⟨K,0,none⟩)∧Am w0 lo pb pv P tx t.2.2 Z.length (qJ t.2.1 news) n.lk (lZ news) w sv Z H K ug uc 0 1 wx sx)
 case first =>
  go_region_held3 (fun w'=>w'.cell? ⟨b,3,none⟩=some (.slice (some ⟨g,o,none⟩) (n.lk.length+1) cc)∧w'.cell? ⟨b,2,none⟩=some (.slice la n.lk.length lc)∧w'.cell? ⟨g,o,none⟩=some (.iface ut ux)) (go_keep)
   (first
    | (go_at_call 72;refine (Sm.out _ _ _ (by first | exact Zx.out | exact Zx.out.drew | exact Zx.out.alloc | exact Zx.out.alloc.drew | exact zg.out | exact zg.out.drew | exact zg.out.alloc | exact zg.out.alloc.drew)).mono ?_;rintro e wl ⟨sl,rfl,hq⟩;have Sf:=ab hq;obtain ⟨x3,x2,x4⟩:=HOL.out wl hq.zo.eT;(try (have kr:=(hq.kr _ rfl).1;have ke1:=Nat.ne_of_gt (aq HBG.out.1 (hq.kr _ rfl).2.1);have ke2:=Nat.ne_of_gt (aq HBG.out.2 (hq.kr _ rfl).2.1);have kc0:=kr.c0;have kc1:=kr.c1;have kf0:=kr.free 0;have kf1:=kr.free 1;clear kr));clear hq)
    | (go_at_call 209;refine (tj.out _ _ _ _ (by first | exact Sf.out | exact Sf.out.drew | exact Sf.out.alloc | exact Sf.out.alloc.drew | exact zg.out | exact zg.out.drew | exact zg.out.alloc | exact zg.out.alloc.drew)).mono ?_;rintro e wc ⟨ug,uc,rfl,hq⟩;have Zx:=ab hq;obtain ⟨y3,y2,y4⟩:=HOL.out wc hq.zo.eT;(try (have kr:=(hq.kr _ rfl).1;have ke3:=Nat.ne_of_gt (aq HBG.out.1 (hq.kr _ rfl).2.1);have ke4:=Nat.ne_of_gt (aq HBG.out.2 (hq.kr _ rfl).2.1);have kd0:=kr.c0;have kd1:=kr.c1;have kg0:=kr.free 0;have kg1:=kr.free 1;clear kr));clear hq))
  all_goals
   go_wp2_with fail;go_meet
   first
    | exact ⟨_,_,_,_,rfl,sY.done Zx.out Ve.out⟩
    | exact ⟨_,_,_,_,rfl,sY.done Sf.out Ve.out⟩
    | exact ⟨_,_,_,_,rfl,sY.V9 Zx.out⟩
    | exact ⟨_,_,_,_,rfl,sY.V9 Sf.out⟩
 case rest =>
  obtain ⟨K,ug,uc,sx,rfl,hB⟩:=hcut;obtain ⟨z3,z2,z4⟩:=HOL.out _ hB.zo.eT;have vY:=ab hB;clear hB Sm tj zg p3 p2 p4;go_wp2_with fail;go_loopw [29] (fun iv wr=>∃ (i:Nat) (sy:Value),iv = .int .i64 (i:Int)∧i≤n.lk.length∧Am w0 lo pb pv P tx t.2.2 Z.length (qJ t.2.1 news) n.lk (lZ news) w sv Z H K ug uc i (i+1) wr sy) (fun iv _=>n.lk.length - (intOf iv).toNat)
  case atStart=>exact ⟨0,sx,rfl,aB _,vY.out⟩
  case round =>
   obtain ⟨i,sy,rfl,hiL,hB⟩:=hrel;obtain ⟨XK,Uo,hl3,Ge,VX⟩:=kR.out;clear vY z3 z2 z4 nP;by_cases bO:i<n.lk.length
   ·obtain ⟨q,hq⟩ : ∃ q,n.us[i+1]?=some q:=⟨_,af (by omega)⟩
    obtain ⟨c,hc⟩ : ∃ c,t.2.2[i+1]?=some c:=⟨_,af (by omega)⟩
    obtain ⟨g',o',rfl,J6⟩:=Yh.out i q hq;obtain ⟨qt,qx,hqv⟩:=bU q;rw [hqv] at J6;have QQ:wr.cell? ⟨g',o'+i,none⟩=some (.iface qt qx):=(hB.zo.eT.cell (p:=⟨g',o'+i,none⟩) (World.block_lt_of_cell? w0 _ J6)).trans J6;obtain ⟨hk,cM⟩:=Oc.out (i+1) q c hq hc;have Sl:Hid (∀ W,Below wr.heap.size wr W→Calls prog 72 #[.pointer (some ⟨pb,0,none⟩),.iface qt qx] W fun e w'=>∃ ou c',(cd (aY (fi P) h) t.2.2 Z.length).1[i+1]?=some c'∧e = .returned (.int .i64 (fh h c':Int))∧Am w0 lo pb pv P tx t.2.2 Z.length (qJ t.2.1 news) n.lk (lZ news) w sv Z H K ug uc i (i+1+1) w' ou):=fun W hW=>by
     rw [← hqv];exact (hB.below hW).call HIH.out rfl Wr.out wT.out hc hk cM
    have kk1:wr.cell? ⟨K,1,none⟩=some (.slice (some ⟨ug,0,none⟩) n.lk.length uc):=hB.row.c1;have akc:ug≠K:=fun e=>hB.ne.1 e.symm
    have ud:(0:Int)≤(i:Int):=by omega
    have CT:(i:Int)<(n.lk.length:Int):=by omega
    have vU:(i:Int)<4000:=by omega
    have Vn:Hid (i<n.lk.length):=bO;have HAL:Hid ((qJ t.2.1 news).length=n.lk.length):=VX;clear hB J6 hk cM hq hc hqv bO hiL XK Uo hl3 Ge VX;go_wp2_with fail;go_region_held3 (fun w'=>w'.cell? ⟨K,1,none⟩=some (.slice (some ⟨ug,0,none⟩) n.lk.length uc)) (go_keep)
     (first
      | (go_at_call 72;refine (Sl.out _ (by first | exact Below.refl _ _ | exact B.aP (Below.refl _ _))).mono ?_;rintro e w4 ⟨sz,c',vj,rfl,hB4⟩;obtain ⟨⟨u4,hu4⟩,hf4,hB5⟩:=hB4.put Ve.out Wv.out (by rw [HNW.out]) HAL.out Vn.out vj;have jd:=ab hB5;have n1:=hB4.row.c1;clear hB4 hB5 vj))
    all_goals
     clear Sl;go_wp2;go_roundw
     case rel=>exact ⟨i+1,sz,by go_num,Vn.out,by first | exact jd.out | exact jd.out.below (B.aP (Below.refl _ _))⟩
     case measure=>simp [intOf];have:=Vn.out;omega
   ·have hiE:i=n.lk.length:=by omega
    have kk0:wr.cell? ⟨K,0,none⟩=some (.int .i64 (lZ news)):=hB.row.c0;have kk1:wr.cell? ⟨K,1,none⟩=some (.slice (some ⟨ug,0,none⟩) n.lk.length uc):=hB.row.c1;have hh0:=hB.res.c0;have hh1:=hB.res.c1;have NV:=hB.res.free 0;have hf1:=hB.res.free 1;have hU:=hB.fin Ve.out (.int .i64 (lZ news)) (.slice (some ⟨ug,0,none⟩) n.lk.length uc);have cz:=ab hB.res;rw [PI VX (by omega),ao (by omega:t.2.2.length≤i+1)] at hU
    have mM:=ab hU;have CT:¬ (i:Int)<(n.lk.length:Int):=by omega
    clear hB hU hiL XK Uo hl3 Ge VX bO hiE;go_wp2;refine bodyPost_ret (results_cell_row rfl _ _ H 150 _ (0,0) _ rfl (cz.out.two _ _) underlying150 rfl (by kernel_rfl)) rfl ?_
    exact ⟨sy,_,rfl,mM.out.1,mM.out.2.1,mM.out.2.2⟩
end
end T
end Go.Proofs.YtihmgigfkmofnaaGreatDoor
