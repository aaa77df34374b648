import Derived.Test.YtihmgigfkmofnaaGreatDoorG33
import Derived.Deep.CutBlock
set_option maxHeartbeats 8000000
set_option maxRecDepth 100000
open Go.Proofs.Tryz
namespace Go.Proofs.YtihmgigfkmofnaaGreatDoor
namespace T
open Go.RowKit
attribute [local go_sem ↓] Go.wp_at_zero Go.wp_at_succ
section
variable {base:Nat} {A:Nat→Addr} {db:Nat} {F:Nat→Prop} {d:S.V.bq} {w0:World} {tb:Nat} {x:Bx} {fr en:ByteArray} {lim lo:Nat}
theorem Br.c1{w:World}{b:Nat}{n:SN}{pv lv cv:Value}(h:Br w b n pv lv cv):w.cell? ⟨b,1,none⟩=some (.int .i64 n.f):=h.row.cell 1 (by simp)
theorem Br.c2{w:World}{b:Nat}{n:SN}{pv lv cv:Value}(h:Br w b n pv lv cv):w.cell? ⟨b,2,none⟩=some lv:=h.row.cell 2 (by simp)
theorem Br.c3{w:World}{b:Nat}{n:SN}{pv lv cv:Value}(h:Br w b n pv lv cv):w.cell? ⟨b,3,none⟩=some cv:=h.row.cell 3 (by simp)
theorem Br.pS{w:World}{b:Nat}{n:SN}{pv lv:Value}{a:Option Addr}{m c:Nat}(h:Br w b n pv lv (.slice a m c)){k:Nat}{p:C.Ch}(hk:n.us[k]?=some p):∃ g o,a=some ⟨g,o,none⟩∧w.cell? ⟨g,o+k,none⟩=some p.val:=by
 obtain ⟨a',c',he,_,_,hc⟩:=h.kids;cases he;obtain ⟨g,o,ha,h1⟩:=hc k p.val (by unfold C.bm;rw [aL,hk];rfl)
 exact ⟨g,o,ha,h1⟩
theorem zI{rv:Value}{h:Nat}(IH:JM base A db F d w0 tb x fr en lim lo h)(gi:Dv base A db F d w0)(GW:B.ax w0 tb #[.pointer (some ⟨db,0,none⟩),rv] 100):JM base A db F d w0 tb x fr en lim lo (h+1):=by
 intro p t dp w v acc M hk nM hg PJ dZ jz lZ ny;have Ii:=ab (hg.again gi hk lZ ny);have oc:Hid (∀ W,Gs base A db F d w0 tb x fr en lim lo W v acc (M++df (fx (h+1) t))→Calls prog 92 #[.pointer (some ⟨tb,0,none⟩),p.val,.int .i64 (dp:Int)] W fun e w'=>(lY (ph d w0) A ⟨h+1,t⟩ e w'∧True)∧Dv base A db F d w'∧Mv db F W w'):=fun W hW=>by
  have aw:=hW.mv.bU gi;refine (lx (ph d w0) p ⟨h+1,t⟩ tb rv dp W ⟨⟨hk,nM⟩,.inl aw⟩ (cG aw GW) hW.dv (.inr (by omega))).mono ?_
  rintro e w' ⟨⟨h1,_⟩,h2,h3⟩;exact ⟨⟨h1,trivial⟩,h2,h3⟩
 have MY:Hid (∀ (k:Nat) (wr:World) (vk:Value) (ak:List Pr) (Mk:List Nat) (b:Nat) (n:SN) (pv lv cv:Value) (c:Nd h) (q:C.Ch),Ik base A db F d w0 tb x fr en lim lo t w v acc M b n pv lv cv k wr vk ak Mk→t.2.2[k]?=some c→eu (cJ d) w0 h q c→Calls prog 90 #[q.val,.int .i64 ((dp:Int)+1),.pointer (some ⟨x.m,0,none⟩),.pointer (some ⟨x.f,0,none⟩),.pointer (some ⟨x.t,0,none⟩),.pointer (some ⟨x.fr,0,none⟩),.pointer (some ⟨x.en,0,none⟩),.pointer (some ⟨x.p,0,none⟩),.pointer (some ⟨x.l,0,none⟩),.pointer (some ⟨x.g,0,none⟩)] wr fun e w'=>∃ v' M',e = .returned (.bool (fu fr en lim h c ak).2)∧Ik base A db F d w0 tb x fr en lim lo t w v acc M b n pv lv cv (k+1) w' v' (fu fr en lim h c ak).1 M'):=fun k wr vk ak Mk b n pv lv cv c q hl hc Zk=>hl.pS IH nM hc Zk PJ dZ jz lZ ny
 obtain ⟨pt,px,gw⟩:=bz p;rw [gw] at oc Ii ⊢;have k0:w.cell? ⟨x.m,0,none⟩=some (.map (some x.mb)):=hg.cm;have HDP:=ab PJ;have HGD:=ab nM;have WJ:Hid (df (fx (h+1) t)=df t.1):=rfl;clear hg hk nM gi GW gw PJ dZ lZ ny jz IH;go_enter func90,ntmps90;go_wp2_with fail;refine Ii.out.mono ?_
 rintro e wa ⟨rfl,yb,Pb⟩;have k1:wa.cell? ⟨x.t,0,none⟩=some (.pointer (some ⟨tb,0,none⟩)):=yb.ct;have Cz:=ab (oc.out wa yb);have HS:=ab yb;have HT:=ab Pb;clear yb Pb oc Ii k0;go_wp2_with fail;refine Cz.out.mono ?_
 rintro e w1 ⟨⟨zB,_⟩,dX,eo⟩;rcases zB with ⟨hE,_⟩ | ⟨b,n,pv,lv,cv,rfl,hs,hn⟩
 ·exact (hE:False).elim
 ·have V4:=HS.out.go eo dX;have AO:aU (cJ d) w0 (h+1) n t:=hn.1.1;have ML:n.us.length=t.2.2.length:=AO.1;have jE:t.2.1=n.lk.map (·.1):=AO.2.2.2.1;have h0:¬ n.us.length=0:=fun e=>AO.2.1 (List.length_eq_zero_iff.1 e)
  have mZ:=ab (ch b n pv lv cv w1 hs);rw [show decide (n.us.length=0)=false by simp [h0]] at mZ
  have ic:=hs.fine;have gT:n.us.length=n.lk.length+1:=by
   rcases AO.2.2.1 with h9 | h9
   ·exact absurd h9 h0
   ·exact h9
  have Ce:Hid (n.us.length=t.2.2.length∧t.2.1=n.lk.map (·.1)∧n.us.length=n.lk.length+1∧n.lk.length≤4000):=⟨ML,jE,gT,ic.2.2.2.1⟩;have MX:Hid (∀ (k:Nat) (q:C.Ch) (c:Nd h),n.us[k]?=some q→t.2.2[k]?=some c→eu (cJ d) w0 h q c):=fun k q c h1 h2=>AO.pS h1 h2
  have HSO:Hid (t.2.1.Pairwise fun a b=>cX a b=true):=by
   obtain ⟨⟨pQ,mz,ho⟩,_⟩:=HGD.out;exact jO ((fy h t pQ mz).1 ho)
  have zQ:Hid (∀ q,q≤n.us.length→Ik base A db F d w0 tb x fr en lim lo t w v acc M b n pv lv cv q w1 v acc (M++df t.1)):=fun q _=>by
   refine ⟨by rw [← WJ.out];exact V4,HT.out.trans (wj.mv v eo),hs.br,?_,fun i hi=>?_,?_⟩
   ·have:((t.2.2.drop q).flatMap (flat h)).length≤(flat (h+1) t).length:=by
     show _≤(t.2.2.flatMap (flat h)).length
     conv=>rhs;rw [← aG q t.2.2,aT,ae]
     omega
    omega
   ·rcases List.mem_append.1 hi with h | h
    ·exact .inl h
    ·exact .inr (dV _ h)
   ·simp only [ae];omega
  have p1:=hs.c1;have p2:=hs.c2;have VA:=V4.cfr;have JF:Hid (∀ W,Below w1.heap.size w1 W→Calls prog 81 #[.agg #[.int .i64 n.f,lv],.string fr] W fun e w'=>(∃ p:Nat,e = .returned (.int .i64 (p:Int))∧B.fI n.lk fr p)∧Below w1.heap.size w1 w'):=fun W hW=>(B.A5 n.f lv n.lk fr W (by omega) (hs.bm.below hW)).mono fun e w' ⟨h1,h2⟩=>⟨h1,Below.next hW h2⟩
  obtain ⟨la,lc,nT⟩:=hs.bm.form;obtain ⟨ca,cc,qO⟩:=hs.kids.form;obtain ⟨xa,xc,zC⟩:=hs.iD.form;obtain ⟨N,hN⟩ : ∃ N,N=n.us.length:=⟨_,rfl⟩;obtain ⟨L,hL⟩ : ∃ L,L=n.lk.length:=⟨_,rfl⟩;rw [← hN] at qO zQ;rw [← hL] at nT;subst nT qO zC;have HN:Hid (N=n.us.length):=hN;have HL:Hid (L=n.lk.length):=hL;clear dX eo Cz hs hn h0 AO ML jE ic gT k1 V4 hN hL;go_wp2_with fail;refine mZ.out.mono ?_
  rintro e w1' ⟨rfl,rfl⟩;go_wp2_with fail;go_region_held3 (fun w'=>w'.cell? ⟨b,1,none⟩=some (.int .i64 n.f)∧w'.cell? ⟨b,2,none⟩=some (.slice la L lc)∧w'.cell? ⟨x.fr,0,none⟩=some (.string fr)) (go_keep)
   (first
    | (go_at_call 81;refine (JF.out _ (by first | exact Below.refl _ _ | exact B.aN (Below.refl _ _))).mono ?_;rintro e w2 ⟨⟨q,rfl,vU⟩,aO⟩;have HPI:=ab vU;have bJ:=ab aO;have m0:=(aO.cell (p:=⟨b,1,none⟩) (World.block_lt_of_cell? w1 _ p1)).trans p1;have m1:=(aO.cell (p:=⟨b,2,none⟩) (World.block_lt_of_cell? w1 _ p2)).trans p2;have m2:=(aO.cell (p:=⟨x.fr,0,none⟩) (World.block_lt_of_cell? w1 _ VA)).trans VA;clear vU aO))
  clear m0 m1 m2 p1 p2 VA mZ JF HS HT;have HQ:Hid (q≤N∧Ik base A db F d w0 tb x fr en lim lo t w v acc M b n (.slice xa n.ps.length xc) (.slice la L lc) (.slice ca N cc) q w2 v acc (M++df t.1)∧fu fr en lim (h+1) t acc=lV (fu fr en lim h) en (Mo t.2.1 q) (t.2.1.drop q) (t.2.2.drop q) acc):=by
   have h1:=HPI.out.1;have h2:=Ce.out;have h3:=HN.out;exact ⟨by omega,(zQ.out q (by omega)).below bJ.out,Lu acc h2.2.1 HPI.out HSO.out⟩
  clear HPI zQ bJ HSO;go_wp2_with fail;go_loopw [16] (fun i wr=>∃ (k:Nat) (vk:Value) (ak:List Pr) (Mk:List Nat),i = .int .i64 (k:Int)∧k≤N∧Ik base A db F d w0 tb x fr en lim lo t w v acc M b n (.slice xa n.ps.length xc) (.slice la L lc) (.slice ca N cc) k wr vk ak Mk∧fu fr en lim (h+1) t acc=lV (fu fr en lim h) en (Mo t.2.1 k) (t.2.1.drop k) (t.2.2.drop k) ak)
   (fun i _=>N - (intOf i).toNat)
  case atStart=>exact ⟨q,v,acc,M++df t.1,rfl,HQ.out.1,HQ.out.2.1,HQ.out.2.2⟩
  case round =>
   obtain ⟨k,vk,ak,Mk,rfl,hkN,hl,ZC⟩:=hrel;have HL:=ab hl;have HD:=ab ZC;have p3:=hl.br.c3;clear ZC HQ;by_cases bP:k<N
   ·obtain ⟨u,hu⟩ : ∃ u,n.us[k]?=some u:=⟨_,af (by have:=HN.out;omega)⟩
    obtain ⟨c,hc⟩ : ∃ c,t.2.2[k]?=some c:=⟨_,af (by have:=HN.out;have:=Ce.out.1;omega)⟩
    obtain ⟨g,o,rfl,PO⟩:=hl.br.pS hu;obtain ⟨ut,ux,GV⟩:=bz u;rw [GV] at PO;have hcu:=Ce.out;have hN:=HN.out;have XE:Hid (∀ W,Below wr.heap.size wr W→Calls prog 95 #[.agg #[.int .i64 n.f,.slice la L lc],.int .i64 (k:Int),.string en] W fun e w'=>e = .returned (.bool (yy en (Mo t.2.1 k)))∧Below wr.heap.size wr w'):=fun W hW=>(BI n.f (.slice la L lc) n.lk k en W (hl.br.bm.below hW) (by omega) (by omega)).mono fun e w' ⟨h1,h2⟩=>⟨by rw [h1,hcu.2.1,TO _ _ _ (by omega)],Below.next hW h2⟩
    have RL:Hid (∀ W,Below wr.heap.size wr W→Calls prog 90 #[.iface ut ux,.int .i64 ((dp:Int)+1),.pointer (some ⟨x.m,0,none⟩),.pointer (some ⟨x.f,0,none⟩),.pointer (some ⟨x.t,0,none⟩),.pointer (some ⟨x.fr,0,none⟩),.pointer (some ⟨x.en,0,none⟩),.pointer (some ⟨x.p,0,none⟩),.pointer (some ⟨x.l,0,none⟩),.pointer (some ⟨x.g,0,none⟩)] W fun e w'=>∃ v' M',e = .returned (.bool (fu fr en lim h c ak).2)∧Ik base A db F d w0 tb x fr en lim lo t w v acc M b n (.slice xa n.ps.length xc) (.slice la L lc) (.slice (some ⟨g,o,none⟩) N cc) (k+1) w' v' (fu fr en lim h c ak).1 M'):=fun W hW=>by
     rw [← GV];exact MY.out k W vk ak Mk b n _ _ _ c u (hl.below hW) hc (MX.out k u c hu hc)
    have fi:=Hf (fu fr en lim h) en t.2.1 t.2.2 k ak c hc;rw [← HD.out] at fi;have p1:=hl.br.c1;have p2:=hl.br.c2;have Yk:=hl.gs.cen;have kg:wr.cell? ⟨x.g,0,none⟩=some (.func (.func 90) #[] #[.pointer (some ⟨x.m,0,none⟩),.pointer (some ⟨x.f,0,none⟩),.pointer (some ⟨x.t,0,none⟩),.pointer (some ⟨x.fr,0,none⟩),.pointer (some ⟨x.en,0,none⟩),.pointer (some ⟨x.p,0,none⟩),.pointer (some ⟨x.l,0,none⟩),.pointer (some ⟨x.g,0,none⟩)]):=hl.gs.cg;have HC:Hid (∀ W,Below wr.heap.size wr W→W.cell? ⟨b,1,none⟩=some (.int .i64 n.f)∧W.cell? ⟨b,2,none⟩=some (.slice la L lc)∧W.cell? ⟨b,3,none⟩=some (.slice (some ⟨g,o,none⟩) N cc)∧W.cell? ⟨x.en,0,none⟩=some (.string en)∧W.cell? ⟨x.g,0,none⟩=some (.func (.func 90) #[] #[.pointer (some ⟨x.m,0,none⟩),.pointer (some ⟨x.f,0,none⟩),.pointer (some ⟨x.t,0,none⟩),.pointer (some ⟨x.fr,0,none⟩),.pointer (some ⟨x.en,0,none⟩),.pointer (some ⟨x.p,0,none⟩),.pointer (some ⟨x.l,0,none⟩),.pointer (some ⟨x.g,0,none⟩)])∧W.cell? ⟨g,o+k,none⟩=some (.iface ut ux)):=fun W hW=>by
     have:=hl.below hW;exact ⟨this.br.c1,this.br.c2,this.br.c3,this.gs.cen,this.gs.cg,by
      rw [← GV];obtain ⟨g',o',he,h1⟩:=this.br.pS hu;cases he;exact h1⟩
    have vD:Hid (∀ (k':Nat) (W:World) (v':Value) (a':List Pr) (M':List Nat),Ik base A db F d w0 tb x fr en lim lo t w v acc M b n (.slice xa n.ps.length xc) (.slice la L lc) (.slice (some ⟨g,o,none⟩) N cc) k' W v' a' M'→W.cell? ⟨b,1,none⟩=some (.int .i64 n.f)∧W.cell? ⟨b,2,none⟩=some (.slice la L lc)∧W.cell? ⟨b,3,none⟩=some (.slice (some ⟨g,o,none⟩) N cc)∧W.cell? ⟨x.en,0,none⟩=some (.string en)∧W.cell? ⟨x.g,0,none⟩=some (.func (.func 90) #[] #[.pointer (some ⟨x.m,0,none⟩),.pointer (some ⟨x.f,0,none⟩),.pointer (some ⟨x.t,0,none⟩),.pointer (some ⟨x.fr,0,none⟩),.pointer (some ⟨x.en,0,none⟩),.pointer (some ⟨x.p,0,none⟩),.pointer (some ⟨x.l,0,none⟩),.pointer (some ⟨x.g,0,none⟩)])∧W.cell? ⟨g,o+k,none⟩=some (.iface ut ux)):=fun k' W v' a' M' this=>by
     exact ⟨this.br.c1,this.br.c2,this.br.c3,this.gs.cen,this.gs.cg,by
      rw [← GV];obtain ⟨g',o',he,h1⟩:=this.br.pS hu;cases he;exact h1⟩
    have HU:=ab hu;have HUV:=ab GV;have Rs:(0:Int)≤(k:Int):=by omega
    have jA:(k:Int)<(N:Int):=by omega
    have Up:IntKind.i64.wrap ((k:Int)+1)=(k:Int)+1:=by rw [IntKind.wrap_i64];omega
    have hwd:IntKind.i64.wrap ((dp:Int)+1)=(dp:Int)+1:=by have:=HDP.out;rw [IntKind.wrap_i64];omega
    have gY:=ab fi;have T4:Hid (k+1≤N):=bP;clear hl hcu hN fi hu GV MY MX bP hkN;by_cases ZJ:yy en (Mo t.2.1 k)=true
    ·rw [ZJ] at XE;rw [if_pos ZJ] at gY;clear RL;go_wp2_with fail;refine wp_region_held_drew (S:=(fun w'=>w'.cell? ⟨b,1,none⟩=some (.int .i64 n.f)∧w'.cell? ⟨b,2,none⟩=some (.slice la L lc)∧w'.cell? ⟨x.en,0,none⟩=some (.string en))) (by kernel_rfl) ⟨p1,p2,Yk⟩ (fun cR=>?_)
     refine wpAnyH_take (i:=0) (oi:={ dst:=some 70,op:=Op.move (Operand.tmp 13),type:=152,pos := "look.go:49",after:=#[],guard:=none }) (v:=?_) rfl (by kernel_rfl) (by kernel_rfl) (by kernel_rfl) (fun _ _ _ h=>h) (Or.inl ⟨by rfl,?_⟩) (by assumption) ?_
     rotate_left
     ·(intro w' gJ;(try dsimp only at gJ);go_simp;try with_reducible rfl)
     simp only [Act.put,au,List.set_cons_zero,List.set_cons_succ];refine wpAnyH_take (i:=1) (oi:={ dst:=some 71,op:=Op.nilCheck (Operand.tmp 70),type:=0,pos := "look.go:49",after:=#[{ on:=0,ground:=Ground.data }],guard:=none }) (v:=?_) rfl (by kernel_rfl) (by kernel_rfl) (by kernel_rfl) (fun _ _ _ h=>h) (Or.inl ⟨by rfl,?_⟩) (by assumption) ?_
     rotate_left
     ·(intro w' gJ;(try dsimp only at gJ);go_simp;try with_reducible rfl)
     simp only [Act.put,au,List.set_cons_zero,List.set_cons_succ];refine wpAnyH_take (i:=2) (oi:={ dst:=some 72,op:=Op.fieldAddr 155 (Operand.tmp 71) 1,type:=0,pos := "look.go:49",after:=#[{ on:=1,ground:=Ground.data }],guard:=none }) (v:=?_) rfl (by kernel_rfl) (by kernel_rfl) (by kernel_rfl) (fun _ _ _ h=>h) (Or.inl ⟨by rfl,?_⟩) (by assumption) ?_
     rotate_left
     ·(intro w' gJ;(try dsimp only at gJ);go_simp;try with_reducible rfl)
     simp only [Act.put,au,List.set_cons_zero,List.set_cons_succ];refine wpAnyH_take (i:=3) (oi:={ dst:=some 73,op:=Op.load 150 (Operand.tmp 72),type:=150,pos := "look.go:49",after:=#[{ on:=2,ground:=Ground.data }],guard:=none }) (v:=?_) rfl (by kernel_rfl) (by kernel_rfl) (by kernel_rfl) (fun _ _ _ h=>h) (Or.inl ⟨by rfl,?_⟩) (by assumption) ?_
     rotate_left
     ·(intro w' gJ;(try dsimp only at gJ);go_simp;try with_reducible rfl)
     simp only [Act.put,au,List.set_cons_zero,List.set_cons_succ];refine wpAnyH_take (i:=4) (oi:={ dst:=some 74,op:=Op.move (Operand.tmp 16),type:=3,pos := "look.go:49",after:=#[],guard:=none }) (v:=?_) rfl (by kernel_rfl) (by kernel_rfl) (by kernel_rfl) (fun _ _ _ h=>h) (Or.inl ⟨by rfl,?_⟩) (by assumption) ?_
     rotate_left
     ·(intro w' gJ;(try dsimp only at gJ);go_simp;try with_reducible rfl)
     simp only [Act.put,au,List.set_cons_zero,List.set_cons_succ];refine wpAnyH_take (i:=5) (oi:={ dst:=some 75,op:=Op.load 9 (Operand.tmp 6),type:=9,pos := "look.go:49",after:=#[],guard:=none }) (v:=?_) rfl (by kernel_rfl) (by kernel_rfl) (by kernel_rfl) (fun _ _ _ h=>h) (Or.inl ⟨by rfl,?_⟩) (by assumption) ?_
     rotate_left
     ·(intro w' gJ;(try dsimp only at gJ);go_simp;try with_reducible rfl)
     simp only [Act.put,au,List.set_cons_zero,List.set_cons_succ];refine wpAnyH_ready (rs:=[6]) (by kernel_rfl) (by simp) ?_
     refine AllReadyH.cons (o:={ dst:=some 76,op:=Op.call { callee:=Callee.value (Operand.func 95),args:=#[Operand.tmp 73,Operand.tmp 74,Operand.tmp 75],argTypes:=#[150,3,9] },type:=4,pos := "look.go:49",after:=#[{ on:=3,ground:=Ground.data },{ on:=4,ground:=Ground.data },{ on:=5,ground:=Ground.data }],guard:=none }) rfl (fun K hK=>?_) AllReadyH.nil
     clear cR;go_simp
     refine (XE.out _ (by first | exact Below.refl _ _ | exact B.aN (Below.refl _ _))).mono ?_
     rintro e w3 ⟨rfl,bF⟩;have dD:=ab bF;obtain ⟨n1,n2,n3,n4,n5,n6⟩:=HC.out w3 bF;clear bF;refine hK.out _ _ ⟨n1,n2,n4⟩ (fun cR=>?_)
     clear hK K;refine wpAnyH_take (i:=7) (oi:={ dst:=some 77,op:=Op.move (Operand.tmp 76),type:=4,pos := "look.go:49",after:=#[{ on:=6,ground:=Ground.data },{ on:=6,ground:=Ground.chain }],guard:=none }) (v:=?_) rfl (by kernel_rfl) (by kernel_rfl) (by kernel_rfl) (fun _ _ _ h=>h) (Or.inl ⟨by rfl,?_⟩) (by assumption) ?_
     rotate_left
     ·(intro w' gJ;(try dsimp only at gJ);go_simp;try with_reducible rfl)
     simp only [Act.put,au,List.set_cons_zero,List.set_cons_succ];refine wpAnyH_take (i:=8) (oi:={ dst:=some 78,op:=Op.load 167 (Operand.tmp 9),type:=167,pos := "look.go:49",after:=#[{ on:=7,ground:=Ground.guard }],guard:=some (7,false) }) (v:=undef) rfl (by kernel_rfl) (by kernel_rfl) (by kernel_rfl) (fun _ _ _ h=>h) (Or.inr ⟨by rfl,rfl⟩) (by assumption) ?_
     simp only [Act.put,au,List.set_cons_zero,List.set_cons_succ];refine wpAnyH_take (i:=9) (oi:={ dst:=some 79,op:=Op.move (Operand.tmp 13),type:=152,pos := "look.go:49",after:=#[{ on:=7,ground:=Ground.guard }],guard:=some (7,false) }) (v:=undef) rfl (by kernel_rfl) (by kernel_rfl) (by kernel_rfl) (fun _ _ _ h=>h) (Or.inr ⟨by rfl,rfl⟩) (by assumption) ?_
     simp only [Act.put,au,List.set_cons_zero,List.set_cons_succ];refine wpAnyH_take (i:=10) (oi:={ dst:=some 80,op:=Op.nilCheck (Operand.tmp 79),type:=0,pos := "look.go:49",after:=#[{ on:=9,ground:=Ground.data },{ on:=7,ground:=Ground.guard }],guard:=some (7,false) }) (v:=undef) rfl (by kernel_rfl) (by kernel_rfl) (by kernel_rfl) (fun _ _ _ h=>h) (Or.inr ⟨by rfl,rfl⟩) (by assumption) ?_
     simp only [Act.put,au,List.set_cons_zero,List.set_cons_succ];refine wpAnyH_take (i:=11) (oi:={ dst:=some 81,op:=Op.fieldAddr 155 (Operand.tmp 80) 2,type:=0,pos := "look.go:49",after:=#[{ on:=10,ground:=Ground.data },{ on:=7,ground:=Ground.guard }],guard:=some (7,false) }) (v:=undef) rfl (by kernel_rfl) (by kernel_rfl) (by kernel_rfl) (fun _ _ _ h=>h) (Or.inr ⟨by rfl,rfl⟩) (by assumption) ?_
     simp only [Act.put,au,List.set_cons_zero,List.set_cons_succ];refine wpAnyH_take (i:=12) (oi:={ dst:=some 82,op:=Op.load 153 (Operand.tmp 81),type:=153,pos := "look.go:49",after:=#[{ on:=11,ground:=Ground.data },{ on:=7,ground:=Ground.guard }],guard:=some (7,false) }) (v:=undef) rfl (by kernel_rfl) (by kernel_rfl) (by kernel_rfl) (fun _ _ _ h=>h) (Or.inr ⟨by rfl,rfl⟩) (by assumption) ?_
     simp only [Act.put,au,List.set_cons_zero,List.set_cons_succ];refine wpAnyH_take (i:=13) (oi:={ dst:=some 83,op:=Op.move (Operand.tmp 16),type:=3,pos := "look.go:49",after:=#[{ on:=7,ground:=Ground.guard }],guard:=some (7,false) }) (v:=undef) rfl (by kernel_rfl) (by kernel_rfl) (by kernel_rfl) (fun _ _ _ h=>h) (Or.inr ⟨by rfl,rfl⟩) (by assumption) ?_
     simp only [Act.put,au,List.set_cons_zero,List.set_cons_succ];refine wpAnyH_take (i:=14) (oi:={ dst:=some 84,op:=Op.indexAddr 153 (Operand.tmp 82) (Operand.tmp 83),type:=0,pos := "look.go:49",after:=#[{ on:=12,ground:=Ground.data },{ on:=13,ground:=Ground.data },{ on:=7,ground:=Ground.guard }],guard:=some (7,false) }) (v:=undef) rfl (by kernel_rfl) (by kernel_rfl) (by kernel_rfl) (fun _ _ _ h=>h) (Or.inr ⟨by rfl,rfl⟩) (by assumption) ?_
     simp only [Act.put,au,List.set_cons_zero,List.set_cons_succ];refine wpAnyH_take (i:=15) (oi:={ dst:=some 85,op:=Op.load 97 (Operand.tmp 84),type:=97,pos := "look.go:49",after:=#[{ on:=14,ground:=Ground.data },{ on:=7,ground:=Ground.guard }],guard:=some (7,false) }) (v:=undef) rfl (by kernel_rfl) (by kernel_rfl) (by kernel_rfl) (fun _ _ _ h=>h) (Or.inr ⟨by rfl,rfl⟩) (by assumption) ?_
     simp only [Act.put,au,List.set_cons_zero,List.set_cons_succ];refine wpAnyH_take (i:=16) (oi:={ dst:=some 86,op:=Op.move (Operand.tmp 1),type:=3,pos := "look.go:49",after:=#[{ on:=7,ground:=Ground.guard }],guard:=some (7,false) }) (v:=undef) rfl (by kernel_rfl) (by kernel_rfl) (by kernel_rfl) (fun _ _ _ h=>h) (Or.inr ⟨by rfl,rfl⟩) (by assumption) ?_
     simp only [Act.put,au,List.set_cons_zero,List.set_cons_succ];refine wpAnyH_take (i:=17) (oi:={ dst:=some 87,op:=Op.binOp BinOp.add 3 (Operand.tmp 86) (Operand.const (Value.int IntKind.i64 1)) 3,type:=3,pos := "look.go:49",after:=#[{ on:=16,ground:=Ground.data },{ on:=7,ground:=Ground.guard }],guard:=some (7,false) }) (v:=undef) rfl (by kernel_rfl) (by kernel_rfl) (by kernel_rfl) (fun _ _ _ h=>h) (Or.inr ⟨by rfl,rfl⟩) (by assumption) ?_
     simp only [Act.put,au,List.set_cons_zero,List.set_cons_succ];refine wpAnyH_take (i:=18) (oi:={ dst:=some 88,op:=Op.call { callee:=Callee.value (Operand.tmp 78),args:=#[Operand.tmp 85,Operand.tmp 87],argTypes:=#[97,3] },type:=4,pos := "look.go:49",after:=#[{ on:=8,ground:=Ground.data },{ on:=15,ground:=Ground.data },{ on:=17,ground:=Ground.data },{ on:=7,ground:=Ground.chain },{ on:=7,ground:=Ground.guard }],guard:=some (7,false) }) (v:=undef) rfl (by kernel_rfl) (by kernel_rfl) (by kernel_rfl) (fun _ _ _ h=>h) (Or.inr ⟨by rfl,rfl⟩) (by assumption) ?_
     simp only [Act.put,au,List.set_cons_zero,List.set_cons_succ];refine wpAnyH_take (i:=19) (oi:={ dst:=some 89,op:=Op.unOp UnOp.not 4 (Operand.tmp 88),type:=4,pos := "look.go:49",after:=#[{ on:=18,ground:=Ground.data },{ on:=7,ground:=Ground.guard }],guard:=some (7,false) }) (v:=undef) rfl (by kernel_rfl) (by kernel_rfl) (by kernel_rfl) (fun _ _ _ h=>h) (Or.inr ⟨by rfl,rfl⟩) (by assumption) ?_
     simp only [Act.put,au,List.set_cons_zero,List.set_cons_succ];refine wpAnyH_take (i:=20) (oi:={ dst:=some 90,op:=Op.pick (Operand.tmp 77) (Operand.const (Value.bool true)) (Operand.tmp 89),type:=4,pos := "look.go:49",after:=#[{ on:=7,ground:=Ground.data },{ on:=19,ground:=Ground.data }],guard:=none }) (v:=?_) rfl (by kernel_rfl) (by kernel_rfl) (by kernel_rfl) (fun _ _ _ h=>h) (Or.inl ⟨by rfl,?_⟩) (by assumption) ?_
     rotate_left
     ·(intro w' gJ;(try dsimp only at gJ);go_simp;try with_reducible rfl)
     simp only [Act.put,au,List.set_cons_zero,List.set_cons_succ];refine wpAnyH_done (by kernel_rfl) ?_ _
     clear cR;go_wp2;go_ret;exact (HL.out.below dD.out).out gY.out
    ·rw [Bool.not_eq_true] at ZJ;rw [ZJ] at XE;rw [if_neg (by rw [ZJ];simp)] at gY
     obtain ⟨r,hr⟩ : ∃ r,r=(fu fr en lim h c ak).2:=⟨_,rfl⟩;rw [← hr] at RL gY;have HR:=ab hr;clear hr;go_wp2_with fail;cases r
     ·rw [if_neg (by simp)] at gY
      go_region_held3 (fun w'=>w'.cell? ⟨b,1,none⟩=some (.int .i64 n.f)∧w'.cell? ⟨b,2,none⟩=some (.slice la L lc)∧w'.cell? ⟨x.en,0,none⟩=some (.string en)∧w'.cell? ⟨b,3,none⟩=some (.slice (some ⟨g,o,none⟩) N cc)∧w'.cell? ⟨x.g,0,none⟩=some (.func (.func 90) #[] #[.pointer (some ⟨x.m,0,none⟩),.pointer (some ⟨x.f,0,none⟩),.pointer (some ⟨x.t,0,none⟩),.pointer (some ⟨x.fr,0,none⟩),.pointer (some ⟨x.en,0,none⟩),.pointer (some ⟨x.p,0,none⟩),.pointer (some ⟨x.l,0,none⟩),.pointer (some ⟨x.g,0,none⟩)])∧w'.cell? ⟨g,o+k,none⟩=some (.iface ut ux)) (go_keep)
       (first
        | (go_at_call 95;refine (XE.out _ (by first | exact Below.refl _ _ | exact B.aN (Below.refl _ _))).mono ?_;rintro e w3 ⟨rfl,bF⟩;have dD:=ab bF;obtain ⟨n1,n2,n3,n4,n5,n6⟩:=HC.out w3 bF;clear bF)
        | (go_at_call 90;refine (RL.out _ dD.out).mono ?_;rintro e w4 ⟨v4,M4,rfl,FH⟩;have WT:=ab FH;obtain ⟨o1,o2,o3,o4,o5,o6⟩:=vD.out _ _ _ _ _ FH;clear FH))
      all_goals
       go_wp2;go_ret;exact WT.out.out gY.out
     ·rw [if_pos rfl] at gY;go_region_held3 (fun w'=>w'.cell? ⟨b,1,none⟩=some (.int .i64 n.f)∧w'.cell? ⟨b,2,none⟩=some (.slice la L lc)∧w'.cell? ⟨x.en,0,none⟩=some (.string en)∧w'.cell? ⟨b,3,none⟩=some (.slice (some ⟨g,o,none⟩) N cc)∧w'.cell? ⟨x.g,0,none⟩=some (.func (.func 90) #[] #[.pointer (some ⟨x.m,0,none⟩),.pointer (some ⟨x.f,0,none⟩),.pointer (some ⟨x.t,0,none⟩),.pointer (some ⟨x.fr,0,none⟩),.pointer (some ⟨x.en,0,none⟩),.pointer (some ⟨x.p,0,none⟩),.pointer (some ⟨x.l,0,none⟩),.pointer (some ⟨x.g,0,none⟩)])∧w'.cell? ⟨g,o+k,none⟩=some (.iface ut ux)) (go_keep)
       (first
        | (go_at_call 95;refine (XE.out _ (by first | exact Below.refl _ _ | exact B.aN (Below.refl _ _))).mono ?_;rintro e w3 ⟨rfl,bF⟩;have dD:=ab bF;obtain ⟨n1,n2,n3,n4,n5,n6⟩:=HC.out w3 bF;clear bF)
        | (go_at_call 90;refine (RL.out _ dD.out).mono ?_;rintro e w4 ⟨v4,M4,rfl,FH⟩;have WT:=ab FH;obtain ⟨o1,o2,o3,o4,o5,o6⟩:=vD.out _ _ _ _ _ FH;clear FH))
      all_goals
       clear RL HC XE vD;go_wp2;go_roundw
       case rel=>exact ⟨k+1,v4,(fu fr en lim h c ak).1,M4,by rw [fZ];rfl,T4.out,WT.out,gY.out⟩
       case measure=>simp [intOf];have:=T4.out;omega
   ·have:k=N:=by omega
    subst this;have HE:=ab (HL.out.out (e:=true) (by rw [HD.out,Lv _ _ _ _ _ _ (by have:=HN.out;have:=Ce.out.1;omega)]))
    clear hl MY MX Ce HN HD HL;go_wp2;go_ret;exact HE.out
end
attribute [local go_sem ↓] Go.wp_at_zero Go.wp_at_succ
section
variable {PG:Int→Option PD} {w0:World} {lo pb:Nat} {pv:Value} {P:List Nat} {tx:Nat} {h:Nat} {w:World} {sv:Value} {Z:List S.Sh}
theorem To{h:Nat}{cs:List (Nd h)}{c:Nd h}(hc:cs[0]?=some c):l7 cs=(fx h c:Int):=by
 cases cs with
 | nil=>simp at hc
 | cons d cs=>cases hc;rfl
theorem nE(IH:TX PG w0 lo pb pv P tx h){b:Nat}{n:SN}{xv lv cv:Value}{t:Nd (h+1)}(xT:dG w0 b n xv lv cv)(hn:aU PG w0 (h+1) n t)(ho:QT (h+1) t)(hP:pY w0 lo pb pv P tx w sv Z)(jz:((b9 (aW (fj P) h) t.2.2 Z.length).1.flatMap (dE h)).Nodup)(yg:Z.length+(t.2.2.map (jl h)).sum≤P.length):Calls prog 184 #[.pointer (some ⟨pb,0,none⟩),.pointer (some ⟨b,0,none⟩)] w fun e w'=>∃ ov Sz,e = .returned (.agg #[.int .i64 (l7 (b9 (aW (fj P) h) t.2.2 Z.length).1),Sz])∧B.cV w' Sz (qF t.2.1 (b9 (aW (fj P) h) t.2.2 Z.length).1)∧pY w0 lo pb pv P tx w' ov (Z++(b9 (aW (fj P) h) t.2.2 Z.length).2.map (kj tx))∧mN pb w sv w' ov:=by
 have ML:n.us.length=t.2.2.length:=hn.1;have jE:t.2.1=n.lk.map (·.1):=hn.2.2.2.1;have h0:¬ n.us.length=0:=fun e=>hn.2.1 (List.length_eq_zero_iff.1 e)
 have gT:n.us.length=n.lk.length+1:=by
  rcases hn.2.2.1 with h9 | h9
  ·exact absurd h9 h0
  ·exact h9
 have Rq:0<n.lk.length:=by
  have h9:t.2.1≠[]:=ho.2.2;rw [jE] at h9;cases hl:n.lk with
  | nil=>rw [hl] at h9;exact absurd rfl h9
  | cons _ _=>simp
 have ic:=xT.fine;obtain ⟨W1,iy⟩ : ∃ W1,w.alloc (.cells #[.int .i64 0,.slice none 0 0] 150)=W1:=⟨_,rfl⟩;have aP:Below w.heap.size w W1:=iy▸ai w _;obtain ⟨H,hH⟩ : ∃ H,w.heap.size=H:=⟨_,rfl⟩;have rH:B.ax W1 H #[.int .i64 0,.slice none 0 0] 150:=by rw [← hH];exact iy▸B.ax.new w _ _
 have hP1:=hP.below aP;obtain ⟨news,ik⟩ : ∃ news,news=(b9 (aW (fj P) h) t.2.2 Z.length).1:=⟨_,rfl⟩;have xV:news.length=n.lk.length+1:=by rw [ik,iE];omega
 have FJ:(qF t.2.1 news).length=n.lk.length:=by rw [vO _ _ (by rw [xV,jE,aA]),jE,aA]
 obtain ⟨q0,Lb⟩ : ∃ q,n.us[0]?=some q:=⟨_,af (by omega)⟩
 obtain ⟨c0,yh⟩ : ∃ c,t.2.2[0]?=some c:=⟨_,af (by omega)⟩
 obtain ⟨la,lc,nT⟩:=xT.bm.form;obtain ⟨ca,cc,qO⟩:=xT.kids.form;have V0:=xT.bm;subst nT qO;obtain ⟨g,o,rfl,aX⟩:=xT.br.pS Lb;obtain ⟨ut,ux,GV⟩:=bz q0;rw [GV,Nat.add_zero] at aX;obtain ⟨ta,Yv,YE⟩:=xT.kids.drop (m:=1) (by omega)
 have qM:∀ W',(Instr.sliceAt 153 (.slice (some ⟨g,o,none⟩) (n.lk.length+1) cc) (some (.int .i64 1)) none none).run prog W' = .ok (.slice ta n.lk.length (cc - 1)) W':=fun W'=>by
  have:=YE W';rw [gT] at this;simpa using this
 have WB:Hid (∀ i q,n.us[i+1]?=some q→∃ g' o',ta=some ⟨g',o',none⟩∧w0.cell? ⟨g',o'+i,none⟩=some q.val):=fun i q hq=>by
  obtain ⟨a',c',he,-,-,hc⟩:=Yv;simp only [Value.slice.injEq] at he;obtain ⟨rfl,-,-⟩:=he;exact hc i q.val (by unfold C.bm;rw [aL,cN,Nat.add_comm 1 i,hq];rfl)
 have Pv:=I9 (aW (fj P) h) t.2.2 Z.length 0 c0 yh;simp only [List.take_zero,b9,List.length_nil,Nat.add_zero,List.nil_append] at Pv;have Q6:Hid (∀ W kk uu,sU w0 lo pb pv P tx n.lk w sv H W sv Z kk uu→Calls prog 72 #[.pointer (some ⟨pb,0,none⟩),.iface ut ux] W fun e w'=>∃ ov,e = .returned (.int .i64 (l7 news))∧sU w0 lo pb pv P tx n.lk w sv H w' ov (Z++(b9 (aW (fj P) h) (t.2.2.take 1) Z.length).2.map (kj tx)) kk uu):=fun W kk uu hW=>by
  have K9:jl h c0≤(t.2.2.map (jl h)).sum:=by
   have e1:=wJ (l:=t.2.2.map (jl h)) (i:=0) (x:=jl h c0) (by rw [aL,yh];rfl)
   have e2:=lL (t.2.2.map (jl h)) 1;simp only [List.take_zero,List.sum_nil,Nat.zero_add] at e1;omega
  rw [← GV];refine (IH q0 c0 W sv Z (hn.pS Lb yh) (vJ ho yh) hW.yR (by omega) (xA jz Pv.1)).mono ?_
  rintro e w' ⟨ov,rfl,g1,g2⟩;refine ⟨ov,by rw [ik,To Pv.1],hW.move g2 ?_⟩
  rw [show t.2.2.take 1=t.2.2.take (0+1) from rfl,Pv.2]
  exact g1
 have vD:Hid (∀ W sx Zc kk,sU w0 lo pb pv P tx n.lk w sv H W sx Zc kk none→Calls prog 209 #[.slice la n.lk.length lc] W fun e w'=>∃ ug uc,e = .returned (.slice (some ⟨ug,0,none⟩) n.lk.length uc)∧sU w0 lo pb pv P tx n.lk w sv H w' sx Zc kk (some (ug,uc))):=fun W sx Zc kk hW=>by
  refine (B.eN _ n.lk W (by have:=ic.2.2.2.1;omega) (V0.below hW.yR.eV)).mono ?_
  rintro e w' ⟨u,rfl,hou,hb⟩;obtain ⟨ug,uc,hu,-⟩:=hou.has Rq;subst hu;exact ⟨ug,uc,rfl,hW.clone hou hb⟩
 have HOL:Hid (∀ W,Below w0.heap.size w0 W→W.cell? ⟨b,3,none⟩=some (.slice (some ⟨g,o,none⟩) (n.lk.length+1) cc)∧W.cell? ⟨b,2,none⟩=some (.slice la n.lk.length lc)∧W.cell? ⟨g,o,none⟩=some (.iface ut ux)):=fun W hW=>⟨by rw [← gT];exact (xT.below hW).c3,(xT.below hW).c2,(hW.cell (p:=⟨g,o,none⟩) (World.block_lt_of_cell? w0 _ aX)).trans aX⟩
 obtain ⟨p3,p2,p4⟩:=HOL.out W1 hP1.eV;have Rp:(0:Int)≤(n.lk.length:Int):=by omega
 have AO:(0:Int)<(n.lk.length:Int)+1:=by omega
 have rh:Hid (sU w0 lo pb pv P tx n.lk w sv H W1 sv Z none none):=⟨hP1,mN.below sv aP,rH,⟨by omega,by have:=hP.row.lt;omega,fun e=>by have:=(hP.sh.dn e).2;omega⟩,(fun _ h=>by cases h),(fun _ _ h=>by cases h),(fun _ _ _ h=>by cases h)⟩
 have MX:Hid (∀ (k:Nat) (q:C.Ch) (c:Nd h),n.us[k]?=some q→t.2.2[k]?=some c→eu PG w0 h q c∧QT h c):=fun k q c h1 h2=>⟨hn.pS h1 h2,vJ ho h2⟩
 have HIH:Hid (TX PG w0 lo pb pv P tx h):=IH;have HND:=ab jz;have RN:=ab yg;have HKS:Hid (n.lk.map (·.1)=t.2.1):=jE.symm;have HW0:Hid (w0.heap.size≤w.heap.size):=hP.eV.size;have HBG:Hid (b<w.heap.size∧g<w.heap.size):=⟨ar xT.row.lt hP.eV.size,ar (World.block_lt_of_cell? w0 _ aX) hP.eV.size⟩;have HRH:=ab rH;have HHW:Hid (w.heap.size=H∧W1.heap.size=H+1∧Below w.heap.size w W1):=⟨hH,by rw [← iy,← hH];simp,aP⟩
 have iq:Hid (0<n.lk.length∧n.us.length=n.lk.length+1∧n.lk.length≤4000∧n.us.length=t.2.2.length∧(qF t.2.1 news).length=n.lk.length):=⟨Rq,gT,ic.2.2.2.1,ML,FJ⟩;have HNW:=ab ik;rw [← ik];clear jE jz yg Yv YE hP1 hP rH aP Rq gT ic ML xV FJ V0 aX Pv Lb yh GV h0 ik;go_enter func184,ntmps184;go_upto_region 1 with fail
 go_cut [5] (fun u wx=>∃ K ug uc sx,u = .pointer (some ⟨K,0,none⟩)∧zU w0 lo pb pv P tx t.2.2 Z.length (qF t.2.1 news) n.lk (l7 news) w sv Z H K ug uc 0 1 wx sx)
 case first =>
  go_region_held3 (fun w'=>w'.cell? ⟨b,3,none⟩=some (.slice (some ⟨g,o,none⟩) (n.lk.length+1) cc)∧w'.cell? ⟨b,2,none⟩=some (.slice la n.lk.length lc)∧w'.cell? ⟨g,o,none⟩=some (.iface ut ux)) (go_keep)
   (first
    | (go_at_call 72;refine (Q6.out _ _ _ (by first | exact XN.out | exact XN.out.drew | exact XN.out.alloc | exact XN.out.alloc.drew | exact rh.out | exact rh.out.drew | exact rh.out.alloc | exact rh.out.alloc.drew)).mono ?_;rintro e wl ⟨sl,rfl,hq⟩;have U2:=ab hq;obtain ⟨x3,x2,x4⟩:=HOL.out wl hq.yR.eV;(try (have kr:=(hq.kr _ rfl).1;have ke1:=Nat.ne_of_gt (ar HBG.out.1 (hq.kr _ rfl).2.1);have ke2:=Nat.ne_of_gt (ar HBG.out.2 (hq.kr _ rfl).2.1);have kc0:=kr.c0;have kc1:=kr.c1;have kf0:=kr.free 0;have kf1:=kr.free 1;clear kr));clear hq)
    | (go_at_call 209;refine (vD.out _ _ _ _ (by first | exact U2.out | exact U2.out.drew | exact U2.out.alloc | exact U2.out.alloc.drew | exact rh.out | exact rh.out.drew | exact rh.out.alloc | exact rh.out.alloc.drew)).mono ?_;rintro e wc ⟨ug,uc,rfl,hq⟩;have XN:=ab hq;obtain ⟨y3,y2,y4⟩:=HOL.out wc hq.yR.eV;(try (have kr:=(hq.kr _ rfl).1;have ke3:=Nat.ne_of_gt (ar HBG.out.1 (hq.kr _ rfl).2.1);have ke4:=Nat.ne_of_gt (ar HBG.out.2 (hq.kr _ rfl).2.1);have kd0:=kr.c0;have kd1:=kr.c1;have kg0:=kr.free 0;have kg1:=kr.free 1;clear kr));clear hq))
  all_goals
   go_wp2_with fail;go_meet
   first
    | exact ⟨_,_,_,_,rfl,sU.done XN.out HW0.out⟩
    | exact ⟨_,_,_,_,rfl,sU.done U2.out HW0.out⟩
    | exact ⟨_,_,_,_,rfl,sU.UP XN.out⟩
    | exact ⟨_,_,_,_,rfl,sU.UP U2.out⟩
 case rest =>
  obtain ⟨K,ug,uc,sx,rfl,hB⟩:=hcut;obtain ⟨z3,z2,z4⟩:=HOL.out _ hB.yR.eV;have uj:=ab hB;clear hB Q6 vD rh p3 p2 p4;go_wp2_with fail;go_loopw [29] (fun iv wr=>∃ (i:Nat) (sy:Value),iv = .int .i64 (i:Int)∧i≤n.lk.length∧zU w0 lo pb pv P tx t.2.2 Z.length (qF t.2.1 news) n.lk (l7 news) w sv Z H K ug uc i (i+1) wr sy) (fun iv _=>n.lk.length - (intOf iv).toNat)
  case atStart=>exact ⟨0,sx,rfl,aD _,uj.out⟩
  case round =>
   obtain ⟨i,sy,rfl,hiL,hB⟩:=hrel;obtain ⟨V1,Ta,hl3,FH,hl5⟩:=iq.out;clear uj z3 z2 z4 qM;by_cases bP:i<n.lk.length
   ·obtain ⟨q,hq⟩ : ∃ q,n.us[i+1]?=some q:=⟨_,af (by omega)⟩
    obtain ⟨c,hc⟩ : ∃ c,t.2.2[i+1]?=some c:=⟨_,af (by omega)⟩
    obtain ⟨g',o',rfl,Ji⟩:=WB.out i q hq;obtain ⟨qt,qx,YN⟩:=bz q;rw [YN] at Ji;have PO:wr.cell? ⟨g',o'+i,none⟩=some (.iface qt qx):=(hB.yR.eV.cell (p:=⟨g',o'+i,none⟩) (World.block_lt_of_cell? w0 _ Ji)).trans Ji;obtain ⟨hk,cT⟩:=MX.out (i+1) q c hq hc;have Q5:Hid (∀ W,Below wr.heap.size wr W→Calls prog 72 #[.pointer (some ⟨pb,0,none⟩),.iface qt qx] W fun e w'=>∃ ov c',(b9 (aW (fj P) h) t.2.2 Z.length).1[i+1]?=some c'∧e = .returned (.int .i64 (fx h c':Int))∧zU w0 lo pb pv P tx t.2.2 Z.length (qF t.2.1 news) n.lk (l7 news) w sv Z H K ug uc i (i+1+1) w' ov):=fun W hW=>by
     rw [← YN];exact (hB.below hW).call HIH.out rfl HND.out RN.out hc hk cT
    have kk1:wr.cell? ⟨K,1,none⟩=some (.slice (some ⟨ug,0,none⟩) n.lk.length uc):=hB.row.c1;have ahu:ug≠K:=fun e=>hB.ne.1 e.symm
    have yU:(0:Int)≤(i:Int):=by omega
    have Cr:(i:Int)<(n.lk.length:Int):=by omega
    have vz:(i:Int)<4000:=by omega
    have T7:Hid (i<n.lk.length):=bP;have HAL:Hid ((qF t.2.1 news).length=n.lk.length):=hl5;clear hB Ji hk cT hq hc YN bP hiL V1 Ta hl3 FH hl5;go_wp2_with fail;go_region_held3 (fun w'=>w'.cell? ⟨K,1,none⟩=some (.slice (some ⟨ug,0,none⟩) n.lk.length uc)) (go_keep)
     (first
      | (go_at_call 72;refine (Q5.out _ (by first | exact Below.refl _ _ | exact B.aN (Below.refl _ _))).mono ?_;rintro e w4 ⟨sz,c',uM,rfl,hB4⟩;obtain ⟨⟨u4,hu4⟩,Zw,hB5⟩:=hB4.put HW0.out HKS.out (by rw [HNW.out]) HAL.out T7.out uM;have jj:=ab hB5;have n1:=hB4.row.c1;clear hB4 hB5 uM))
    all_goals
     clear Q5;go_wp2;go_roundw
     case rel=>exact ⟨i+1,sz,by go_num,T7.out,by first | exact jj.out | exact jj.out.below (B.aN (Below.refl _ _))⟩
     case measure=>simp [intOf];have:=T7.out;omega
   ·have hiE:i=n.lk.length:=by omega
    have kk0:wr.cell? ⟨K,0,none⟩=some (.int .i64 (l7 news)):=hB.row.c0;have kk1:wr.cell? ⟨K,1,none⟩=some (.slice (some ⟨ug,0,none⟩) n.lk.length uc):=hB.row.c1;have hh0:=hB.res.c0;have hh1:=hB.res.c1;have MO:=hB.res.free 0;have hf1:=hB.res.free 1;have ic:=hB.fin HW0.out (.int .i64 (l7 news)) (.slice (some ⟨ug,0,none⟩) n.lk.length uc);have bM:=ab hB.res;rw [OA hl5 (by omega),aq (by omega:t.2.2.length≤i+1)] at ic
    have nX:=ab ic;have Cr:¬ (i:Int)<(n.lk.length:Int):=by omega
    clear hB ic hiL V1 Ta hl3 FH hl5 bP hiE;go_wp2;refine bodyPost_ret (results_cell_row rfl _ _ H 150 _ (0,0) _ rfl (bM.out.two _ _) underlying150 rfl (by kernel_rfl)) rfl ?_
    exact ⟨sy,_,rfl,nX.out.1,nX.out.2.1,nX.out.2.2⟩
end
end T
end Go.Proofs.YtihmgigfkmofnaaGreatDoor
