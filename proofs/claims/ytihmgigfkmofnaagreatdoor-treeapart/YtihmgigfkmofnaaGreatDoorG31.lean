import Derived.Test.YtihmgigfkmofnaaGreatDoorG30
import Derived.Deep.CutBlock
set_option maxHeartbeats 8000000
set_option maxRecDepth 100000
open Go.Proofs.Tryz
namespace Go.Proofs.YtihmgigfkmofnaaGreatDoor
namespace T
open Go.RowKit
attribute [local go_sem ↓] Go.wp_at_zero Go.wp_at_succ
section
variable {base:Nat} {A:Nat→Addr} {db:Nat} {F:Nat→Prop} {d:S.V.bq} {w0:World} {tb:Nat} {x:Bx} {fr en:ByteArray} {lim lo:Nat}
theorem Br.c1{w:World}{b:Nat}{n:SN}{pv lv cv:Value}(h:Br w b n pv lv cv):w.cell? ⟨b,1,none⟩=some (.int .i64 n.f):=h.row.cell 1 (by simp)
theorem Br.c2{w:World}{b:Nat}{n:SN}{pv lv cv:Value}(h:Br w b n pv lv cv):w.cell? ⟨b,2,none⟩=some lv:=h.row.cell 2 (by simp)
theorem Br.c3{w:World}{b:Nat}{n:SN}{pv lv cv:Value}(h:Br w b n pv lv cv):w.cell? ⟨b,3,none⟩=some cv:=h.row.cell 3 (by simp)
theorem Br.qL{w:World}{b:Nat}{n:SN}{pv lv:Value}{a:Option Addr}{m c:Nat}(h:Br w b n pv lv (.slice a m c)){k:Nat}{p:C.Ch}(hk:n.us[k]?=some p):∃ g o,a=some ⟨g,o,none⟩∧w.cell? ⟨g,o+k,none⟩=some p.val:=by
 obtain ⟨a',c',he,_,_,hc⟩:=h.kids;cases he;obtain ⟨g,o,ha,h1⟩:=hc k p.val (by unfold C.a8;rw [aM,hk];rfl)
 exact ⟨g,o,ha,h1⟩
theorem ze{rv:Value}{h:Nat}(IH:JB base A db F d w0 tb x fr en lim lo h)(iF:Dv base A db F d w0)(GG:B.au w0 tb #[.pointer (some ⟨db,0,none⟩),rv] 100):JB base A db F d w0 tb x fr en lim lo (h+1):=by
 intro p t dp w v acc M hk nx hg Pu dW jo lK mT;have H8:=ab (hg.again iF hk lK mT);have vG:Hid (∀ W,Gs base A db F d w0 tb x fr en lim lo W v acc (M++cY (ft (h+1) t))→Calls prog 92 #[.pointer (some ⟨tb,0,none⟩),p.val,.int .i64 (dp:Int)] W fun e w'=>(lI (oP d w0) A ⟨h+1,t⟩ e w'∧True)∧Dv base A db F d w'∧Mv db F W w'):=fun W hW=>by
  have aw:=hW.mv.cC iF;refine (qe (oP d w0) p ⟨h+1,t⟩ tb rv dp W ⟨⟨hk,nx⟩,.inl aw⟩ (dU aw GG) hW.dv (.inr (by omega))).mono ?_
  rintro e w' ⟨⟨h1,_⟩,h2,h3⟩;exact ⟨⟨h1,trivial⟩,h2,h3⟩
 have MR:Hid (∀ (k:Nat) (wr:World) (vk:Value) (ak:List Pr) (Mk:List Nat) (b:Nat) (n:SN) (pv lv cv:Value) (c:Nd h) (q:C.Ch),Ia base A db F d w0 tb x fr en lim lo t w v acc M b n pv lv cv k wr vk ak Mk→t.2.2[k]?=some c→eh (cM d) w0 h q c→Calls prog 90 #[q.val,.int .i64 ((dp:Int)+1),.pointer (some ⟨x.m,0,none⟩),.pointer (some ⟨x.f,0,none⟩),.pointer (some ⟨x.t,0,none⟩),.pointer (some ⟨x.fr,0,none⟩),.pointer (some ⟨x.en,0,none⟩),.pointer (some ⟨x.p,0,none⟩),.pointer (some ⟨x.l,0,none⟩),.pointer (some ⟨x.g,0,none⟩)] wr fun e w'=>∃ v' M',e = .returned (.bool (fo fr en lim h c ak).2)∧Ia base A db F d w0 tb x fr en lim lo t w v acc M b n pv lv cv (k+1) w' v' (fo fr en lim h c ak).1 M'):=fun k wr vk ak Mk b n pv lv cv c q hl hc Zw=>hl.qL IH nx hc Zw Pu dW jo lK mT
 obtain ⟨pt,px,iS⟩:=bM p;rw [iS] at vG H8 ⊢;have k0:w.cell? ⟨x.m,0,none⟩=some (.map (some x.mb)):=hg.cm;have HDP:=ab Pu;have HGD:=ab nx;have WI:Hid (cY (ft (h+1) t)=cY t.1):=rfl;clear hg hk nx iF GG iS Pu dW lK mT jo IH;go_enter func90,ntmps90;go_wp2_with fail;refine H8.out.mono ?_
 rintro e wa ⟨rfl,yY,OW⟩;have k1:wa.cell? ⟨x.t,0,none⟩=some (.pointer (some ⟨tb,0,none⟩)):=yY.ct;have Cg:=ab (vG.out wa yY);have HS:=ab yY;have HT:=ab OW;clear yY OW vG H8 k0;go_wp2_with fail;refine Cg.out.mono ?_
 rintro e w1 ⟨⟨DW,_⟩,fI,fK⟩;rcases DW with ⟨hE,_⟩ | ⟨b,n,pv,lv,cv,rfl,hs,hn⟩
 ·exact (hE:False).elim
 ·have V6:=HS.out.go fK fI;have Aq:aT (cM d) w0 (h+1) n t:=hn.1.1;have MD:n.us.length=t.2.2.length:=Aq.1;have ju:t.2.1=n.lk.map (·.1):=Aq.2.2.2.1;have h0:¬ n.us.length=0:=fun e=>Aq.2.1 (List.length_eq_zero_iff.1 e)
  have su:=ab (cB b n pv lv cv w1 hs);rw [show decide (n.us.length=0)=false by simp [h0]] at su
  have gY:=hs.fine;have gM:n.us.length=n.lk.length+1:=by
   rcases Aq.2.2.1 with h9 | h9
   ·exact absurd h9 h0
   ·exact h9
  have BV:Hid (n.us.length=t.2.2.length∧t.2.1=n.lk.map (·.1)∧n.us.length=n.lk.length+1∧n.lk.length≤4000):=⟨MD,ju,gM,gY.2.2.2.1⟩;have MQ:Hid (∀ (k:Nat) (q:C.Ch) (c:Nd h),n.us[k]?=some q→t.2.2[k]?=some c→eh (cM d) w0 h q c):=fun k q c h1 h2=>Aq.qL h1 h2
  have HSO:Hid (t.2.1.Pairwise fun a b=>cR a b=true):=by
   obtain ⟨⟨pz,mh,ho⟩,_⟩:=HGD.out;exact jC ((fu h t pz mh).1 ho)
  have zo:Hid (∀ q,q≤n.us.length→Ia base A db F d w0 tb x fr en lim lo t w v acc M b n pv lv cv q w1 v acc (M++cY t.1)):=fun q _=>by
   refine ⟨by rw [← WI.out];exact V6,HT.out.trans (vJ.mv v fK),hs.br,?_,fun i hi=>?_,?_⟩
   ·have:((t.2.2.drop q).flatMap (flat h)).length≤(flat (h+1) t).length:=by
     show _≤(t.2.2.flatMap (flat h)).length
     conv=>rhs;rw [← aH q t.2.2,aR,ae]
     omega
    omega
   ·rcases List.mem_append.1 hi with h | h
    ·exact .inl h
    ·exact .inr (dR _ h)
   ·simp only [ae];omega
  have p1:=hs.c1;have p2:=hs.c2;have VC:=V6.cfr;have U4:Hid (∀ W,Below w1.heap.size w1 W→Calls prog 81 #[.agg #[.int .i64 n.f,lv],.string fr] W fun e w'=>(∃ p:Nat,e = .returned (.int .i64 (p:Int))∧B.fE n.lk fr p)∧Below w1.heap.size w1 w'):=fun W hW=>(B.AH n.f lv n.lk fr W (by omega) (hs.a8.below hW)).mono fun e w' ⟨h1,h2⟩=>⟨h1,Below.next hW h2⟩
  obtain ⟨la,lc,pD⟩:=hs.a8.form;obtain ⟨ca,cc,sg⟩:=hs.kids.form;obtain ⟨xa,xc,Bo⟩:=hs.iy.form;obtain ⟨N,hN⟩ : ∃ N,N=n.us.length:=⟨_,rfl⟩;obtain ⟨L,hL⟩ : ∃ L,L=n.lk.length:=⟨_,rfl⟩;rw [← hN] at sg zo;rw [← hL] at pD;subst pD sg Bo;have HN:Hid (N=n.us.length):=hN;have HL:Hid (L=n.lk.length):=hL;clear fI fK Cg hs hn h0 Aq MD ju gY gM k1 V6 hN hL;go_wp2_with fail;refine su.out.mono ?_
  rintro e w1' ⟨rfl,rfl⟩;go_wp2_with fail;go_region_held3 (fun w'=>w'.cell? ⟨b,1,none⟩=some (.int .i64 n.f)∧w'.cell? ⟨b,2,none⟩=some (.slice la L lc)∧w'.cell? ⟨x.fr,0,none⟩=some (.string fr)) (go_keep)
   (first
    | (go_at_call 81;refine (U4.out _ (by first | exact Below.refl _ _ | exact B.aO (Below.refl _ _))).mono ?_;rintro e w2 ⟨⟨q,rfl,B3⟩,aU⟩;have HPI:=ab B3;have bH:=ab aU;have m0:=(aU.cell (p:=⟨b,1,none⟩) (World.block_lt_of_cell? w1 _ p1)).trans p1;have m1:=(aU.cell (p:=⟨b,2,none⟩) (World.block_lt_of_cell? w1 _ p2)).trans p2;have m2:=(aU.cell (p:=⟨x.fr,0,none⟩) (World.block_lt_of_cell? w1 _ VC)).trans VC;clear B3 aU))
  clear m0 m1 m2 p1 p2 VC su U4 HS HT;have HQ:Hid (q≤N∧Ia base A db F d w0 tb x fr en lim lo t w v acc M b n (.slice xa n.ps.length xc) (.slice la L lc) (.slice ca N cc) q w2 v acc (M++cY t.1)∧fo fr en lim (h+1) t acc=lE (fo fr en lim h) en (Mi t.2.1 q) (t.2.1.drop q) (t.2.2.drop q) acc):=by
   have h1:=HPI.out.1;have h2:=BV.out;have h3:=HN.out;exact ⟨by omega,(zo.out q (by omega)).below bH.out,Lp acc h2.2.1 HPI.out HSO.out⟩
  clear HPI zo bH HSO;go_wp2_with fail;go_loopw [16] (fun i wr=>∃ (k:Nat) (vk:Value) (ak:List Pr) (Mk:List Nat),i = .int .i64 (k:Int)∧k≤N∧Ia base A db F d w0 tb x fr en lim lo t w v acc M b n (.slice xa n.ps.length xc) (.slice la L lc) (.slice ca N cc) k wr vk ak Mk∧fo fr en lim (h+1) t acc=lE (fo fr en lim h) en (Mi t.2.1 k) (t.2.1.drop k) (t.2.2.drop k) ak)
   (fun i _=>N - (intOf i).toNat)
  case atStart=>exact ⟨q,v,acc,M++cY t.1,rfl,HQ.out.1,HQ.out.2.1,HQ.out.2.2⟩
  case round =>
   obtain ⟨k,vk,ak,Mk,rfl,hkN,hl,ZN⟩:=hrel;have HL:=ab hl;have HD:=ab ZN;have p3:=hl.br.c3;clear ZN HQ;by_cases bN:k<N
   ·obtain ⟨u,hu⟩ : ∃ u,n.us[k]?=some u:=⟨_,af (by have:=HN.out;omega)⟩
    obtain ⟨c,hc⟩ : ∃ c,t.2.2[k]?=some c:=⟨_,af (by have:=HN.out;have:=BV.out.1;omega)⟩
    obtain ⟨g,o,rfl,Pz⟩:=hl.br.qL hu;obtain ⟨ut,ux,GD⟩:=bM u;rw [GD] at Pz;have hcu:=BV.out;have hN:=HN.out;have XD:Hid (∀ W,Below wr.heap.size wr W→Calls prog 95 #[.agg #[.int .i64 n.f,.slice la L lc],.int .i64 (k:Int),.string en] W fun e w'=>e = .returned (.bool (ye en (Mi t.2.1 k)))∧Below wr.heap.size wr w'):=fun W hW=>(Bm n.f (.slice la L lc) n.lk k en W (hl.br.a8.below hW) (by omega) (by omega)).mono fun e w' ⟨h1,h2⟩=>⟨by rw [h1,hcu.2.1,TD _ _ _ (by omega)],Below.next hW h2⟩
    have RE:Hid (∀ W,Below wr.heap.size wr W→Calls prog 90 #[.iface ut ux,.int .i64 ((dp:Int)+1),.pointer (some ⟨x.m,0,none⟩),.pointer (some ⟨x.f,0,none⟩),.pointer (some ⟨x.t,0,none⟩),.pointer (some ⟨x.fr,0,none⟩),.pointer (some ⟨x.en,0,none⟩),.pointer (some ⟨x.p,0,none⟩),.pointer (some ⟨x.l,0,none⟩),.pointer (some ⟨x.g,0,none⟩)] W fun e w'=>∃ v' M',e = .returned (.bool (fo fr en lim h c ak).2)∧Ia base A db F d w0 tb x fr en lim lo t w v acc M b n (.slice xa n.ps.length xc) (.slice la L lc) (.slice (some ⟨g,o,none⟩) N cc) (k+1) w' v' (fo fr en lim h c ak).1 M'):=fun W hW=>by
     rw [← GD];exact MR.out k W vk ak Mk b n _ _ _ c u (hl.below hW) hc (MQ.out k u c hu hc)
    have fj:=G0 (fo fr en lim h) en t.2.1 t.2.2 k ak c hc;rw [← HD.out] at fj;have p1:=hl.br.c1;have p2:=hl.br.c2;have Yq:=hl.gs.cen;have kg:wr.cell? ⟨x.g,0,none⟩=some (.func (.func 90) #[] #[.pointer (some ⟨x.m,0,none⟩),.pointer (some ⟨x.f,0,none⟩),.pointer (some ⟨x.t,0,none⟩),.pointer (some ⟨x.fr,0,none⟩),.pointer (some ⟨x.en,0,none⟩),.pointer (some ⟨x.p,0,none⟩),.pointer (some ⟨x.l,0,none⟩),.pointer (some ⟨x.g,0,none⟩)]):=hl.gs.cg;have HC:Hid (∀ W,Below wr.heap.size wr W→W.cell? ⟨b,1,none⟩=some (.int .i64 n.f)∧W.cell? ⟨b,2,none⟩=some (.slice la L lc)∧W.cell? ⟨b,3,none⟩=some (.slice (some ⟨g,o,none⟩) N cc)∧W.cell? ⟨x.en,0,none⟩=some (.string en)∧W.cell? ⟨x.g,0,none⟩=some (.func (.func 90) #[] #[.pointer (some ⟨x.m,0,none⟩),.pointer (some ⟨x.f,0,none⟩),.pointer (some ⟨x.t,0,none⟩),.pointer (some ⟨x.fr,0,none⟩),.pointer (some ⟨x.en,0,none⟩),.pointer (some ⟨x.p,0,none⟩),.pointer (some ⟨x.l,0,none⟩),.pointer (some ⟨x.g,0,none⟩)])∧W.cell? ⟨g,o+k,none⟩=some (.iface ut ux)):=fun W hW=>by
     have:=hl.below hW;exact ⟨this.br.c1,this.br.c2,this.br.c3,this.gs.cen,this.gs.cg,by
      rw [← GD];obtain ⟨g',o',he,h1⟩:=this.br.qL hu;cases he;exact h1⟩
    have uX:Hid (∀ (k':Nat) (W:World) (v':Value) (a':List Pr) (M':List Nat),Ia base A db F d w0 tb x fr en lim lo t w v acc M b n (.slice xa n.ps.length xc) (.slice la L lc) (.slice (some ⟨g,o,none⟩) N cc) k' W v' a' M'→W.cell? ⟨b,1,none⟩=some (.int .i64 n.f)∧W.cell? ⟨b,2,none⟩=some (.slice la L lc)∧W.cell? ⟨b,3,none⟩=some (.slice (some ⟨g,o,none⟩) N cc)∧W.cell? ⟨x.en,0,none⟩=some (.string en)∧W.cell? ⟨x.g,0,none⟩=some (.func (.func 90) #[] #[.pointer (some ⟨x.m,0,none⟩),.pointer (some ⟨x.f,0,none⟩),.pointer (some ⟨x.t,0,none⟩),.pointer (some ⟨x.fr,0,none⟩),.pointer (some ⟨x.en,0,none⟩),.pointer (some ⟨x.p,0,none⟩),.pointer (some ⟨x.l,0,none⟩),.pointer (some ⟨x.g,0,none⟩)])∧W.cell? ⟨g,o+k,none⟩=some (.iface ut ux)):=fun k' W v' a' M' this=>by
     exact ⟨this.br.c1,this.br.c2,this.br.c3,this.gs.cen,this.gs.cg,by
      rw [← GD];obtain ⟨g',o',he,h1⟩:=this.br.qL hu;cases he;exact h1⟩
    have HU:=ab hu;have HUV:=ab GD;have Rk:(0:Int)≤(k:Int):=by omega
    have jv:(k:Int)<(N:Int):=by omega
    have Ul:IntKind.i64.wrap ((k:Int)+1)=(k:Int)+1:=by rw [IntKind.wrap_i64];omega
    have hwd:IntKind.i64.wrap ((dp:Int)+1)=(dp:Int)+1:=by have:=HDP.out;rw [IntKind.wrap_i64];omega
    have gS:=ab fj;have TX:Hid (k+1≤N):=bN;clear hl hcu hN fj hu GD MR MQ bN hkN;by_cases ZU:ye en (Mi t.2.1 k)=true
    ·rw [ZU] at XD;rw [if_pos ZU] at gS;clear RE;go_wp2_with fail;refine wp_region_held_drew (S:=(fun w'=>w'.cell? ⟨b,1,none⟩=some (.int .i64 n.f)∧w'.cell? ⟨b,2,none⟩=some (.slice la L lc)∧w'.cell? ⟨x.en,0,none⟩=some (.string en))) (by kernel_rfl) ⟨p1,p2,Yq⟩ (fun gk=>?_)
     refine wpAnyH_take (i:=0) (oi:={ dst:=some 70,op:=Op.move (Operand.tmp 13),type:=152,pos := "look.go:49",after:=#[],guard:=none }) (v:=?_) rfl (by kernel_rfl) (by kernel_rfl) (by kernel_rfl) (fun _ _ _ h=>h) (Or.inl ⟨by rfl,?_⟩) (by assumption) ?_
     rotate_left
     ·(intro w' xM;(try dsimp only at xM);go_simp;try with_reducible rfl)
     simp only [Act.put,aC,List.set_cons_zero,List.set_cons_succ];refine wpAnyH_take (i:=1) (oi:={ dst:=some 71,op:=Op.nilCheck (Operand.tmp 70),type:=0,pos := "look.go:49",after:=#[{ on:=0,ground:=Ground.data }],guard:=none }) (v:=?_) rfl (by kernel_rfl) (by kernel_rfl) (by kernel_rfl) (fun _ _ _ h=>h) (Or.inl ⟨by rfl,?_⟩) (by assumption) ?_
     rotate_left
     ·(intro w' xM;(try dsimp only at xM);go_simp;try with_reducible rfl)
     simp only [Act.put,aC,List.set_cons_zero,List.set_cons_succ];refine wpAnyH_take (i:=2) (oi:={ dst:=some 72,op:=Op.fieldAddr 155 (Operand.tmp 71) 1,type:=0,pos := "look.go:49",after:=#[{ on:=1,ground:=Ground.data }],guard:=none }) (v:=?_) rfl (by kernel_rfl) (by kernel_rfl) (by kernel_rfl) (fun _ _ _ h=>h) (Or.inl ⟨by rfl,?_⟩) (by assumption) ?_
     rotate_left
     ·(intro w' xM;(try dsimp only at xM);go_simp;try with_reducible rfl)
     simp only [Act.put,aC,List.set_cons_zero,List.set_cons_succ];refine wpAnyH_take (i:=3) (oi:={ dst:=some 73,op:=Op.load 150 (Operand.tmp 72),type:=150,pos := "look.go:49",after:=#[{ on:=2,ground:=Ground.data }],guard:=none }) (v:=?_) rfl (by kernel_rfl) (by kernel_rfl) (by kernel_rfl) (fun _ _ _ h=>h) (Or.inl ⟨by rfl,?_⟩) (by assumption) ?_
     rotate_left
     ·(intro w' xM;(try dsimp only at xM);go_simp;try with_reducible rfl)
     simp only [Act.put,aC,List.set_cons_zero,List.set_cons_succ];refine wpAnyH_take (i:=4) (oi:={ dst:=some 74,op:=Op.move (Operand.tmp 16),type:=3,pos := "look.go:49",after:=#[],guard:=none }) (v:=?_) rfl (by kernel_rfl) (by kernel_rfl) (by kernel_rfl) (fun _ _ _ h=>h) (Or.inl ⟨by rfl,?_⟩) (by assumption) ?_
     rotate_left
     ·(intro w' xM;(try dsimp only at xM);go_simp;try with_reducible rfl)
     simp only [Act.put,aC,List.set_cons_zero,List.set_cons_succ];refine wpAnyH_take (i:=5) (oi:={ dst:=some 75,op:=Op.load 9 (Operand.tmp 6),type:=9,pos := "look.go:49",after:=#[],guard:=none }) (v:=?_) rfl (by kernel_rfl) (by kernel_rfl) (by kernel_rfl) (fun _ _ _ h=>h) (Or.inl ⟨by rfl,?_⟩) (by assumption) ?_
     rotate_left
     ·(intro w' xM;(try dsimp only at xM);go_simp;try with_reducible rfl)
     simp only [Act.put,aC,List.set_cons_zero,List.set_cons_succ];refine wpAnyH_ready (rs:=[6]) (by kernel_rfl) (by simp) ?_
     refine AllReadyH.cons (o:={ dst:=some 76,op:=Op.call { callee:=Callee.value (Operand.func 95),args:=#[Operand.tmp 73,Operand.tmp 74,Operand.tmp 75],argTypes:=#[150,3,9] },type:=4,pos := "look.go:49",after:=#[{ on:=3,ground:=Ground.data },{ on:=4,ground:=Ground.data },{ on:=5,ground:=Ground.data }],guard:=none }) rfl (fun K hK=>?_) AllReadyH.nil
     clear gk;go_simp
     refine (XD.out _ (by first | exact Below.refl _ _ | exact B.aO (Below.refl _ _))).mono ?_
     rintro e w3 ⟨rfl,bT⟩;have eG:=ab bT;obtain ⟨n1,n2,n3,n4,n5,n6⟩:=HC.out w3 bT;clear bT;refine hK.out _ _ ⟨n1,n2,n4⟩ (fun gk=>?_)
     clear hK K;refine wpAnyH_take (i:=7) (oi:={ dst:=some 77,op:=Op.move (Operand.tmp 76),type:=4,pos := "look.go:49",after:=#[{ on:=6,ground:=Ground.data },{ on:=6,ground:=Ground.chain }],guard:=none }) (v:=?_) rfl (by kernel_rfl) (by kernel_rfl) (by kernel_rfl) (fun _ _ _ h=>h) (Or.inl ⟨by rfl,?_⟩) (by assumption) ?_
     rotate_left
     ·(intro w' xM;(try dsimp only at xM);go_simp;try with_reducible rfl)
     simp only [Act.put,aC,List.set_cons_zero,List.set_cons_succ];refine wpAnyH_take (i:=8) (oi:={ dst:=some 78,op:=Op.load 167 (Operand.tmp 9),type:=167,pos := "look.go:49",after:=#[{ on:=7,ground:=Ground.guard }],guard:=some (7,false) }) (v:=undef) rfl (by kernel_rfl) (by kernel_rfl) (by kernel_rfl) (fun _ _ _ h=>h) (Or.inr ⟨by rfl,rfl⟩) (by assumption) ?_
     simp only [Act.put,aC,List.set_cons_zero,List.set_cons_succ];refine wpAnyH_take (i:=9) (oi:={ dst:=some 79,op:=Op.move (Operand.tmp 13),type:=152,pos := "look.go:49",after:=#[{ on:=7,ground:=Ground.guard }],guard:=some (7,false) }) (v:=undef) rfl (by kernel_rfl) (by kernel_rfl) (by kernel_rfl) (fun _ _ _ h=>h) (Or.inr ⟨by rfl,rfl⟩) (by assumption) ?_
     simp only [Act.put,aC,List.set_cons_zero,List.set_cons_succ];refine wpAnyH_take (i:=10) (oi:={ dst:=some 80,op:=Op.nilCheck (Operand.tmp 79),type:=0,pos := "look.go:49",after:=#[{ on:=9,ground:=Ground.data },{ on:=7,ground:=Ground.guard }],guard:=some (7,false) }) (v:=undef) rfl (by kernel_rfl) (by kernel_rfl) (by kernel_rfl) (fun _ _ _ h=>h) (Or.inr ⟨by rfl,rfl⟩) (by assumption) ?_
     simp only [Act.put,aC,List.set_cons_zero,List.set_cons_succ];refine wpAnyH_take (i:=11) (oi:={ dst:=some 81,op:=Op.fieldAddr 155 (Operand.tmp 80) 2,type:=0,pos := "look.go:49",after:=#[{ on:=10,ground:=Ground.data },{ on:=7,ground:=Ground.guard }],guard:=some (7,false) }) (v:=undef) rfl (by kernel_rfl) (by kernel_rfl) (by kernel_rfl) (fun _ _ _ h=>h) (Or.inr ⟨by rfl,rfl⟩) (by assumption) ?_
     simp only [Act.put,aC,List.set_cons_zero,List.set_cons_succ];refine wpAnyH_take (i:=12) (oi:={ dst:=some 82,op:=Op.load 153 (Operand.tmp 81),type:=153,pos := "look.go:49",after:=#[{ on:=11,ground:=Ground.data },{ on:=7,ground:=Ground.guard }],guard:=some (7,false) }) (v:=undef) rfl (by kernel_rfl) (by kernel_rfl) (by kernel_rfl) (fun _ _ _ h=>h) (Or.inr ⟨by rfl,rfl⟩) (by assumption) ?_
     simp only [Act.put,aC,List.set_cons_zero,List.set_cons_succ];refine wpAnyH_take (i:=13) (oi:={ dst:=some 83,op:=Op.move (Operand.tmp 16),type:=3,pos := "look.go:49",after:=#[{ on:=7,ground:=Ground.guard }],guard:=some (7,false) }) (v:=undef) rfl (by kernel_rfl) (by kernel_rfl) (by kernel_rfl) (fun _ _ _ h=>h) (Or.inr ⟨by rfl,rfl⟩) (by assumption) ?_
     simp only [Act.put,aC,List.set_cons_zero,List.set_cons_succ];refine wpAnyH_take (i:=14) (oi:={ dst:=some 84,op:=Op.indexAddr 153 (Operand.tmp 82) (Operand.tmp 83),type:=0,pos := "look.go:49",after:=#[{ on:=12,ground:=Ground.data },{ on:=13,ground:=Ground.data },{ on:=7,ground:=Ground.guard }],guard:=some (7,false) }) (v:=undef) rfl (by kernel_rfl) (by kernel_rfl) (by kernel_rfl) (fun _ _ _ h=>h) (Or.inr ⟨by rfl,rfl⟩) (by assumption) ?_
     simp only [Act.put,aC,List.set_cons_zero,List.set_cons_succ];refine wpAnyH_take (i:=15) (oi:={ dst:=some 85,op:=Op.load 97 (Operand.tmp 84),type:=97,pos := "look.go:49",after:=#[{ on:=14,ground:=Ground.data },{ on:=7,ground:=Ground.guard }],guard:=some (7,false) }) (v:=undef) rfl (by kernel_rfl) (by kernel_rfl) (by kernel_rfl) (fun _ _ _ h=>h) (Or.inr ⟨by rfl,rfl⟩) (by assumption) ?_
     simp only [Act.put,aC,List.set_cons_zero,List.set_cons_succ];refine wpAnyH_take (i:=16) (oi:={ dst:=some 86,op:=Op.move (Operand.tmp 1),type:=3,pos := "look.go:49",after:=#[{ on:=7,ground:=Ground.guard }],guard:=some (7,false) }) (v:=undef) rfl (by kernel_rfl) (by kernel_rfl) (by kernel_rfl) (fun _ _ _ h=>h) (Or.inr ⟨by rfl,rfl⟩) (by assumption) ?_
     simp only [Act.put,aC,List.set_cons_zero,List.set_cons_succ];refine wpAnyH_take (i:=17) (oi:={ dst:=some 87,op:=Op.binOp BinOp.add 3 (Operand.tmp 86) (Operand.const (Value.int IntKind.i64 1)) 3,type:=3,pos := "look.go:49",after:=#[{ on:=16,ground:=Ground.data },{ on:=7,ground:=Ground.guard }],guard:=some (7,false) }) (v:=undef) rfl (by kernel_rfl) (by kernel_rfl) (by kernel_rfl) (fun _ _ _ h=>h) (Or.inr ⟨by rfl,rfl⟩) (by assumption) ?_
     simp only [Act.put,aC,List.set_cons_zero,List.set_cons_succ];refine wpAnyH_take (i:=18) (oi:={ dst:=some 88,op:=Op.call { callee:=Callee.value (Operand.tmp 78),args:=#[Operand.tmp 85,Operand.tmp 87],argTypes:=#[97,3] },type:=4,pos := "look.go:49",after:=#[{ on:=8,ground:=Ground.data },{ on:=15,ground:=Ground.data },{ on:=17,ground:=Ground.data },{ on:=7,ground:=Ground.chain },{ on:=7,ground:=Ground.guard }],guard:=some (7,false) }) (v:=undef) rfl (by kernel_rfl) (by kernel_rfl) (by kernel_rfl) (fun _ _ _ h=>h) (Or.inr ⟨by rfl,rfl⟩) (by assumption) ?_
     simp only [Act.put,aC,List.set_cons_zero,List.set_cons_succ];refine wpAnyH_take (i:=19) (oi:={ dst:=some 89,op:=Op.unOp UnOp.not 4 (Operand.tmp 88),type:=4,pos := "look.go:49",after:=#[{ on:=18,ground:=Ground.data },{ on:=7,ground:=Ground.guard }],guard:=some (7,false) }) (v:=undef) rfl (by kernel_rfl) (by kernel_rfl) (by kernel_rfl) (fun _ _ _ h=>h) (Or.inr ⟨by rfl,rfl⟩) (by assumption) ?_
     simp only [Act.put,aC,List.set_cons_zero,List.set_cons_succ];refine wpAnyH_take (i:=20) (oi:={ dst:=some 90,op:=Op.pick (Operand.tmp 77) (Operand.const (Value.bool true)) (Operand.tmp 89),type:=4,pos := "look.go:49",after:=#[{ on:=7,ground:=Ground.data },{ on:=19,ground:=Ground.data }],guard:=none }) (v:=?_) rfl (by kernel_rfl) (by kernel_rfl) (by kernel_rfl) (fun _ _ _ h=>h) (Or.inl ⟨by rfl,?_⟩) (by assumption) ?_
     rotate_left
     ·(intro w' xM;(try dsimp only at xM);go_simp;try with_reducible rfl)
     simp only [Act.put,aC,List.set_cons_zero,List.set_cons_succ];refine wpAnyH_done (by kernel_rfl) ?_ _
     clear gk;go_wp2;go_ret;exact (HL.out.below eG.out).out gS.out
    ·rw [Bool.not_eq_true] at ZU;rw [ZU] at XD;rw [if_neg (by rw [ZU];simp)] at gS
     obtain ⟨r,hr⟩ : ∃ r,r=(fo fr en lim h c ak).2:=⟨_,rfl⟩;rw [← hr] at RE gS;have HR:=ab hr;clear hr;go_wp2_with fail;cases r
     ·rw [if_neg (by simp)] at gS
      go_region_held3 (fun w'=>w'.cell? ⟨b,1,none⟩=some (.int .i64 n.f)∧w'.cell? ⟨b,2,none⟩=some (.slice la L lc)∧w'.cell? ⟨x.en,0,none⟩=some (.string en)∧w'.cell? ⟨b,3,none⟩=some (.slice (some ⟨g,o,none⟩) N cc)∧w'.cell? ⟨x.g,0,none⟩=some (.func (.func 90) #[] #[.pointer (some ⟨x.m,0,none⟩),.pointer (some ⟨x.f,0,none⟩),.pointer (some ⟨x.t,0,none⟩),.pointer (some ⟨x.fr,0,none⟩),.pointer (some ⟨x.en,0,none⟩),.pointer (some ⟨x.p,0,none⟩),.pointer (some ⟨x.l,0,none⟩),.pointer (some ⟨x.g,0,none⟩)])∧w'.cell? ⟨g,o+k,none⟩=some (.iface ut ux)) (go_keep)
       (first
        | (go_at_call 95;refine (XD.out _ (by first | exact Below.refl _ _ | exact B.aO (Below.refl _ _))).mono ?_;rintro e w3 ⟨rfl,bT⟩;have eG:=ab bT;obtain ⟨n1,n2,n3,n4,n5,n6⟩:=HC.out w3 bT;clear bT)
        | (go_at_call 90;refine (RE.out _ eG.out).mono ?_;rintro e w4 ⟨v4,M4,rfl,Fi⟩;have WT:=ab Fi;obtain ⟨o1,o2,o3,o4,o5,o6⟩:=uX.out _ _ _ _ _ Fi;clear Fi))
      all_goals
       go_wp2;go_ret;exact WT.out.out gS.out
     ·rw [if_pos rfl] at gS;go_region_held3 (fun w'=>w'.cell? ⟨b,1,none⟩=some (.int .i64 n.f)∧w'.cell? ⟨b,2,none⟩=some (.slice la L lc)∧w'.cell? ⟨x.en,0,none⟩=some (.string en)∧w'.cell? ⟨b,3,none⟩=some (.slice (some ⟨g,o,none⟩) N cc)∧w'.cell? ⟨x.g,0,none⟩=some (.func (.func 90) #[] #[.pointer (some ⟨x.m,0,none⟩),.pointer (some ⟨x.f,0,none⟩),.pointer (some ⟨x.t,0,none⟩),.pointer (some ⟨x.fr,0,none⟩),.pointer (some ⟨x.en,0,none⟩),.pointer (some ⟨x.p,0,none⟩),.pointer (some ⟨x.l,0,none⟩),.pointer (some ⟨x.g,0,none⟩)])∧w'.cell? ⟨g,o+k,none⟩=some (.iface ut ux)) (go_keep)
       (first
        | (go_at_call 95;refine (XD.out _ (by first | exact Below.refl _ _ | exact B.aO (Below.refl _ _))).mono ?_;rintro e w3 ⟨rfl,bT⟩;have eG:=ab bT;obtain ⟨n1,n2,n3,n4,n5,n6⟩:=HC.out w3 bT;clear bT)
        | (go_at_call 90;refine (RE.out _ eG.out).mono ?_;rintro e w4 ⟨v4,M4,rfl,Fi⟩;have WT:=ab Fi;obtain ⟨o1,o2,o3,o4,o5,o6⟩:=uX.out _ _ _ _ _ Fi;clear Fi))
      all_goals
       clear RE HC XD uX;go_wp2;go_roundw
       case rel=>exact ⟨k+1,v4,(fo fr en lim h c ak).1,M4,by rw [fZ];rfl,TX.out,WT.out,gS.out⟩
       case measure=>simp [intOf];have:=TX.out;omega
   ·have:k=N:=by omega
    subst this;have HE:=ab (HL.out.out (e:=true) (by rw [HD.out,Lq _ _ _ _ _ _ (by have:=HN.out;have:=BV.out.1;omega)]))
    clear hl MR MQ BV HN HD HL;go_wp2;go_ret;exact HE.out
end
attribute [local go_sem ↓] Go.wp_at_zero Go.wp_at_succ
section
variable {PG:Int→Option PD} {w0:World} {lo pb:Nat} {pv:Value} {P:List Nat} {tx:Nat} {h:Nat} {w:World} {sv:Value} {Z:List S.Sh}
theorem Tb{h:Nat}{cs:List (Nd h)}{c:Nd h}(hc:cs[0]?=some c):lN cs=(ft h c:Int):=by
 cases cs with
 | nil=>simp at hc
 | cons d cs=>cases hc;rfl
theorem nc(IH:TN PG w0 lo pb pv P tx h){b:Nat}{n:SN}{xv lv cv:Value}{t:Nd (h+1)}(xB:dH w0 b n xv lv cv)(hn:aT PG w0 (h+1) n t)(ho:QE (h+1) t)(hP:pH w0 lo pb pv P tx w sv Z)(jo:((bY (aW (fe P) h) t.2.2 Z.length).1.flatMap (dB h)).Nodup)(xK:Z.length+(t.2.2.map (iX h)).sum≤P.length):Calls prog 184 #[.pointer (some ⟨pb,0,none⟩),.pointer (some ⟨b,0,none⟩)] w fun e w'=>∃ nZ Sp,e = .returned (.agg #[.int .i64 (lN (bY (aW (fe P) h) t.2.2 Z.length).1),Sp])∧B.di w' Sp (qj t.2.1 (bY (aW (fe P) h) t.2.2 Z.length).1)∧pH w0 lo pb pv P tx w' nZ (Z++(bY (aW (fe P) h) t.2.2 Z.length).2.map (jT tx))∧mx pb w sv w' nZ:=by
 have MD:n.us.length=t.2.2.length:=hn.1;have ju:t.2.1=n.lk.map (·.1):=hn.2.2.2.1;have h0:¬ n.us.length=0:=fun e=>hn.2.1 (List.length_eq_zero_iff.1 e)
 have gM:n.us.length=n.lk.length+1:=by
  rcases hn.2.2.1 with h9 | h9
  ·exact absurd h9 h0
  ·exact h9
 have Rh:0<n.lk.length:=by
  have h9:t.2.1≠[]:=ho.2.2;rw [ju] at h9;cases hl:n.lk with
  | nil=>rw [hl] at h9;exact absurd rfl h9
  | cons _ _=>simp
 have gY:=xB.fine;obtain ⟨W1,gF⟩ : ∃ W1,w.alloc (.cells #[.int .i64 0,.slice none 0 0] 150)=W1:=⟨_,rfl⟩;have aL:Below w.heap.size w W1:=gF▸ai w _;obtain ⟨H,hH⟩ : ∃ H,w.heap.size=H:=⟨_,rfl⟩;have rH:B.au W1 H #[.int .i64 0,.slice none 0 0] 150:=by rw [← hH];exact gF▸B.au.new w _ _
 have hP1:=hP.below aL;obtain ⟨news,ia⟩ : ∃ news,news=(bY (aW (fe P) h) t.2.2 Z.length).1:=⟨_,rfl⟩;have xD:news.length=n.lk.length+1:=by rw [ia,ik];omega
 have Fm:(qj t.2.1 news).length=n.lk.length:=by rw [vq _ _ (by rw [xD,ju,az]),ju,az]
 obtain ⟨q0,Q8⟩ : ∃ q,n.us[0]?=some q:=⟨_,af (by omega)⟩
 obtain ⟨c0,xL⟩ : ∃ c,t.2.2[0]?=some c:=⟨_,af (by omega)⟩
 obtain ⟨la,lc,pD⟩:=xB.a8.form;obtain ⟨ca,cc,sg⟩:=xB.kids.form;have V4:=xB.a8;subst pD sg;obtain ⟨g,o,rfl,bh⟩:=xB.br.qL Q8;obtain ⟨ut,ux,GD⟩:=bM q0;rw [GD,Nat.add_zero] at bh;obtain ⟨ta,YB,YL⟩:=xB.kids.drop (m:=1) (by omega)
 have qq:∀ W',(Instr.sliceAt 153 (.slice (some ⟨g,o,none⟩) (n.lk.length+1) cc) (some (.int .i64 1)) none none).run prog W' = .ok (.slice ta n.lk.length (cc - 1)) W':=fun W'=>by
  have:=YL W';rw [gM] at this;simpa using this
 have WB:Hid (∀ i q,n.us[i+1]?=some q→∃ g' o',ta=some ⟨g',o',none⟩∧w0.cell? ⟨g',o'+i,none⟩=some q.val):=fun i q hq=>by
  obtain ⟨a',c',he,-,-,hc⟩:=YB;simp only [Value.slice.injEq] at he;obtain ⟨rfl,-,-⟩:=he;exact hc i q.val (by unfold C.a8;rw [aM,dk,Nat.add_comm 1 i,hq];rfl)
 have Pf:=I1 (aW (fe P) h) t.2.2 Z.length 0 c0 xL;simp only [List.take_zero,bY,List.length_nil,Nat.add_zero,List.nil_append] at Pf;have QU:Hid (∀ W kk uu,sk w0 lo pb pv P tx n.lk w sv H W sv Z kk uu→Calls prog 72 #[.pointer (some ⟨pb,0,none⟩),.iface ut ux] W fun e w'=>∃ nZ,e = .returned (.int .i64 (lN news))∧sk w0 lo pb pv P tx n.lk w sv H w' nZ (Z++(bY (aW (fe P) h) (t.2.2.take 1) Z.length).2.map (jT tx)) kk uu):=fun W kk uu hW=>by
  have KV:iX h c0≤(t.2.2.map (iX h)).sum:=by
   have e1:=vX (l:=t.2.2.map (iX h)) (i:=0) (x:=iX h c0) (by rw [aM,xL];rfl)
   have e2:=lx (t.2.2.map (iX h)) 1;simp only [List.take_zero,List.sum_nil,Nat.zero_add] at e1;omega
  rw [← GD];refine (IH q0 c0 W sv Z (hn.qL Q8 xL) (vi ho xL) hW.yv (by omega) (wW jo Pf.1)).mono ?_
  rintro e w' ⟨nZ,rfl,g1,g2⟩;refine ⟨nZ,by rw [ia,Tb Pf.1],hW.move g2 ?_⟩
  rw [show t.2.2.take 1=t.2.2.take (0+1) from rfl,Pf.2]
  exact g1
 have uX:Hid (∀ W sx Zc kk,sk w0 lo pb pv P tx n.lk w sv H W sx Zc kk none→Calls prog 209 #[.slice la n.lk.length lc] W fun e w'=>∃ ug uc,e = .returned (.slice (some ⟨ug,0,none⟩) n.lk.length uc)∧sk w0 lo pb pv P tx n.lk w sv H w' sx Zc kk (some (ug,uc))):=fun W sx Zc kk hW=>by
  refine (B.eM _ n.lk W (by have:=gY.2.2.2.1;omega) (V4.below hW.yv.ew)).mono ?_
  rintro e w' ⟨u,rfl,hou,hb⟩;obtain ⟨ug,uc,hu,-⟩:=hou.has Rh;subst hu;exact ⟨ug,uc,rfl,hW.clone hou hb⟩
 have HOL:Hid (∀ W,Below w0.heap.size w0 W→W.cell? ⟨b,3,none⟩=some (.slice (some ⟨g,o,none⟩) (n.lk.length+1) cc)∧W.cell? ⟨b,2,none⟩=some (.slice la n.lk.length lc)∧W.cell? ⟨g,o,none⟩=some (.iface ut ux)):=fun W hW=>⟨by rw [← gM];exact (xB.below hW).c3,(xB.below hW).c2,(hW.cell (p:=⟨g,o,none⟩) (World.block_lt_of_cell? w0 _ bh)).trans bh⟩
 obtain ⟨p3,p2,p4⟩:=HOL.out W1 hP1.ew;have Rg:(0:Int)≤(n.lk.length:Int):=by omega
 have Aq:(0:Int)<(n.lk.length:Int)+1:=by omega
 have yn:Hid (sk w0 lo pb pv P tx n.lk w sv H W1 sv Z none none):=⟨hP1,mx.below sv aL,rH,⟨by omega,by have:=hP.row.lt;omega,fun e=>by have:=(hP.sh.dr e).2;omega⟩,(fun _ h=>by cases h),(fun _ _ h=>by cases h),(fun _ _ _ h=>by cases h)⟩
 have MQ:Hid (∀ (k:Nat) (q:C.Ch) (c:Nd h),n.us[k]?=some q→t.2.2[k]?=some c→eh PG w0 h q c∧QE h c):=fun k q c h1 h2=>⟨hn.qL h1 h2,vi ho h2⟩
 have HIH:Hid (TN PG w0 lo pb pv P tx h):=IH;have HND:=ab jo;have RF:=ab xK;have HKS:Hid (n.lk.map (·.1)=t.2.1):=ju.symm;have HW0:Hid (w0.heap.size≤w.heap.size):=hP.ew.size;have HBG:Hid (b<w.heap.size∧g<w.heap.size):=⟨aq xB.row.lt hP.ew.size,aq (World.block_lt_of_cell? w0 _ bh) hP.ew.size⟩;have HRH:=ab rH;have HHW:Hid (w.heap.size=H∧W1.heap.size=H+1∧Below w.heap.size w W1):=⟨hH,by rw [← gF,← hH];simp,aL⟩
 have lU:Hid (0<n.lk.length∧n.us.length=n.lk.length+1∧n.lk.length≤4000∧n.us.length=t.2.2.length∧(qj t.2.1 news).length=n.lk.length):=⟨Rh,gM,gY.2.2.2.1,MD,Fm⟩;have HNW:=ab ia;rw [← ia];clear ju jo xK YB YL hP1 hP rH aL Rh gM gY MD xD Fm V4 bh Pf Q8 xL GD h0 ia;go_enter func184,ntmps184;go_upto_region 1 with fail
 go_cut [5] (fun u wx=>∃ K ug uc sx,u = .pointer (some ⟨K,0,none⟩)∧zu w0 lo pb pv P tx t.2.2 Z.length (qj t.2.1 news) n.lk (lN news) w sv Z H K ug uc 0 1 wx sx)
 case first =>
  go_region_held3 (fun w'=>w'.cell? ⟨b,3,none⟩=some (.slice (some ⟨g,o,none⟩) (n.lk.length+1) cc)∧w'.cell? ⟨b,2,none⟩=some (.slice la n.lk.length lc)∧w'.cell? ⟨g,o,none⟩=some (.iface ut ux)) (go_keep)
   (first
    | (go_at_call 72;refine (QU.out _ _ _ (by first | exact XN.out | exact XN.out.drew | exact XN.out.alloc | exact XN.out.alloc.drew | exact yn.out | exact yn.out.drew | exact yn.out.alloc | exact yn.out.alloc.drew)).mono ?_;rintro e wl ⟨sl,rfl,hq⟩;have U2:=ab hq;obtain ⟨x3,x2,x4⟩:=HOL.out wl hq.yv.ew;(try (have kr:=(hq.kr _ rfl).1;have ke1:=Nat.ne_of_gt (aq HBG.out.1 (hq.kr _ rfl).2.1);have ke2:=Nat.ne_of_gt (aq HBG.out.2 (hq.kr _ rfl).2.1);have kc0:=kr.c0;have kc1:=kr.c1;have kf0:=kr.free 0;have kf1:=kr.free 1;clear kr));clear hq)
    | (go_at_call 209;refine (uX.out _ _ _ _ (by first | exact U2.out | exact U2.out.drew | exact U2.out.alloc | exact U2.out.alloc.drew | exact yn.out | exact yn.out.drew | exact yn.out.alloc | exact yn.out.alloc.drew)).mono ?_;rintro e wc ⟨ug,uc,rfl,hq⟩;have XN:=ab hq;obtain ⟨y3,y2,y4⟩:=HOL.out wc hq.yv.ew;(try (have kr:=(hq.kr _ rfl).1;have ke3:=Nat.ne_of_gt (aq HBG.out.1 (hq.kr _ rfl).2.1);have ke4:=Nat.ne_of_gt (aq HBG.out.2 (hq.kr _ rfl).2.1);have kd0:=kr.c0;have kd1:=kr.c1;have kg0:=kr.free 0;have kg1:=kr.free 1;clear kr));clear hq))
  all_goals
   go_wp2_with fail;go_meet
   first
    | exact ⟨_,_,_,_,rfl,sk.done XN.out HW0.out⟩
    | exact ⟨_,_,_,_,rfl,sk.done U2.out HW0.out⟩
    | exact ⟨_,_,_,_,rfl,sk.UP XN.out⟩
    | exact ⟨_,_,_,_,rfl,sk.UP U2.out⟩
 case rest =>
  obtain ⟨K,ug,uc,sx,rfl,hB⟩:=hcut;obtain ⟨z3,z2,z4⟩:=HOL.out _ hB.yv.ew;have uY:=ab hB;clear hB QU uX yn p3 p2 p4;go_wp2_with fail;go_loopw [29] (fun iv wr=>∃ (i:Nat) (sy:Value),iv = .int .i64 (i:Int)∧i≤n.lk.length∧zu w0 lo pb pv P tx t.2.2 Z.length (qj t.2.1 news) n.lk (lN news) w sv Z H K ug uc i (i+1) wr sy) (fun iv _=>n.lk.length - (intOf iv).toNat)
  case atStart=>exact ⟨0,sx,rfl,aD _,uY.out⟩
  case round =>
   obtain ⟨i,sy,rfl,hiL,hB⟩:=hrel;obtain ⟨UD,K4,hl3,Fi,hl5⟩:=lU.out;clear uY z3 z2 z4 qq;by_cases bN:i<n.lk.length
   ·obtain ⟨q,hq⟩ : ∃ q,n.us[i+1]?=some q:=⟨_,af (by omega)⟩
    obtain ⟨c,hc⟩ : ∃ c,t.2.2[i+1]?=some c:=⟨_,af (by omega)⟩
    obtain ⟨g',o',rfl,I9⟩:=WB.out i q hq;obtain ⟨qt,qx,YW⟩:=bM q;rw [YW] at I9;have Pz:wr.cell? ⟨g',o'+i,none⟩=some (.iface qt qx):=(hB.yv.ew.cell (p:=⟨g',o'+i,none⟩) (World.block_lt_of_cell? w0 _ I9)).trans I9;obtain ⟨hk,cN⟩:=MQ.out (i+1) q c hq hc;have QS:Hid (∀ W,Below wr.heap.size wr W→Calls prog 72 #[.pointer (some ⟨pb,0,none⟩),.iface qt qx] W fun e w'=>∃ nZ c',(bY (aW (fe P) h) t.2.2 Z.length).1[i+1]?=some c'∧e = .returned (.int .i64 (ft h c':Int))∧zu w0 lo pb pv P tx t.2.2 Z.length (qj t.2.1 news) n.lk (lN news) w sv Z H K ug uc i (i+1+1) w' nZ):=fun W hW=>by
     rw [← YW];exact (hB.below hW).call HIH.out rfl HND.out RF.out hc hk cN
    have kk1:wr.cell? ⟨K,1,none⟩=some (.slice (some ⟨ug,0,none⟩) n.lk.length uc):=hB.row.c1;have ah0:ug≠K:=fun e=>hB.ne.1 e.symm
    have yy:(0:Int)≤(i:Int):=by omega
    have B8:(i:Int)<(n.lk.length:Int):=by omega
    have uS:(i:Int)<4000:=by omega
    have TZ:Hid (i<n.lk.length):=bN;have HAL:Hid ((qj t.2.1 news).length=n.lk.length):=hl5;clear hB I9 hk cN hq hc YW bN hiL UD K4 hl3 Fi hl5;go_wp2_with fail;go_region_held3 (fun w'=>w'.cell? ⟨K,1,none⟩=some (.slice (some ⟨ug,0,none⟩) n.lk.length uc)) (go_keep)
     (first
      | (go_at_call 72;refine (QS.out _ (by first | exact Below.refl _ _ | exact B.aO (Below.refl _ _))).mono ?_;rintro e w4 ⟨sz,c',ub,rfl,hB4⟩;obtain ⟨⟨u4,hu4⟩,hf4,hB5⟩:=hB4.put HW0.out HKS.out (by rw [HNW.out]) HAL.out TZ.out ub;have iW:=ab hB5;have n1:=hB4.row.c1;clear hB4 hB5 ub))
    all_goals
     clear QS;go_wp2;go_roundw
     case rel=>exact ⟨i+1,sz,by go_num,TZ.out,by first | exact iW.out | exact iW.out.below (B.aO (Below.refl _ _))⟩
     case measure=>simp [intOf];have:=TZ.out;omega
   ·have hiE:i=n.lk.length:=by omega
    have kk0:wr.cell? ⟨K,0,none⟩=some (.int .i64 (lN news)):=hB.row.c0;have kk1:wr.cell? ⟨K,1,none⟩=some (.slice (some ⟨ug,0,none⟩) n.lk.length uc):=hB.row.c1;have hh0:=hB.res.c0;have hh1:=hB.res.c1;have Ee:=hB.res.free 0;have hf1:=hB.res.free 1;have gY:=hB.fin HW0.out (.int .i64 (lN news)) (.slice (some ⟨ug,0,none⟩) n.lk.length uc);have b8:=ab hB.res;rw [Ol hl5 (by omega),al (by omega:t.2.2.length≤i+1)] at gY
    have nI:=ab gY;have B8:¬ (i:Int)<(n.lk.length:Int):=by omega
    clear hB gY hiL UD K4 hl3 Fi hl5 bN hiE;go_wp2;refine bodyPost_ret (results_cell_row rfl _ _ H 150 _ (0,0) _ rfl (b8.out.two _ _) underlying150 rfl (by kernel_rfl)) rfl ?_
    exact ⟨sy,_,rfl,nI.out.1,nI.out.2.1,nI.out.2.2⟩
end
end T
end Go.Proofs.YtihmgigfkmofnaaGreatDoor
