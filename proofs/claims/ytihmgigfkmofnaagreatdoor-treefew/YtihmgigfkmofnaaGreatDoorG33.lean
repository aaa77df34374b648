import Derived.Test.YtihmgigfkmofnaaGreatDoorG32
import Derived.Deep.CutBlock
set_option maxHeartbeats 8000000
set_option maxRecDepth 100000
open Go.Proofs.Tryz
namespace Go.Proofs.YtihmgigfkmofnaaGreatDoor
namespace T
open Go.RowKit
attribute [local go_sem ↓] Go.wp_at_zero Go.wp_at_succ
section
variable {base:Nat} {A:Nat→Addr} {db:Nat} {F:Nat→Prop} {d:S.V.bD} {w0:World} {tb:Nat} {x:Bx} {fr en:ByteArray} {lim lo:Nat}
theorem Br.c1{w:World}{b:Nat}{n:SN}{pv lv cv:Value}(h:Br w b n pv lv cv):w.cell? ⟨b,1,none⟩=some (.int .i64 n.f):=h.row.cell 1 (by simp)
theorem Br.c2{w:World}{b:Nat}{n:SN}{pv lv cv:Value}(h:Br w b n pv lv cv):w.cell? ⟨b,2,none⟩=some lv:=h.row.cell 2 (by simp)
theorem Br.c3{w:World}{b:Nat}{n:SN}{pv lv cv:Value}(h:Br w b n pv lv cv):w.cell? ⟨b,3,none⟩=some cv:=h.row.cell 3 (by simp)
theorem Br.rh{w:World}{b:Nat}{n:SN}{pv lv:Value}{a:Option Addr}{m c:Nat}(h:Br w b n pv lv (.slice a m c)){k:Nat}{p:C.Ch}(hk:n.us[k]?=some p):∃ g o,a=some ⟨g,o,none⟩∧w.cell? ⟨g,o+k,none⟩=some p.val:=by
 obtain ⟨a',c',he,_,_,hc⟩:=h.kids;cases he;obtain ⟨g,o,ha,h1⟩:=hc k p.val (by unfold C.bg;rw [aL,hk];rfl)
 exact ⟨g,o,ha,h1⟩
theorem zM{rv:Value}{h:Nat}(IH:JI base A db F d w0 tb x fr en lim lo h)(il:Dv base A db F d w0)(GQ:B.au w0 tb #[.pointer (some ⟨db,0,none⟩),rv] 100):JI base A db F d w0 tb x fr en lim lo (h+1):=by
 intro p t dp w v acc M hk nQ hg Pl dV ji lx mS;have Ig:=ab (hg.again il hk lx mS);have rj:Hid (∀ W,Gs base A db F d w0 tb x fr en lim lo W v acc (M++cJ (eX (h+1) t))→Calls prog 92 #[.pointer (some ⟨tb,0,none⟩),p.val,.int .i64 (dp:Int)] W fun e w'=>(lu (oZ d w0) A ⟨h+1,t⟩ e w'∧True)∧Dv base A db F d w'∧Mv db F W w'):=fun W hW=>by
  have aw:=hW.mv.cx il;refine (mO (oZ d w0) p ⟨h+1,t⟩ tb rv dp W ⟨⟨hk,nQ⟩,.inl aw⟩ (dz aw GQ) hW.dv (.inr (by omega))).mono ?_
  rintro e w' ⟨⟨h1,_⟩,h2,h3⟩;exact ⟨⟨h1,trivial⟩,h2,h3⟩
 have MG:Hid (∀ (k:Nat) (wr:World) (vk:Value) (ak:List Pr) (Mk:List Nat) (b:Nat) (n:SN) (pv lv cv:Value) (c:Nd h) (q:C.Ch),Ii base A db F d w0 tb x fr en lim lo t w v acc M b n pv lv cv k wr vk ak Mk→t.2.2[k]?=some c→eo (cU d) w0 h q c→Calls prog 90 #[q.val,.int .i64 ((dp:Int)+1),.pointer (some ⟨x.m,0,none⟩),.pointer (some ⟨x.f,0,none⟩),.pointer (some ⟨x.t,0,none⟩),.pointer (some ⟨x.fr,0,none⟩),.pointer (some ⟨x.en,0,none⟩),.pointer (some ⟨x.p,0,none⟩),.pointer (some ⟨x.l,0,none⟩),.pointer (some ⟨x.g,0,none⟩)] wr fun e w'=>∃ v' M',e = .returned (.bool (ft fr en lim h c ak).2)∧Ii base A db F d w0 tb x fr en lim lo t w v acc M b n pv lv cv (k+1) w' v' (ft fr en lim h c ak).1 M'):=fun k wr vk ak Mk b n pv lv cv c q hl hc YQ=>hl.rh IH nQ hc YQ Pl dV ji lx mS
 obtain ⟨pt,px,iB⟩:=bJ p;rw [iB] at rj Ig ⊢;have k0:w.cell? ⟨x.m,0,none⟩=some (.map (some x.mb)):=hg.cm;have Ia:=ab Pl;have HGD:=ab nQ;have Wn:Hid (cJ (eX (h+1) t)=cJ t.1):=rfl;clear hg hk nQ il GQ iB Pl dV lx mS ji IH;go_enter func90,ntmps90;go_wp2_with fail;refine Ig.out.mono ?_
 rintro e wa ⟨rfl,hga,OO⟩;have k1:wa.cell? ⟨x.t,0,none⟩=some (.pointer (some ⟨tb,0,none⟩)):=hga.ct;have CD:=ab (rj.out wa hga);have HS:=ab hga;have HT:=ab OO;clear hga OO rj Ig k0;go_wp2_with fail;refine CD.out.mono ?_
 rintro e w1 ⟨⟨BO,_⟩,eH,fI⟩;rcases BO with ⟨hE,_⟩ | ⟨b,n,pv,lv,cv,rfl,hs,hn⟩
 ·exact (hE:False).elim
 ·have VB:=HS.out.go fI eH;have AK:aU (cU d) w0 (h+1) n t:=hn.1.1;have Ms:n.us.length=t.2.2.length:=AK.1;have ny:t.2.1=n.lk.map (·.1):=AK.2.2.2.1;have h0:¬ n.us.length=0:=fun e=>AK.2.1 (List.length_eq_zero_iff.1 e)
  have pI:=ab (cd b n pv lv cv w1 hs);rw [show decide (n.us.length=0)=false by simp [h0]] at pI
  have ic:=hs.fine;have gR:n.us.length=n.lk.length+1:=by
   rcases AK.2.2.1 with h9 | h9
   ·exact absurd h9 h0
   ·exact h9
  have Cg:Hid (n.us.length=t.2.2.length∧t.2.1=n.lk.map (·.1)∧n.us.length=n.lk.length+1∧n.lk.length≤4000):=⟨Ms,ny,gR,ic.2.2.2.1⟩;have MF:Hid (∀ (k:Nat) (q:C.Ch) (c:Nd h),n.us[k]?=some q→t.2.2[k]?=some c→eo (cU d) w0 h q c):=fun k q c h1 h2=>AK.rh h1 h2
  have ZP:Hid (t.2.1.Pairwise fun a b=>df a b=true):=by
   obtain ⟨⟨tn,oE,ho⟩,_⟩:=HGD.out;exact kH ((iA h t tn oE).1 ho)
  have CE:Hid (∀ q,q≤n.us.length→Ii base A db F d w0 tb x fr en lim lo t w v acc M b n pv lv cv q w1 v acc (M++cJ t.1)):=fun q _=>by
   refine ⟨by rw [← Wn.out];exact VB,HT.out.trans (wq.mv v fI),hs.br,?_,fun i hi=>?_,?_⟩
   ·have:((t.2.2.drop q).flatMap (flat h)).length≤(flat (h+1) t).length:=by
     show _≤(t.2.2.flatMap (flat h)).length
     conv=>rhs;rw [← aE q t.2.2,bh,ae]
     omega
    omega
   ·rcases List.mem_append.1 hi with h | h
    ·exact .inl h
    ·exact .inr (dQ _ h)
   ·simp only [ae];omega
  have p1:=hs.c1;have p2:=hs.c2;have U6:=VB.cfr;have QE:Hid (∀ W,Below w1.heap.size w1 W→Calls prog 81 #[.agg #[.int .i64 n.f,lv],.string fr] W fun e w'=>(∃ p:Nat,e = .returned (.int .i64 (p:Int))∧B.gU n.lk fr p)∧Below w1.heap.size w1 w'):=fun W hW=>(B.A4 n.f lv n.lk fr W (by omega) (hs.bg.below hW)).mono fun e w' ⟨h1,h2⟩=>⟨h1,Below.next hW h2⟩
  obtain ⟨la,lc,tH⟩:=hs.bg.form;obtain ⟨ca,cc,vq⟩:=hs.kids.form;obtain ⟨xa,xc,KR⟩:=hs.jj.form;obtain ⟨N,hN⟩ : ∃ N,N=n.us.length:=⟨_,rfl⟩;obtain ⟨L,hL⟩ : ∃ L,L=n.lk.length:=⟨_,rfl⟩;rw [← hN] at vq CE;rw [← hL] at tH;subst tH vq KR;have HN:Hid (N=n.us.length):=hN;have HL:Hid (L=n.lk.length):=hL;clear eH fI CD hs hn h0 AK Ms ny ic gR k1 VB hN hL;go_wp2_with fail;refine pI.out.mono ?_
  rintro e w1' ⟨rfl,rfl⟩;go_wp2_with fail;go_region_held3 (fun w'=>w'.cell? ⟨b,1,none⟩=some (.int .i64 n.f)∧w'.cell? ⟨b,2,none⟩=some (.slice la L lc)∧w'.cell? ⟨x.fr,0,none⟩=some (.string fr)) (go_keep)
   (first
    | (go_at_call 81;refine (QE.out _ (by first | exact Below.refl _ _ | exact B.aR (Below.refl _ _))).mono ?_;rintro e w2 ⟨⟨q,rfl,ze⟩,aY⟩;have HPI:=ab ze;have bH:=ab aY;have m0:=(aY.cell (p:=⟨b,1,none⟩) (World.block_lt_of_cell? w1 _ p1)).trans p1;have m1:=(aY.cell (p:=⟨b,2,none⟩) (World.block_lt_of_cell? w1 _ p2)).trans p2;have m2:=(aY.cell (p:=⟨x.fr,0,none⟩) (World.block_lt_of_cell? w1 _ U6)).trans U6;clear ze aY))
  clear m0 m1 m2 p1 p2 U6 pI QE HS HT;have HQ:Hid (q≤N∧Ii base A db F d w0 tb x fr en lim lo t w v acc M b n (.slice xa n.ps.length xc) (.slice la L lc) (.slice ca N cc) q w2 v acc (M++cJ t.1)∧ft fr en lim (h+1) t acc=lh (ft fr en lim h) en (L0 t.2.1 q) (t.2.1.drop q) (t.2.2.drop q) acc):=by
   have h1:=HPI.out.1;have h2:=Cg.out;have h3:=HN.out;exact ⟨by omega,(CE.out q (by omega)).below bH.out,K7 acc h2.2.1 HPI.out ZP.out⟩
  clear HPI CE bH ZP;go_wp2_with fail;go_loopw [16] (fun i wr=>∃ (k:Nat) (vk:Value) (ak:List Pr) (Mk:List Nat),i = .int .i64 (k:Int)∧k≤N∧Ii base A db F d w0 tb x fr en lim lo t w v acc M b n (.slice xa n.ps.length xc) (.slice la L lc) (.slice ca N cc) k wr vk ak Mk∧ft fr en lim (h+1) t acc=lh (ft fr en lim h) en (L0 t.2.1 k) (t.2.1.drop k) (t.2.2.drop k) ak)
   (fun i _=>N - (intOf i).toNat)
  case atStart=>exact ⟨q,v,acc,M++cJ t.1,rfl,HQ.out.1,HQ.out.2.1,HQ.out.2.2⟩
  case round =>
   obtain ⟨k,vk,ak,Mk,rfl,hkN,hl,Y4⟩:=hrel;have HL:=ab hl;have HD:=ab Y4;have p3:=hl.br.c3;clear Y4 HQ;by_cases bX:k<N
   ·obtain ⟨u,hu⟩ : ∃ u,n.us[k]?=some u:=⟨_,af (by have:=HN.out;omega)⟩
    obtain ⟨c,hc⟩ : ∃ c,t.2.2[k]?=some c:=⟨_,af (by have:=HN.out;have:=Cg.out.1;omega)⟩
    obtain ⟨g,o,rfl,Pp⟩:=hl.br.rh hu;obtain ⟨ut,ux,GP⟩:=bJ u;rw [GP] at Pp;have hcu:=Cg.out;have hN:=HN.out;have Xj:Hid (∀ W,Below wr.heap.size wr W→Calls prog 95 #[.agg #[.int .i64 n.f,.slice la L lc],.int .i64 (k:Int),.string en] W fun e w'=>e = .returned (.bool (yC en (L0 t.2.1 k)))∧Below wr.heap.size wr w'):=fun W hW=>(BL n.f (.slice la L lc) n.lk k en W (hl.br.bg.below hW) (by omega) (by omega)).mono fun e w' ⟨h1,h2⟩=>⟨by rw [h1,hcu.2.1,Ti _ _ _ (by omega)],Below.next hW h2⟩
    have Rg:Hid (∀ W,Below wr.heap.size wr W→Calls prog 90 #[.iface ut ux,.int .i64 ((dp:Int)+1),.pointer (some ⟨x.m,0,none⟩),.pointer (some ⟨x.f,0,none⟩),.pointer (some ⟨x.t,0,none⟩),.pointer (some ⟨x.fr,0,none⟩),.pointer (some ⟨x.en,0,none⟩),.pointer (some ⟨x.p,0,none⟩),.pointer (some ⟨x.l,0,none⟩),.pointer (some ⟨x.g,0,none⟩)] W fun e w'=>∃ v' M',e = .returned (.bool (ft fr en lim h c ak).2)∧Ii base A db F d w0 tb x fr en lim lo t w v acc M b n (.slice xa n.ps.length xc) (.slice la L lc) (.slice (some ⟨g,o,none⟩) N cc) (k+1) w' v' (ft fr en lim h c ak).1 M'):=fun W hW=>by
     rw [← GP];exact MG.out k W vk ak Mk b n _ _ _ c u (hl.below hW) hc (MF.out k u c hu hc)
    have eS:=G8 (ft fr en lim h) en t.2.1 t.2.2 k ak c hc;rw [← HD.out] at eS;have p1:=hl.br.c1;have p2:=hl.br.c2;have XX:=hl.gs.ZE;have kg:wr.cell? ⟨x.g,0,none⟩=some (.func (.func 90) #[] #[.pointer (some ⟨x.m,0,none⟩),.pointer (some ⟨x.f,0,none⟩),.pointer (some ⟨x.t,0,none⟩),.pointer (some ⟨x.fr,0,none⟩),.pointer (some ⟨x.en,0,none⟩),.pointer (some ⟨x.p,0,none⟩),.pointer (some ⟨x.l,0,none⟩),.pointer (some ⟨x.g,0,none⟩)]):=hl.gs.cg;have HC:Hid (∀ W,Below wr.heap.size wr W→W.cell? ⟨b,1,none⟩=some (.int .i64 n.f)∧W.cell? ⟨b,2,none⟩=some (.slice la L lc)∧W.cell? ⟨b,3,none⟩=some (.slice (some ⟨g,o,none⟩) N cc)∧W.cell? ⟨x.en,0,none⟩=some (.string en)∧W.cell? ⟨x.g,0,none⟩=some (.func (.func 90) #[] #[.pointer (some ⟨x.m,0,none⟩),.pointer (some ⟨x.f,0,none⟩),.pointer (some ⟨x.t,0,none⟩),.pointer (some ⟨x.fr,0,none⟩),.pointer (some ⟨x.en,0,none⟩),.pointer (some ⟨x.p,0,none⟩),.pointer (some ⟨x.l,0,none⟩),.pointer (some ⟨x.g,0,none⟩)])∧W.cell? ⟨g,o+k,none⟩=some (.iface ut ux)):=fun W hW=>by
     have:=hl.below hW;exact ⟨this.br.c1,this.br.c2,this.br.c3,this.gs.ZE,this.gs.cg,by
      rw [← GP];obtain ⟨g',o',he,h1⟩:=this.br.rh hu;cases he;exact h1⟩
    have zl:Hid (∀ (k':Nat) (W:World) (v':Value) (a':List Pr) (M':List Nat),Ii base A db F d w0 tb x fr en lim lo t w v acc M b n (.slice xa n.ps.length xc) (.slice la L lc) (.slice (some ⟨g,o,none⟩) N cc) k' W v' a' M'→W.cell? ⟨b,1,none⟩=some (.int .i64 n.f)∧W.cell? ⟨b,2,none⟩=some (.slice la L lc)∧W.cell? ⟨b,3,none⟩=some (.slice (some ⟨g,o,none⟩) N cc)∧W.cell? ⟨x.en,0,none⟩=some (.string en)∧W.cell? ⟨x.g,0,none⟩=some (.func (.func 90) #[] #[.pointer (some ⟨x.m,0,none⟩),.pointer (some ⟨x.f,0,none⟩),.pointer (some ⟨x.t,0,none⟩),.pointer (some ⟨x.fr,0,none⟩),.pointer (some ⟨x.en,0,none⟩),.pointer (some ⟨x.p,0,none⟩),.pointer (some ⟨x.l,0,none⟩),.pointer (some ⟨x.g,0,none⟩)])∧W.cell? ⟨g,o+k,none⟩=some (.iface ut ux)):=fun k' W v' a' M' this=>by
     exact ⟨this.br.c1,this.br.c2,this.br.c3,this.gs.ZE,this.gs.cg,by
      rw [← GP];obtain ⟨g',o',he,h1⟩:=this.br.rh hu;cases he;exact h1⟩
    have HU:=ab hu;have HUV:=ab GP;have SD:(0:Int)≤(k:Int):=by omega
    have jm:(k:Int)<(N:Int):=by omega
    have TW:IntKind.i64.wrap ((k:Int)+1)=(k:Int)+1:=by rw [IntKind.wrap_i64];omega
    have hwd:IntKind.i64.wrap ((dp:Int)+1)=(dp:Int)+1:=by have:=Ia.out;rw [IntKind.wrap_i64];omega
    have gN:=ab eS;have Tx:Hid (k+1≤N):=bX;clear hl hcu hN eS hu GP MG MF bX hkN;by_cases Ze:yC en (L0 t.2.1 k)=true
    ·rw [Ze] at Xj;rw [if_pos Ze] at gN;clear Rg;go_wp2_with fail;refine wp_region_held_drew (S:=(fun w'=>w'.cell? ⟨b,1,none⟩=some (.int .i64 n.f)∧w'.cell? ⟨b,2,none⟩=some (.slice la L lc)∧w'.cell? ⟨x.en,0,none⟩=some (.string en))) (by kernel_rfl) ⟨p1,p2,XX⟩ (fun eh=>?_)
     refine wpAnyH_take (i:=0) (oi:={ dst:=some 70,op:=Op.move (Operand.tmp 13),type:=152,pos := "look.go:49",after:=#[],guard:=none }) (v:=?_) rfl (by kernel_rfl) (by kernel_rfl) (by kernel_rfl) (fun _ _ _ h=>h) (Or.inl ⟨by rfl,?_⟩) (by assumption) ?_
     rotate_left
     ·(intro w' tJ;(try dsimp only at tJ);go_simp;try with_reducible rfl)
     simp only [Act.put,aA,List.set_cons_zero,List.set_cons_succ];refine wpAnyH_take (i:=1) (oi:={ dst:=some 71,op:=Op.nilCheck (Operand.tmp 70),type:=0,pos := "look.go:49",after:=#[{ on:=0,ground:=Ground.data }],guard:=none }) (v:=?_) rfl (by kernel_rfl) (by kernel_rfl) (by kernel_rfl) (fun _ _ _ h=>h) (Or.inl ⟨by rfl,?_⟩) (by assumption) ?_
     rotate_left
     ·(intro w' tJ;(try dsimp only at tJ);go_simp;try with_reducible rfl)
     simp only [Act.put,aA,List.set_cons_zero,List.set_cons_succ];refine wpAnyH_take (i:=2) (oi:={ dst:=some 72,op:=Op.fieldAddr 155 (Operand.tmp 71) 1,type:=0,pos := "look.go:49",after:=#[{ on:=1,ground:=Ground.data }],guard:=none }) (v:=?_) rfl (by kernel_rfl) (by kernel_rfl) (by kernel_rfl) (fun _ _ _ h=>h) (Or.inl ⟨by rfl,?_⟩) (by assumption) ?_
     rotate_left
     ·(intro w' tJ;(try dsimp only at tJ);go_simp;try with_reducible rfl)
     simp only [Act.put,aA,List.set_cons_zero,List.set_cons_succ];refine wpAnyH_take (i:=3) (oi:={ dst:=some 73,op:=Op.load 150 (Operand.tmp 72),type:=150,pos := "look.go:49",after:=#[{ on:=2,ground:=Ground.data }],guard:=none }) (v:=?_) rfl (by kernel_rfl) (by kernel_rfl) (by kernel_rfl) (fun _ _ _ h=>h) (Or.inl ⟨by rfl,?_⟩) (by assumption) ?_
     rotate_left
     ·(intro w' tJ;(try dsimp only at tJ);go_simp;try with_reducible rfl)
     simp only [Act.put,aA,List.set_cons_zero,List.set_cons_succ];refine wpAnyH_take (i:=4) (oi:={ dst:=some 74,op:=Op.move (Operand.tmp 16),type:=3,pos := "look.go:49",after:=#[],guard:=none }) (v:=?_) rfl (by kernel_rfl) (by kernel_rfl) (by kernel_rfl) (fun _ _ _ h=>h) (Or.inl ⟨by rfl,?_⟩) (by assumption) ?_
     rotate_left
     ·(intro w' tJ;(try dsimp only at tJ);go_simp;try with_reducible rfl)
     simp only [Act.put,aA,List.set_cons_zero,List.set_cons_succ];refine wpAnyH_take (i:=5) (oi:={ dst:=some 75,op:=Op.load 9 (Operand.tmp 6),type:=9,pos := "look.go:49",after:=#[],guard:=none }) (v:=?_) rfl (by kernel_rfl) (by kernel_rfl) (by kernel_rfl) (fun _ _ _ h=>h) (Or.inl ⟨by rfl,?_⟩) (by assumption) ?_
     rotate_left
     ·(intro w' tJ;(try dsimp only at tJ);go_simp;try with_reducible rfl)
     simp only [Act.put,aA,List.set_cons_zero,List.set_cons_succ];refine wpAnyH_ready (rs:=[6]) (by kernel_rfl) (by simp) ?_
     refine AllReadyH.cons (o:={ dst:=some 76,op:=Op.call { callee:=Callee.value (Operand.func 95),args:=#[Operand.tmp 73,Operand.tmp 74,Operand.tmp 75],argTypes:=#[150,3,9] },type:=4,pos := "look.go:49",after:=#[{ on:=3,ground:=Ground.data },{ on:=4,ground:=Ground.data },{ on:=5,ground:=Ground.data }],guard:=none }) rfl (fun K hK=>?_) AllReadyH.nil
     clear eh;go_simp
     refine (Xj.out _ (by first | exact Below.refl _ _ | exact B.aR (Below.refl _ _))).mono ?_
     rintro e w3 ⟨rfl,b6⟩;have dH:=ab b6;obtain ⟨n1,n2,n3,n4,n5,n6⟩:=HC.out w3 b6;clear b6;refine hK.out _ _ ⟨n1,n2,n4⟩ (fun eh=>?_)
     clear hK K;refine wpAnyH_take (i:=7) (oi:={ dst:=some 77,op:=Op.move (Operand.tmp 76),type:=4,pos := "look.go:49",after:=#[{ on:=6,ground:=Ground.data },{ on:=6,ground:=Ground.chain }],guard:=none }) (v:=?_) rfl (by kernel_rfl) (by kernel_rfl) (by kernel_rfl) (fun _ _ _ h=>h) (Or.inl ⟨by rfl,?_⟩) (by assumption) ?_
     rotate_left
     ·(intro w' tJ;(try dsimp only at tJ);go_simp;try with_reducible rfl)
     simp only [Act.put,aA,List.set_cons_zero,List.set_cons_succ];refine wpAnyH_take (i:=8) (oi:={ dst:=some 78,op:=Op.load 167 (Operand.tmp 9),type:=167,pos := "look.go:49",after:=#[{ on:=7,ground:=Ground.guard }],guard:=some (7,false) }) (v:=undef) rfl (by kernel_rfl) (by kernel_rfl) (by kernel_rfl) (fun _ _ _ h=>h) (Or.inr ⟨by rfl,rfl⟩) (by assumption) ?_
     simp only [Act.put,aA,List.set_cons_zero,List.set_cons_succ];refine wpAnyH_take (i:=9) (oi:={ dst:=some 79,op:=Op.move (Operand.tmp 13),type:=152,pos := "look.go:49",after:=#[{ on:=7,ground:=Ground.guard }],guard:=some (7,false) }) (v:=undef) rfl (by kernel_rfl) (by kernel_rfl) (by kernel_rfl) (fun _ _ _ h=>h) (Or.inr ⟨by rfl,rfl⟩) (by assumption) ?_
     simp only [Act.put,aA,List.set_cons_zero,List.set_cons_succ];refine wpAnyH_take (i:=10) (oi:={ dst:=some 80,op:=Op.nilCheck (Operand.tmp 79),type:=0,pos := "look.go:49",after:=#[{ on:=9,ground:=Ground.data },{ on:=7,ground:=Ground.guard }],guard:=some (7,false) }) (v:=undef) rfl (by kernel_rfl) (by kernel_rfl) (by kernel_rfl) (fun _ _ _ h=>h) (Or.inr ⟨by rfl,rfl⟩) (by assumption) ?_
     simp only [Act.put,aA,List.set_cons_zero,List.set_cons_succ];refine wpAnyH_take (i:=11) (oi:={ dst:=some 81,op:=Op.fieldAddr 155 (Operand.tmp 80) 2,type:=0,pos := "look.go:49",after:=#[{ on:=10,ground:=Ground.data },{ on:=7,ground:=Ground.guard }],guard:=some (7,false) }) (v:=undef) rfl (by kernel_rfl) (by kernel_rfl) (by kernel_rfl) (fun _ _ _ h=>h) (Or.inr ⟨by rfl,rfl⟩) (by assumption) ?_
     simp only [Act.put,aA,List.set_cons_zero,List.set_cons_succ];refine wpAnyH_take (i:=12) (oi:={ dst:=some 82,op:=Op.load 153 (Operand.tmp 81),type:=153,pos := "look.go:49",after:=#[{ on:=11,ground:=Ground.data },{ on:=7,ground:=Ground.guard }],guard:=some (7,false) }) (v:=undef) rfl (by kernel_rfl) (by kernel_rfl) (by kernel_rfl) (fun _ _ _ h=>h) (Or.inr ⟨by rfl,rfl⟩) (by assumption) ?_
     simp only [Act.put,aA,List.set_cons_zero,List.set_cons_succ];refine wpAnyH_take (i:=13) (oi:={ dst:=some 83,op:=Op.move (Operand.tmp 16),type:=3,pos := "look.go:49",after:=#[{ on:=7,ground:=Ground.guard }],guard:=some (7,false) }) (v:=undef) rfl (by kernel_rfl) (by kernel_rfl) (by kernel_rfl) (fun _ _ _ h=>h) (Or.inr ⟨by rfl,rfl⟩) (by assumption) ?_
     simp only [Act.put,aA,List.set_cons_zero,List.set_cons_succ];refine wpAnyH_take (i:=14) (oi:={ dst:=some 84,op:=Op.indexAddr 153 (Operand.tmp 82) (Operand.tmp 83),type:=0,pos := "look.go:49",after:=#[{ on:=12,ground:=Ground.data },{ on:=13,ground:=Ground.data },{ on:=7,ground:=Ground.guard }],guard:=some (7,false) }) (v:=undef) rfl (by kernel_rfl) (by kernel_rfl) (by kernel_rfl) (fun _ _ _ h=>h) (Or.inr ⟨by rfl,rfl⟩) (by assumption) ?_
     simp only [Act.put,aA,List.set_cons_zero,List.set_cons_succ];refine wpAnyH_take (i:=15) (oi:={ dst:=some 85,op:=Op.load 97 (Operand.tmp 84),type:=97,pos := "look.go:49",after:=#[{ on:=14,ground:=Ground.data },{ on:=7,ground:=Ground.guard }],guard:=some (7,false) }) (v:=undef) rfl (by kernel_rfl) (by kernel_rfl) (by kernel_rfl) (fun _ _ _ h=>h) (Or.inr ⟨by rfl,rfl⟩) (by assumption) ?_
     simp only [Act.put,aA,List.set_cons_zero,List.set_cons_succ];refine wpAnyH_take (i:=16) (oi:={ dst:=some 86,op:=Op.move (Operand.tmp 1),type:=3,pos := "look.go:49",after:=#[{ on:=7,ground:=Ground.guard }],guard:=some (7,false) }) (v:=undef) rfl (by kernel_rfl) (by kernel_rfl) (by kernel_rfl) (fun _ _ _ h=>h) (Or.inr ⟨by rfl,rfl⟩) (by assumption) ?_
     simp only [Act.put,aA,List.set_cons_zero,List.set_cons_succ];refine wpAnyH_take (i:=17) (oi:={ dst:=some 87,op:=Op.binOp BinOp.add 3 (Operand.tmp 86) (Operand.const (Value.int IntKind.i64 1)) 3,type:=3,pos := "look.go:49",after:=#[{ on:=16,ground:=Ground.data },{ on:=7,ground:=Ground.guard }],guard:=some (7,false) }) (v:=undef) rfl (by kernel_rfl) (by kernel_rfl) (by kernel_rfl) (fun _ _ _ h=>h) (Or.inr ⟨by rfl,rfl⟩) (by assumption) ?_
     simp only [Act.put,aA,List.set_cons_zero,List.set_cons_succ];refine wpAnyH_take (i:=18) (oi:={ dst:=some 88,op:=Op.call { callee:=Callee.value (Operand.tmp 78),args:=#[Operand.tmp 85,Operand.tmp 87],argTypes:=#[97,3] },type:=4,pos := "look.go:49",after:=#[{ on:=8,ground:=Ground.data },{ on:=15,ground:=Ground.data },{ on:=17,ground:=Ground.data },{ on:=7,ground:=Ground.chain },{ on:=7,ground:=Ground.guard }],guard:=some (7,false) }) (v:=undef) rfl (by kernel_rfl) (by kernel_rfl) (by kernel_rfl) (fun _ _ _ h=>h) (Or.inr ⟨by rfl,rfl⟩) (by assumption) ?_
     simp only [Act.put,aA,List.set_cons_zero,List.set_cons_succ];refine wpAnyH_take (i:=19) (oi:={ dst:=some 89,op:=Op.unOp UnOp.not 4 (Operand.tmp 88),type:=4,pos := "look.go:49",after:=#[{ on:=18,ground:=Ground.data },{ on:=7,ground:=Ground.guard }],guard:=some (7,false) }) (v:=undef) rfl (by kernel_rfl) (by kernel_rfl) (by kernel_rfl) (fun _ _ _ h=>h) (Or.inr ⟨by rfl,rfl⟩) (by assumption) ?_
     simp only [Act.put,aA,List.set_cons_zero,List.set_cons_succ];refine wpAnyH_take (i:=20) (oi:={ dst:=some 90,op:=Op.pick (Operand.tmp 77) (Operand.const (Value.bool true)) (Operand.tmp 89),type:=4,pos := "look.go:49",after:=#[{ on:=7,ground:=Ground.data },{ on:=19,ground:=Ground.data }],guard:=none }) (v:=?_) rfl (by kernel_rfl) (by kernel_rfl) (by kernel_rfl) (fun _ _ _ h=>h) (Or.inl ⟨by rfl,?_⟩) (by assumption) ?_
     rotate_left
     ·(intro w' tJ;(try dsimp only at tJ);go_simp;try with_reducible rfl)
     simp only [Act.put,aA,List.set_cons_zero,List.set_cons_succ];refine wpAnyH_done (by kernel_rfl) ?_ _
     clear eh;go_wp2;go_ret;exact (HL.out.below dH.out).out gN.out
    ·rw [Bool.not_eq_true] at Ze;rw [Ze] at Xj;rw [if_neg (by rw [Ze];simp)] at gN
     obtain ⟨r,hr⟩ : ∃ r,r=(ft fr en lim h c ak).2:=⟨_,rfl⟩;rw [← hr] at Rg gN;have HR:=ab hr;clear hr;go_wp2_with fail;cases r
     ·rw [if_neg (by simp)] at gN
      go_region_held3 (fun w'=>w'.cell? ⟨b,1,none⟩=some (.int .i64 n.f)∧w'.cell? ⟨b,2,none⟩=some (.slice la L lc)∧w'.cell? ⟨x.en,0,none⟩=some (.string en)∧w'.cell? ⟨b,3,none⟩=some (.slice (some ⟨g,o,none⟩) N cc)∧w'.cell? ⟨x.g,0,none⟩=some (.func (.func 90) #[] #[.pointer (some ⟨x.m,0,none⟩),.pointer (some ⟨x.f,0,none⟩),.pointer (some ⟨x.t,0,none⟩),.pointer (some ⟨x.fr,0,none⟩),.pointer (some ⟨x.en,0,none⟩),.pointer (some ⟨x.p,0,none⟩),.pointer (some ⟨x.l,0,none⟩),.pointer (some ⟨x.g,0,none⟩)])∧w'.cell? ⟨g,o+k,none⟩=some (.iface ut ux)) (go_keep)
       (first
        | (go_at_call 95;refine (Xj.out _ (by first | exact Below.refl _ _ | exact B.aR (Below.refl _ _))).mono ?_;rintro e w3 ⟨rfl,b6⟩;have dH:=ab b6;obtain ⟨n1,n2,n3,n4,n5,n6⟩:=HC.out w3 b6;clear b6)
        | (go_at_call 90;refine (Rg.out _ dH.out).mono ?_;rintro e w4 ⟨v4,M4,rfl,FD⟩;have Wt:=ab FD;obtain ⟨o1,o2,o3,o4,o5,o6⟩:=zl.out _ _ _ _ _ FD;clear FD))
      all_goals
       go_wp2;go_ret;exact Wt.out.out gN.out
     ·rw [if_pos rfl] at gN;go_region_held3 (fun w'=>w'.cell? ⟨b,1,none⟩=some (.int .i64 n.f)∧w'.cell? ⟨b,2,none⟩=some (.slice la L lc)∧w'.cell? ⟨x.en,0,none⟩=some (.string en)∧w'.cell? ⟨b,3,none⟩=some (.slice (some ⟨g,o,none⟩) N cc)∧w'.cell? ⟨x.g,0,none⟩=some (.func (.func 90) #[] #[.pointer (some ⟨x.m,0,none⟩),.pointer (some ⟨x.f,0,none⟩),.pointer (some ⟨x.t,0,none⟩),.pointer (some ⟨x.fr,0,none⟩),.pointer (some ⟨x.en,0,none⟩),.pointer (some ⟨x.p,0,none⟩),.pointer (some ⟨x.l,0,none⟩),.pointer (some ⟨x.g,0,none⟩)])∧w'.cell? ⟨g,o+k,none⟩=some (.iface ut ux)) (go_keep)
       (first
        | (go_at_call 95;refine (Xj.out _ (by first | exact Below.refl _ _ | exact B.aR (Below.refl _ _))).mono ?_;rintro e w3 ⟨rfl,b6⟩;have dH:=ab b6;obtain ⟨n1,n2,n3,n4,n5,n6⟩:=HC.out w3 b6;clear b6)
        | (go_at_call 90;refine (Rg.out _ dH.out).mono ?_;rintro e w4 ⟨v4,M4,rfl,FD⟩;have Wt:=ab FD;obtain ⟨o1,o2,o3,o4,o5,o6⟩:=zl.out _ _ _ _ _ FD;clear FD))
      all_goals
       clear Rg HC Xj zl;go_wp2;go_roundw
       case rel=>exact ⟨k+1,v4,(ft fr en lim h c ak).1,M4,by rw [gd];rfl,Tx.out,Wt.out,gN.out⟩
       case measure=>simp [intOf];have:=Tx.out;omega
   ·have:k=N:=by omega
    subst this;have HE:=ab (HL.out.out (e:=true) (by rw [HD.out,K8 _ _ _ _ _ _ (by have:=HN.out;have:=Cg.out.1;omega)]))
    clear hl MG MF Cg HN HD HL;go_wp2;go_ret;exact HE.out
end
attribute [local go_sem ↓] Go.wp_at_zero Go.wp_at_succ
section
variable {PG:Int→Option PD} {w0:World} {lo pb:Nat} {pv:Value} {P:List Nat} {tx:Nat} {h:Nat} {w:World} {sv:Value} {Z:List S.Sh}
theorem SU{h:Nat}{cs:List (Nd h)}{c:Nd h}(hc:cs[0]?=some c):lz cs=(eX h c:Int):=by
 cases cs with
 | nil=>simp at hc
 | cons d cs=>cases hc;rfl
theorem nc(IH:Tr PG w0 lo pb pv P tx h){b:Nat}{n:SN}{xv lv cv:Value}{t:Nd (h+1)}(xT:dM w0 b n xv lv cv)(hn:aU PG w0 (h+1) n t)(ho:MC (h+1) t)(hP:pR w0 lo pb pv P tx w sv Z)(ji:((bU (aT (fi P) h) t.2.2 Z.length).1.flatMap (cD h)).Nodup)(uJ:Z.length+(t.2.2.map (fA h)).sum≤P.length):Calls prog 184 #[.pointer (some ⟨pb,0,none⟩),.pointer (some ⟨b,0,none⟩)] w fun e w'=>∃ n7 U3,e = .returned (.agg #[.int .i64 (lz (bU (aT (fi P) h) t.2.2 Z.length).1),U3])∧B.dm w' U3 (qv t.2.1 (bU (aT (fi P) h) t.2.2 Z.length).1)∧pR w0 lo pb pv P tx w' n7 (Z++(bU (aT (fi P) h) t.2.2 Z.length).2.map (jM tx))∧mo pb w sv w' n7:=by
 have Ms:n.us.length=t.2.2.length:=hn.1;have ny:t.2.1=n.lk.map (·.1):=hn.2.2.2.1;have h0:¬ n.us.length=0:=fun e=>hn.2.1 (List.length_eq_zero_iff.1 e)
 have gR:n.us.length=n.lk.length+1:=by
  rcases hn.2.2.1 with h9 | h9
  ·exact absurd h9 h0
  ·exact h9
 have QZ:0<n.lk.length:=by
  have h9:t.2.1≠[]:=ho.2.2;rw [ny] at h9;cases hl:n.lk with
  | nil=>rw [hl] at h9;exact absurd rfl h9
  | cons _ _=>simp
 have ic:=xT.fine;obtain ⟨W1,lf⟩ : ∃ W1,w.alloc (.cells #[.int .i64 0,.slice none 0 0] 150)=W1:=⟨_,rfl⟩;have aN:Below w.heap.size w W1:=lf▸ai w _;obtain ⟨H,hH⟩ : ∃ H,w.heap.size=H:=⟨_,rfl⟩;have rH:B.au W1 H #[.int .i64 0,.slice none 0 0] 150:=by rw [← hH];exact lf▸B.au.new w _ _
 have hP1:=hP.below aN;obtain ⟨news,iR⟩ : ∃ news,news=(bU (aT (fi P) h) t.2.2 Z.length).1:=⟨_,rfl⟩;have Eh:news.length=n.lk.length+1:=by rw [iR,ir];omega
 have FF:(qv t.2.1 news).length=n.lk.length:=by rw [vQ _ _ (by rw [Eh,ny,az]),ny,az]
 obtain ⟨q0,T7⟩ : ∃ q,n.us[0]?=some q:=⟨_,af (by omega)⟩
 obtain ⟨c0,yi⟩ : ∃ c,t.2.2[0]?=some c:=⟨_,af (by omega)⟩
 obtain ⟨la,lc,tH⟩:=xT.bg.form;obtain ⟨ca,cc,vq⟩:=xT.kids.form;have Vv:=xT.bg;subst tH vq;obtain ⟨g,o,rfl,bE⟩:=xT.br.rh T7;obtain ⟨ut,ux,GP⟩:=bJ q0;rw [GP,Nat.add_zero] at bE;obtain ⟨ta,X9,Yh⟩:=xT.kids.drop (m:=1) (by omega)
 have qE:∀ W',(Instr.sliceAt 153 (.slice (some ⟨g,o,none⟩) (n.lk.length+1) cc) (some (.int .i64 1)) none none).run prog W' = .ok (.slice ta n.lk.length (cc - 1)) W':=fun W'=>by
  have:=Yh W';rw [gR] at this;simpa using this
 have We:Hid (∀ i q,n.us[i+1]?=some q→∃ g' o',ta=some ⟨g',o',none⟩∧w0.cell? ⟨g',o'+i,none⟩=some q.val):=fun i q hq=>by
  obtain ⟨a',c',he,-,-,hc⟩:=X9;simp only [Value.slice.injEq] at he;obtain ⟨rfl,-,-⟩:=he;exact hc i q.val (by unfold C.bg;rw [aL,cL,Nat.add_comm 1 i,hq];rfl)
 have O8:=I6 (aT (fi P) h) t.2.2 Z.length 0 c0 yi;simp only [List.take_zero,bU,List.length_nil,Nat.add_zero,List.nil_append] at O8;have QL:Hid (∀ W kk uu,sR w0 lo pb pv P tx n.lk w sv H W sv Z kk uu→Calls prog 72 #[.pointer (some ⟨pb,0,none⟩),.iface ut ux] W fun e w'=>∃ n7,e = .returned (.int .i64 (lz news))∧sR w0 lo pb pv P tx n.lk w sv H w' n7 (Z++(bU (aT (fi P) h) (t.2.2.take 1) Z.length).2.map (jM tx)) kk uu):=fun W kk uu hW=>by
  have KQ:fA h c0≤(t.2.2.map (fA h)).sum:=by
   have e1:=wJ (l:=t.2.2.map (fA h)) (i:=0) (x:=fA h c0) (by rw [aL,yi];rfl)
   have e2:=kX (t.2.2.map (fA h)) 1;simp only [List.take_zero,List.sum_nil,Nat.zero_add] at e1;omega
  rw [← GP];refine (IH q0 c0 W sv Z (hn.rh T7 yi) (rO ho yi) hW.zb (by omega) (xz ji O8.1)).mono ?_
  rintro e w' ⟨n7,rfl,g1,g2⟩;refine ⟨n7,by rw [iR,SU O8.1],hW.move g2 ?_⟩
  rw [show t.2.2.take 1=t.2.2.take (0+1) from rfl,O8.2]
  exact g1
 have zl:Hid (∀ W sx Zc kk,sR w0 lo pb pv P tx n.lk w sv H W sx Zc kk none→Calls prog 209 #[.slice la n.lk.length lc] W fun e w'=>∃ ug uc,e = .returned (.slice (some ⟨ug,0,none⟩) n.lk.length uc)∧sR w0 lo pb pv P tx n.lk w sv H w' sx Zc kk (some (ug,uc))):=fun W sx Zc kk hW=>by
  refine (B.eM _ n.lk W (by have:=ic.2.2.2.1;omega) (Vv.below hW.zb.ff)).mono ?_
  rintro e w' ⟨u,rfl,hou,hb⟩;obtain ⟨ug,uc,hu,-⟩:=hou.has QZ;subst hu;exact ⟨ug,uc,rfl,hW.clone hou hb⟩
 have HOL:Hid (∀ W,Below w0.heap.size w0 W→W.cell? ⟨b,3,none⟩=some (.slice (some ⟨g,o,none⟩) (n.lk.length+1) cc)∧W.cell? ⟨b,2,none⟩=some (.slice la n.lk.length lc)∧W.cell? ⟨g,o,none⟩=some (.iface ut ux)):=fun W hW=>⟨by rw [← gR];exact (xT.below hW).c3,(xT.below hW).c2,(hW.cell (p:=⟨g,o,none⟩) (World.block_lt_of_cell? w0 _ bE)).trans bE⟩
 obtain ⟨p3,p2,p4⟩:=HOL.out W1 hP1.ff;have QY:(0:Int)≤(n.lk.length:Int):=by omega
 have AK:(0:Int)<(n.lk.length:Int)+1:=by omega
 have tX:Hid (sR w0 lo pb pv P tx n.lk w sv H W1 sv Z none none):=⟨hP1,mo.below sv aN,rH,⟨by omega,by have:=hP.row.lt;omega,fun e=>by have:=(hP.sh.dy e).2;omega⟩,(fun _ h=>by cases h),(fun _ _ h=>by cases h),(fun _ _ _ h=>by cases h)⟩
 have MF:Hid (∀ (k:Nat) (q:C.Ch) (c:Nd h),n.us[k]?=some q→t.2.2[k]?=some c→eo PG w0 h q c∧MC h c):=fun k q c h1 h2=>⟨hn.rh h1 h2,rO ho h2⟩
 have HIH:Hid (Tr PG w0 lo pb pv P tx h):=IH;have Z2:=ab ji;have Rh:=ab uJ;have HKS:Hid (n.lk.map (·.1)=t.2.1):=ny.symm;have HW0:Hid (w0.heap.size≤w.heap.size):=hP.ff.size;have HBG:Hid (b<w.heap.size∧g<w.heap.size):=⟨al xT.row.lt hP.ff.size,al (World.block_lt_of_cell? w0 _ bE) hP.ff.size⟩;have HRH:=ab rH;have HHW:Hid (w.heap.size=H∧W1.heap.size=H+1∧Below w.heap.size w W1):=⟨hH,by rw [← lf,← hH];simp,aN⟩
 have kj:Hid (0<n.lk.length∧n.us.length=n.lk.length+1∧n.lk.length≤4000∧n.us.length=t.2.2.length∧(qv t.2.1 news).length=n.lk.length):=⟨QZ,gR,ic.2.2.2.1,Ms,FF⟩;have HNW:=ab iR;rw [← iR];clear ny ji uJ X9 Yh hP1 hP rH aN QZ gR ic Ms Eh FF Vv bE O8 T7 yi GP h0 iR;go_enter func184,ntmps184;go_upto_region 1 with fail
 go_cut [5] (fun u wx=>∃ K ug uc sx,u = .pointer (some ⟨K,0,none⟩)∧zU w0 lo pb pv P tx t.2.2 Z.length (qv t.2.1 news) n.lk (lz news) w sv Z H K ug uc 0 1 wx sx)
 case first =>
  go_region_held3 (fun w'=>w'.cell? ⟨b,3,none⟩=some (.slice (some ⟨g,o,none⟩) (n.lk.length+1) cc)∧w'.cell? ⟨b,2,none⟩=some (.slice la n.lk.length lc)∧w'.cell? ⟨g,o,none⟩=some (.iface ut ux)) (go_keep)
   (first
    | (go_at_call 72;refine (QL.out _ _ _ (by first | exact Xo.out | exact Xo.out.drew | exact Xo.out.alloc | exact Xo.out.alloc.drew | exact tX.out | exact tX.out.drew | exact tX.out.alloc | exact tX.out.alloc.drew)).mono ?_;rintro e wl ⟨sl,rfl,hq⟩;have UC:=ab hq;obtain ⟨x3,x2,x4⟩:=HOL.out wl hq.zb.ff;(try (have kr:=(hq.kr _ rfl).1;have ke1:=Nat.ne_of_gt (al HBG.out.1 (hq.kr _ rfl).2.1);have ke2:=Nat.ne_of_gt (al HBG.out.2 (hq.kr _ rfl).2.1);have kc0:=kr.c0;have kc1:=kr.c1;have kf0:=kr.free 0;have kf1:=kr.free 1;clear kr));clear hq)
    | (go_at_call 209;refine (zl.out _ _ _ _ (by first | exact UC.out | exact UC.out.drew | exact UC.out.alloc | exact UC.out.alloc.drew | exact tX.out | exact tX.out.drew | exact tX.out.alloc | exact tX.out.alloc.drew)).mono ?_;rintro e wc ⟨ug,uc,rfl,hq⟩;have Xo:=ab hq;obtain ⟨y3,y2,y4⟩:=HOL.out wc hq.zb.ff;(try (have kr:=(hq.kr _ rfl).1;have ke3:=Nat.ne_of_gt (al HBG.out.1 (hq.kr _ rfl).2.1);have ke4:=Nat.ne_of_gt (al HBG.out.2 (hq.kr _ rfl).2.1);have kd0:=kr.c0;have kd1:=kr.c1;have kg0:=kr.free 0;have kg1:=kr.free 1;clear kr));clear hq))
  all_goals
   go_wp2_with fail;go_meet
   first
    | exact ⟨_,_,_,_,rfl,sR.done Xo.out HW0.out⟩
    | exact ⟨_,_,_,_,rfl,sR.done UC.out HW0.out⟩
    | exact ⟨_,_,_,_,rfl,sR.Us Xo.out⟩
    | exact ⟨_,_,_,_,rfl,sR.Us UC.out⟩
 case rest =>
  obtain ⟨K,ug,uc,sx,rfl,hB⟩:=hcut;obtain ⟨z3,z2,z4⟩:=HOL.out _ hB.zb.ff;have wo:=ab hB;clear hB QL zl tX p3 p2 p4;go_wp2_with fail;go_loopw [29] (fun iv wr=>∃ (i:Nat) (sy:Value),iv = .int .i64 (i:Int)∧i≤n.lk.length∧zU w0 lo pb pv P tx t.2.2 Z.length (qv t.2.1 news) n.lk (lz news) w sv Z H K ug uc i (i+1) wr sy) (fun iv _=>n.lk.length - (intOf iv).toNat)
  case atStart=>exact ⟨0,sx,rfl,aC _,wo.out⟩
  case round =>
   obtain ⟨i,sy,rfl,hiL,hB⟩:=hrel;obtain ⟨Vx,SC,hl3,FD,hl5⟩:=kj.out;clear wo z3 z2 z4 qE;by_cases bX:i<n.lk.length
   ·obtain ⟨q,hq⟩ : ∃ q,n.us[i+1]?=some q:=⟨_,af (by omega)⟩
    obtain ⟨c,hc⟩ : ∃ c,t.2.2[i+1]?=some c:=⟨_,af (by omega)⟩
    obtain ⟨g',o',rfl,Jg⟩:=We.out i q hq;obtain ⟨qt,qx,hqv⟩:=bJ q;rw [hqv] at Jg;have Pp:wr.cell? ⟨g',o'+i,none⟩=some (.iface qt qx):=(hB.zb.ff.cell (p:=⟨g',o'+i,none⟩) (World.block_lt_of_cell? w0 _ Jg)).trans Jg;obtain ⟨hk,cC⟩:=MF.out (i+1) q c hq hc;have QK:Hid (∀ W,Below wr.heap.size wr W→Calls prog 72 #[.pointer (some ⟨pb,0,none⟩),.iface qt qx] W fun e w'=>∃ n7 c',(bU (aT (fi P) h) t.2.2 Z.length).1[i+1]?=some c'∧e = .returned (.int .i64 (eX h c':Int))∧zU w0 lo pb pv P tx t.2.2 Z.length (qv t.2.1 news) n.lk (lz news) w sv Z H K ug uc i (i+1+1) w' n7):=fun W hW=>by
     rw [← hqv];exact (hB.below hW).call HIH.out rfl Z2.out Rh.out hc hk cC
    have kk1:wr.cell? ⟨K,1,none⟩=some (.slice (some ⟨ug,0,none⟩) n.lk.length uc):=hB.row.c1;have agB:ug≠K:=fun e=>hB.ne.1 e.symm
    have AM:(0:Int)≤(i:Int):=by omega
    have Cu:(i:Int)<(n.lk.length:Int):=by omega
    have sj:(i:Int)<4000:=by omega
    have Tz:Hid (i<n.lk.length):=bX;have HAL:Hid ((qv t.2.1 news).length=n.lk.length):=hl5;clear hB Jg hk cC hq hc hqv bX hiL Vx SC hl3 FD hl5;go_wp2_with fail;go_region_held3 (fun w'=>w'.cell? ⟨K,1,none⟩=some (.slice (some ⟨ug,0,none⟩) n.lk.length uc)) (go_keep)
     (first
      | (go_at_call 72;refine (QK.out _ (by first | exact Below.refl _ _ | exact B.aR (Below.refl _ _))).mono ?_;rintro e w4 ⟨sz,c',uK,rfl,hB4⟩;obtain ⟨⟨u4,hu4⟩,hf4,hB5⟩:=hB4.put HW0.out HKS.out (by rw [HNW.out]) HAL.out Tz.out uK;have gu:=ab hB5;have n1:=hB4.row.c1;clear hB4 hB5 uK))
    all_goals
     clear QK;go_wp2;go_roundw
     case rel=>exact ⟨i+1,sz,by go_num,Tz.out,by first | exact gu.out | exact gu.out.below (B.aR (Below.refl _ _))⟩
     case measure=>simp [intOf];have:=Tz.out;omega
   ·have hiE:i=n.lk.length:=by omega
    have kk0:wr.cell? ⟨K,0,none⟩=some (.int .i64 (lz news)):=hB.row.c0;have kk1:wr.cell? ⟨K,1,none⟩=some (.slice (some ⟨ug,0,none⟩) n.lk.length uc):=hB.row.c1;have hh0:=hB.res.c0;have hh1:=hB.res.c1;have SG:=hB.res.free 0;have hf1:=hB.res.free 1;have ic:=hB.fin HW0.out (.int .i64 (lz news)) (.slice (some ⟨ug,0,none⟩) n.lk.length uc);have b8:=ab hB.res;rw [Oc hl5 (by omega),ar (by omega:t.2.2.length≤i+1)] at ic
    have vw:=ab ic;have Cu:¬ (i:Int)<(n.lk.length:Int):=by omega
    clear hB ic hiL Vx SC hl3 FD hl5 bX hiE;go_wp2;refine bodyPost_ret (results_cell_row rfl _ _ H 150 _ (0,0) _ rfl (b8.out.two _ _) underlying150 rfl (by kernel_rfl)) rfl ?_
    exact ⟨sy,_,rfl,vw.out.1,vw.out.2.1,vw.out.2.2⟩
end
end T
end Go.Proofs.YtihmgigfkmofnaaGreatDoor
