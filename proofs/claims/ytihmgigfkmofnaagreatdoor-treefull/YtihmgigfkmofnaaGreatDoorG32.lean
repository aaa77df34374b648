import Derived.Test.YtihmgigfkmofnaaGreatDoorG31
import Derived.Deep.CutBlock
set_option maxHeartbeats 8000000
set_option maxRecDepth 100000
open Go.Proofs.Tryz
namespace Go.Proofs.YtihmgigfkmofnaaGreatDoor
namespace T
open Go.RowKit
attribute [local go_sem ↓] Go.wp_at_zero Go.wp_at_succ
section
variable {base:Nat} {A:Nat→Addr} {db:Nat} {F:Nat→Prop} {d:S.V.bw} {w0:World} {tb:Nat} {x:Bx} {fr en:ByteArray} {lim lo:Nat}
theorem Br.c1{w:World}{b:Nat}{n:SN}{pv lv cv:Value}(h:Br w b n pv lv cv):w.cell? ⟨b,1,none⟩=some (.int .i64 n.f):=h.row.cell 1 (by simp)
theorem Br.c2{w:World}{b:Nat}{n:SN}{pv lv cv:Value}(h:Br w b n pv lv cv):w.cell? ⟨b,2,none⟩=some lv:=h.row.cell 2 (by simp)
theorem Br.c3{w:World}{b:Nat}{n:SN}{pv lv cv:Value}(h:Br w b n pv lv cv):w.cell? ⟨b,3,none⟩=some cv:=h.row.cell 3 (by simp)
theorem Br.qT{w:World}{b:Nat}{n:SN}{pv lv:Value}{a:Option Addr}{m c:Nat}(h:Br w b n pv lv (.slice a m c)){k:Nat}{p:C.Ch}(hk:n.us[k]?=some p):∃ g o,a=some ⟨g,o,none⟩∧w.cell? ⟨g,o+k,none⟩=some p.val:=by
 obtain ⟨a',c',he,_,_,hc⟩:=h.kids;cases he;obtain ⟨g,o,ha,h1⟩:=hc k p.val (by unfold C.bh;rw [aL,hk];rfl)
 exact ⟨g,o,ha,h1⟩
theorem zF{rv:Value}{h:Nat}(IH:JU base A db F d w0 tb x fr en lim lo h)(iL:Dv base A db F d w0)(G0:B.au w0 tb #[.pointer (some ⟨db,0,none⟩),rv] 100):JU base A db F d w0 tb x fr en lim lo (h+1):=by
 intro p t dp w v acc M hk nK hg P3 eh jw lX nx;have Iq:=ab (hg.again iL hk lX nx);have wg:Hid (∀ W,Gs base A db F d w0 tb x fr en lim lo W v acc (M++cY (fy (h+1) t))→Calls prog 92 #[.pointer (some ⟨tb,0,none⟩),p.val,.int .i64 (dp:Int)] W fun e w'=>(lV (oX d w0) A ⟨h+1,t⟩ e w'∧True)∧Dv base A db F d w'∧Mv db F W w'):=fun W hW=>by
  have aw:=hW.mv.cH iL;refine (qn (oX d w0) p ⟨h+1,t⟩ tb rv dp W ⟨⟨hk,nK⟩,.inl aw⟩ (ed aw G0) hW.dv (.inr (by omega))).mono ?_
  rintro e w' ⟨⟨h1,_⟩,h2,h3⟩;exact ⟨⟨h1,trivial⟩,h2,h3⟩
 have Nk:Hid (∀ (k:Nat) (wr:World) (vk:Value) (ak:List Pr) (Mk:List Nat) (b:Nat) (n:SN) (pv lv cv:Value) (c:Nd h) (q:C.Ch),Is base A db F d w0 tb x fr en lim lo t w v acc M b n pv lv cv k wr vk ak Mk→t.2.2[k]?=some c→ew (cM d) w0 h q c→Calls prog 90 #[q.val,.int .i64 ((dp:Int)+1),.pointer (some ⟨x.m,0,none⟩),.pointer (some ⟨x.f,0,none⟩),.pointer (some ⟨x.t,0,none⟩),.pointer (some ⟨x.fr,0,none⟩),.pointer (some ⟨x.en,0,none⟩),.pointer (some ⟨x.p,0,none⟩),.pointer (some ⟨x.l,0,none⟩),.pointer (some ⟨x.g,0,none⟩)] wr fun e w'=>∃ v' M',e = .returned (.bool (fw fr en lim h c ak).2)∧Is base A db F d w0 tb x fr en lim lo t w v acc M b n pv lv cv (k+1) w' v' (fw fr en lim h c ak).1 M'):=fun k wr vk ak Mk b n pv lv cv c q hl hc Z9=>hl.qT IH nK hc Z9 P3 eh jw lX nx
 obtain ⟨pt,px,iV⟩:=bP p;rw [iV] at wg Iq ⊢;have k0:w.cell? ⟨x.m,0,none⟩=some (.map (some x.mb)):=hg.cm;have HDP:=ab P3;have HGD:=ab nK;have Xs:Hid (cY (fy (h+1) t)=cY t.1):=rfl;clear hg hk nK iL G0 iV P3 eh lX nx jw IH;go_enter func90,ntmps90;go_wp2_with fail;refine Iq.out.mono ?_
 rintro e wa ⟨rfl,zD,Jk⟩;have k1:wa.cell? ⟨x.t,0,none⟩=some (.pointer (some ⟨tb,0,none⟩)):=zD.ct;have CA:=ab (wg.out wa zD);have HS:=ab zD;have HT:=ab Jk;clear zD Jk wg Iq k0;go_wp2_with fail;refine CA.out.mono ?_
 rintro e w1 ⟨⟨Ei,_⟩,fP,fs⟩;rcases Ei with ⟨hE,_⟩ | ⟨b,n,pv,lv,cv,rfl,hs,hn⟩
 ·exact (hE:False).elim
 ·have WK:=HS.out.go fs fP;have vj:aU (cM d) w0 (h+1) n t:=hn.1.1;have MW:n.us.length=t.2.2.length:=vj.1;have jo:t.2.1=n.lk.map (·.1):=vj.2.2.2.1;have h0:¬ n.us.length=0:=fun e=>vj.2.1 (List.length_eq_zero_iff.1 e)
  have sJ:=ab (cB b n pv lv cv w1 hs);rw [show decide (n.us.length=0)=false by simp [h0]] at sJ
  have ic:=hs.fine;have gT:n.us.length=n.lk.length+1:=by
   rcases vj.2.2.1 with h9 | h9
   ·exact absurd h9 h0
   ·exact h9
  have vu:Hid (n.us.length=t.2.2.length∧t.2.1=n.lk.map (·.1)∧n.us.length=n.lk.length+1∧n.lk.length≤4000):=⟨MW,jo,gT,ic.2.2.2.1⟩;have Nj:Hid (∀ (k:Nat) (q:C.Ch) (c:Nd h),n.us[k]?=some q→t.2.2[k]?=some c→ew (cM d) w0 h q c):=fun k q c h1 h2=>vj.qT h1 h2
  have HSO:Hid (t.2.1.Pairwise fun a b=>cQ a b=true):=by
   obtain ⟨⟨pJ,mz,ho⟩,_⟩:=HGD.out;exact jK ((fA h t pJ mz).1 ho)
  have zP:Hid (∀ q,q≤n.us.length→Is base A db F d w0 tb x fr en lim lo t w v acc M b n pv lv cv q w1 v acc (M++cY t.1)):=fun q _=>by
   refine ⟨by rw [← Xs.out];exact WK,HT.out.trans (wo.mv v fs),hs.br,?_,fun i hi=>?_,?_⟩
   ·have:((t.2.2.drop q).flatMap (flat h)).length≤(flat (h+1) t).length:=by
     show _≤(t.2.2.flatMap (flat h)).length
     conv=>rhs;rw [← aH q t.2.2,aR,ae]
     omega
    omega
   ·rcases List.mem_append.1 hi with h | h
    ·exact .inl h
    ·exact .inr (dZ _ h)
   ·simp only [ae];omega
  have p1:=hs.c1;have p2:=hs.c2;have V8:=WK.cfr;have VB:Hid (∀ W,Below w1.heap.size w1 W→Calls prog 81 #[.agg #[.int .i64 n.f,lv],.string fr] W fun e w'=>(∃ p:Nat,e = .returned (.int .i64 (p:Int))∧B.fL n.lk fr p)∧Below w1.heap.size w1 w'):=fun W hW=>(B.A8 n.f lv n.lk fr W (by omega) (hs.bh.below hW)).mono fun e w' ⟨h1,h2⟩=>⟨h1,Below.next hW h2⟩
  obtain ⟨la,lc,pN⟩:=hs.bh.form;obtain ⟨ca,cc,sC⟩:=hs.kids.form;obtain ⟨xa,xc,BN⟩:=hs.iI.form;obtain ⟨N,hN⟩ : ∃ N,N=n.us.length:=⟨_,rfl⟩;obtain ⟨L,hL⟩ : ∃ L,L=n.lk.length:=⟨_,rfl⟩;rw [← hN] at sC zP;rw [← hL] at pN;subst pN sC BN;have HN:Hid (N=n.us.length):=hN;have HL:Hid (L=n.lk.length):=hL;clear fP fs CA hs hn h0 vj MW jo ic gT k1 WK hN hL;go_wp2_with fail;refine sJ.out.mono ?_
  rintro e w1' ⟨rfl,rfl⟩;go_wp2_with fail;go_region_held3 (fun w'=>w'.cell? ⟨b,1,none⟩=some (.int .i64 n.f)∧w'.cell? ⟨b,2,none⟩=some (.slice la L lc)∧w'.cell? ⟨x.fr,0,none⟩=some (.string fr)) (go_keep)
   (first
    | (go_at_call 81;refine (VB.out _ (by first | exact Below.refl _ _ | exact B.aK (Below.refl _ _))).mono ?_;rintro e w2 ⟨⟨q,rfl,Co⟩,aS⟩;have Yp:=ab Co;have bG:=ab aS;have m0:=(aS.cell (p:=⟨b,1,none⟩) (World.block_lt_of_cell? w1 _ p1)).trans p1;have m1:=(aS.cell (p:=⟨b,2,none⟩) (World.block_lt_of_cell? w1 _ p2)).trans p2;have m2:=(aS.cell (p:=⟨x.fr,0,none⟩) (World.block_lt_of_cell? w1 _ V8)).trans V8;clear Co aS))
  clear m0 m1 m2 p1 p2 V8 sJ VB HS HT;have HQ:Hid (q≤N∧Is base A db F d w0 tb x fr en lim lo t w v acc M b n (.slice xa n.ps.length xc) (.slice la L lc) (.slice ca N cc) q w2 v acc (M++cY t.1)∧fw fr en lim (h+1) t acc=lR (fw fr en lim h) en (MB t.2.1 q) (t.2.1.drop q) (t.2.2.drop q) acc):=by
   have h1:=Yp.out.1;have h2:=vu.out;have h3:=HN.out;exact ⟨by omega,(zP.out q (by omega)).below bG.out,LF acc h2.2.1 Yp.out HSO.out⟩
  clear Yp zP bG HSO;go_wp2_with fail;go_loopw [16] (fun i wr=>∃ (k:Nat) (vk:Value) (ak:List Pr) (Mk:List Nat),i = .int .i64 (k:Int)∧k≤N∧Is base A db F d w0 tb x fr en lim lo t w v acc M b n (.slice xa n.ps.length xc) (.slice la L lc) (.slice ca N cc) k wr vk ak Mk∧fw fr en lim (h+1) t acc=lR (fw fr en lim h) en (MB t.2.1 k) (t.2.1.drop k) (t.2.2.drop k) ak)
   (fun i _=>N - (intOf i).toNat)
  case atStart=>exact ⟨q,v,acc,M++cY t.1,rfl,HQ.out.1,HQ.out.2.1,HQ.out.2.2⟩
  case round =>
   obtain ⟨k,vk,ak,Mk,rfl,hkN,hl,aap⟩:=hrel;have HL:=ab hl;have HD:=ab aap;have p3:=hl.br.c3;clear aap HQ;by_cases bK:k<N
   ·obtain ⟨u,hu⟩ : ∃ u,n.us[k]?=some u:=⟨_,af (by have:=HN.out;omega)⟩
    obtain ⟨c,hc⟩ : ∃ c,t.2.2[k]?=some c:=⟨_,af (by have:=HN.out;have:=vu.out.1;omega)⟩
    obtain ⟨g,o,rfl,P8⟩:=hl.br.qT hu;obtain ⟨ut,ux,GZ⟩:=bP u;rw [GZ] at P8;have hcu:=vu.out;have hN:=HN.out;have Yd:Hid (∀ W,Below wr.heap.size wr W→Calls prog 95 #[.agg #[.int .i64 n.f,.slice la L lc],.int .i64 (k:Int),.string en] W fun e w'=>e = .returned (.bool (yF en (MB t.2.1 k)))∧Below wr.heap.size wr w'):=fun W hW=>(BL n.f (.slice la L lc) n.lk k en W (hl.br.bh.below hW) (by omega) (by omega)).mono fun e w' ⟨h1,h2⟩=>⟨by rw [h1,hcu.2.1,Ud _ _ _ (by omega)],Below.next hW h2⟩
    have R7:Hid (∀ W,Below wr.heap.size wr W→Calls prog 90 #[.iface ut ux,.int .i64 ((dp:Int)+1),.pointer (some ⟨x.m,0,none⟩),.pointer (some ⟨x.f,0,none⟩),.pointer (some ⟨x.t,0,none⟩),.pointer (some ⟨x.fr,0,none⟩),.pointer (some ⟨x.en,0,none⟩),.pointer (some ⟨x.p,0,none⟩),.pointer (some ⟨x.l,0,none⟩),.pointer (some ⟨x.g,0,none⟩)] W fun e w'=>∃ v' M',e = .returned (.bool (fw fr en lim h c ak).2)∧Is base A db F d w0 tb x fr en lim lo t w v acc M b n (.slice xa n.ps.length xc) (.slice la L lc) (.slice (some ⟨g,o,none⟩) N cc) (k+1) w' v' (fw fr en lim h c ak).1 M'):=fun W hW=>by
     rw [← GZ];exact Nk.out k W vk ak Mk b n _ _ _ c u (hl.below hW) hc (Nj.out k u c hu hc)
    have eK:=Hf (fw fr en lim h) en t.2.1 t.2.2 k ak c hc;rw [← HD.out] at eK;have p1:=hl.br.c1;have p2:=hl.br.c2;have Y0:=hl.gs.cen;have kg:wr.cell? ⟨x.g,0,none⟩=some (.func (.func 90) #[] #[.pointer (some ⟨x.m,0,none⟩),.pointer (some ⟨x.f,0,none⟩),.pointer (some ⟨x.t,0,none⟩),.pointer (some ⟨x.fr,0,none⟩),.pointer (some ⟨x.en,0,none⟩),.pointer (some ⟨x.p,0,none⟩),.pointer (some ⟨x.l,0,none⟩),.pointer (some ⟨x.g,0,none⟩)]):=hl.gs.cg;have HC:Hid (∀ W,Below wr.heap.size wr W→W.cell? ⟨b,1,none⟩=some (.int .i64 n.f)∧W.cell? ⟨b,2,none⟩=some (.slice la L lc)∧W.cell? ⟨b,3,none⟩=some (.slice (some ⟨g,o,none⟩) N cc)∧W.cell? ⟨x.en,0,none⟩=some (.string en)∧W.cell? ⟨x.g,0,none⟩=some (.func (.func 90) #[] #[.pointer (some ⟨x.m,0,none⟩),.pointer (some ⟨x.f,0,none⟩),.pointer (some ⟨x.t,0,none⟩),.pointer (some ⟨x.fr,0,none⟩),.pointer (some ⟨x.en,0,none⟩),.pointer (some ⟨x.p,0,none⟩),.pointer (some ⟨x.l,0,none⟩),.pointer (some ⟨x.g,0,none⟩)])∧W.cell? ⟨g,o+k,none⟩=some (.iface ut ux)):=fun W hW=>by
     have:=hl.below hW;exact ⟨this.br.c1,this.br.c2,this.br.c3,this.gs.cen,this.gs.cg,by
      rw [← GZ];obtain ⟨g',o',he,h1⟩:=this.br.qT hu;cases he;exact h1⟩
    have sq:Hid (∀ (k':Nat) (W:World) (v':Value) (a':List Pr) (M':List Nat),Is base A db F d w0 tb x fr en lim lo t w v acc M b n (.slice xa n.ps.length xc) (.slice la L lc) (.slice (some ⟨g,o,none⟩) N cc) k' W v' a' M'→W.cell? ⟨b,1,none⟩=some (.int .i64 n.f)∧W.cell? ⟨b,2,none⟩=some (.slice la L lc)∧W.cell? ⟨b,3,none⟩=some (.slice (some ⟨g,o,none⟩) N cc)∧W.cell? ⟨x.en,0,none⟩=some (.string en)∧W.cell? ⟨x.g,0,none⟩=some (.func (.func 90) #[] #[.pointer (some ⟨x.m,0,none⟩),.pointer (some ⟨x.f,0,none⟩),.pointer (some ⟨x.t,0,none⟩),.pointer (some ⟨x.fr,0,none⟩),.pointer (some ⟨x.en,0,none⟩),.pointer (some ⟨x.p,0,none⟩),.pointer (some ⟨x.l,0,none⟩),.pointer (some ⟨x.g,0,none⟩)])∧W.cell? ⟨g,o+k,none⟩=some (.iface ut ux)):=fun k' W v' a' M' this=>by
     exact ⟨this.br.c1,this.br.c2,this.br.c3,this.gs.cen,this.gs.cg,by
      rw [← GZ];obtain ⟨g',o',he,h1⟩:=this.br.qT hu;cases he;exact h1⟩
    have HU:=ab hu;have HUV:=ab GZ;have RO:(0:Int)≤(k:Int):=by omega
    have jx:(k:Int)<(N:Int):=by omega
    have UU:IntKind.i64.wrap ((k:Int)+1)=(k:Int)+1:=by rw [IntKind.wrap_i64];omega
    have hwd:IntKind.i64.wrap ((dp:Int)+1)=(dp:Int)+1:=by have:=HDP.out;rw [IntKind.wrap_i64];omega
    have gP:=ab eK;have Uz:Hid (k+1≤N):=bK;clear hl hcu hN eK hu GZ Nk Nj bK hkN;by_cases hbh:yF en (MB t.2.1 k)=true
    ·rw [hbh] at Yd;rw [if_pos hbh] at gP;clear R7;go_wp2_with fail;refine wp_region_held_drew (S:=(fun w'=>w'.cell? ⟨b,1,none⟩=some (.int .i64 n.f)∧w'.cell? ⟨b,2,none⟩=some (.slice la L lc)∧w'.cell? ⟨x.en,0,none⟩=some (.string en))) (by kernel_rfl) ⟨p1,p2,Y0⟩ (fun gv=>?_)
     refine wpAnyH_take (i:=0) (oi:={ dst:=some 70,op:=Op.move (Operand.tmp 13),type:=152,pos := "look.go:49",after:=#[],guard:=none }) (v:=?_) rfl (by kernel_rfl) (by kernel_rfl) (by kernel_rfl) (fun _ _ _ h=>h) (Or.inl ⟨by rfl,?_⟩) (by assumption) ?_
     rotate_left
     ·(intro w' yo;(try dsimp only at yo);go_simp;try with_reducible rfl)
     simp only [Act.put,aC,List.set_cons_zero,List.set_cons_succ];refine wpAnyH_take (i:=1) (oi:={ dst:=some 71,op:=Op.nilCheck (Operand.tmp 70),type:=0,pos := "look.go:49",after:=#[{ on:=0,ground:=Ground.data }],guard:=none }) (v:=?_) rfl (by kernel_rfl) (by kernel_rfl) (by kernel_rfl) (fun _ _ _ h=>h) (Or.inl ⟨by rfl,?_⟩) (by assumption) ?_
     rotate_left
     ·(intro w' yo;(try dsimp only at yo);go_simp;try with_reducible rfl)
     simp only [Act.put,aC,List.set_cons_zero,List.set_cons_succ];refine wpAnyH_take (i:=2) (oi:={ dst:=some 72,op:=Op.fieldAddr 155 (Operand.tmp 71) 1,type:=0,pos := "look.go:49",after:=#[{ on:=1,ground:=Ground.data }],guard:=none }) (v:=?_) rfl (by kernel_rfl) (by kernel_rfl) (by kernel_rfl) (fun _ _ _ h=>h) (Or.inl ⟨by rfl,?_⟩) (by assumption) ?_
     rotate_left
     ·(intro w' yo;(try dsimp only at yo);go_simp;try with_reducible rfl)
     simp only [Act.put,aC,List.set_cons_zero,List.set_cons_succ];refine wpAnyH_take (i:=3) (oi:={ dst:=some 73,op:=Op.load 150 (Operand.tmp 72),type:=150,pos := "look.go:49",after:=#[{ on:=2,ground:=Ground.data }],guard:=none }) (v:=?_) rfl (by kernel_rfl) (by kernel_rfl) (by kernel_rfl) (fun _ _ _ h=>h) (Or.inl ⟨by rfl,?_⟩) (by assumption) ?_
     rotate_left
     ·(intro w' yo;(try dsimp only at yo);go_simp;try with_reducible rfl)
     simp only [Act.put,aC,List.set_cons_zero,List.set_cons_succ];refine wpAnyH_take (i:=4) (oi:={ dst:=some 74,op:=Op.move (Operand.tmp 16),type:=3,pos := "look.go:49",after:=#[],guard:=none }) (v:=?_) rfl (by kernel_rfl) (by kernel_rfl) (by kernel_rfl) (fun _ _ _ h=>h) (Or.inl ⟨by rfl,?_⟩) (by assumption) ?_
     rotate_left
     ·(intro w' yo;(try dsimp only at yo);go_simp;try with_reducible rfl)
     simp only [Act.put,aC,List.set_cons_zero,List.set_cons_succ];refine wpAnyH_take (i:=5) (oi:={ dst:=some 75,op:=Op.load 9 (Operand.tmp 6),type:=9,pos := "look.go:49",after:=#[],guard:=none }) (v:=?_) rfl (by kernel_rfl) (by kernel_rfl) (by kernel_rfl) (fun _ _ _ h=>h) (Or.inl ⟨by rfl,?_⟩) (by assumption) ?_
     rotate_left
     ·(intro w' yo;(try dsimp only at yo);go_simp;try with_reducible rfl)
     simp only [Act.put,aC,List.set_cons_zero,List.set_cons_succ];refine wpAnyH_ready (rs:=[6]) (by kernel_rfl) (by simp) ?_
     refine AllReadyH.cons (o:={ dst:=some 76,op:=Op.call { callee:=Callee.value (Operand.func 95),args:=#[Operand.tmp 73,Operand.tmp 74,Operand.tmp 75],argTypes:=#[150,3,9] },type:=4,pos := "look.go:49",after:=#[{ on:=3,ground:=Ground.data },{ on:=4,ground:=Ground.data },{ on:=5,ground:=Ground.data }],guard:=none }) rfl (fun K hK=>?_) AllReadyH.nil
     clear gv;go_simp
     refine (Yd.out _ (by first | exact Below.refl _ _ | exact B.aK (Below.refl _ _))).mono ?_
     rintro e w3 ⟨rfl,bQ⟩;have eG:=ab bQ;obtain ⟨n1,n2,n3,n4,n5,n6⟩:=HC.out w3 bQ;clear bQ;refine hK.out _ _ ⟨n1,n2,n4⟩ (fun gv=>?_)
     clear hK K;refine wpAnyH_take (i:=7) (oi:={ dst:=some 77,op:=Op.move (Operand.tmp 76),type:=4,pos := "look.go:49",after:=#[{ on:=6,ground:=Ground.data },{ on:=6,ground:=Ground.chain }],guard:=none }) (v:=?_) rfl (by kernel_rfl) (by kernel_rfl) (by kernel_rfl) (fun _ _ _ h=>h) (Or.inl ⟨by rfl,?_⟩) (by assumption) ?_
     rotate_left
     ·(intro w' yo;(try dsimp only at yo);go_simp;try with_reducible rfl)
     simp only [Act.put,aC,List.set_cons_zero,List.set_cons_succ];refine wpAnyH_take (i:=8) (oi:={ dst:=some 78,op:=Op.load 167 (Operand.tmp 9),type:=167,pos := "look.go:49",after:=#[{ on:=7,ground:=Ground.guard }],guard:=some (7,false) }) (v:=undef) rfl (by kernel_rfl) (by kernel_rfl) (by kernel_rfl) (fun _ _ _ h=>h) (Or.inr ⟨by rfl,rfl⟩) (by assumption) ?_
     simp only [Act.put,aC,List.set_cons_zero,List.set_cons_succ];refine wpAnyH_take (i:=9) (oi:={ dst:=some 79,op:=Op.move (Operand.tmp 13),type:=152,pos := "look.go:49",after:=#[{ on:=7,ground:=Ground.guard }],guard:=some (7,false) }) (v:=undef) rfl (by kernel_rfl) (by kernel_rfl) (by kernel_rfl) (fun _ _ _ h=>h) (Or.inr ⟨by rfl,rfl⟩) (by assumption) ?_
     simp only [Act.put,aC,List.set_cons_zero,List.set_cons_succ];refine wpAnyH_take (i:=10) (oi:={ dst:=some 80,op:=Op.nilCheck (Operand.tmp 79),type:=0,pos := "look.go:49",after:=#[{ on:=9,ground:=Ground.data },{ on:=7,ground:=Ground.guard }],guard:=some (7,false) }) (v:=undef) rfl (by kernel_rfl) (by kernel_rfl) (by kernel_rfl) (fun _ _ _ h=>h) (Or.inr ⟨by rfl,rfl⟩) (by assumption) ?_
     simp only [Act.put,aC,List.set_cons_zero,List.set_cons_succ];refine wpAnyH_take (i:=11) (oi:={ dst:=some 81,op:=Op.fieldAddr 155 (Operand.tmp 80) 2,type:=0,pos := "look.go:49",after:=#[{ on:=10,ground:=Ground.data },{ on:=7,ground:=Ground.guard }],guard:=some (7,false) }) (v:=undef) rfl (by kernel_rfl) (by kernel_rfl) (by kernel_rfl) (fun _ _ _ h=>h) (Or.inr ⟨by rfl,rfl⟩) (by assumption) ?_
     simp only [Act.put,aC,List.set_cons_zero,List.set_cons_succ];refine wpAnyH_take (i:=12) (oi:={ dst:=some 82,op:=Op.load 153 (Operand.tmp 81),type:=153,pos := "look.go:49",after:=#[{ on:=11,ground:=Ground.data },{ on:=7,ground:=Ground.guard }],guard:=some (7,false) }) (v:=undef) rfl (by kernel_rfl) (by kernel_rfl) (by kernel_rfl) (fun _ _ _ h=>h) (Or.inr ⟨by rfl,rfl⟩) (by assumption) ?_
     simp only [Act.put,aC,List.set_cons_zero,List.set_cons_succ];refine wpAnyH_take (i:=13) (oi:={ dst:=some 83,op:=Op.move (Operand.tmp 16),type:=3,pos := "look.go:49",after:=#[{ on:=7,ground:=Ground.guard }],guard:=some (7,false) }) (v:=undef) rfl (by kernel_rfl) (by kernel_rfl) (by kernel_rfl) (fun _ _ _ h=>h) (Or.inr ⟨by rfl,rfl⟩) (by assumption) ?_
     simp only [Act.put,aC,List.set_cons_zero,List.set_cons_succ];refine wpAnyH_take (i:=14) (oi:={ dst:=some 84,op:=Op.indexAddr 153 (Operand.tmp 82) (Operand.tmp 83),type:=0,pos := "look.go:49",after:=#[{ on:=12,ground:=Ground.data },{ on:=13,ground:=Ground.data },{ on:=7,ground:=Ground.guard }],guard:=some (7,false) }) (v:=undef) rfl (by kernel_rfl) (by kernel_rfl) (by kernel_rfl) (fun _ _ _ h=>h) (Or.inr ⟨by rfl,rfl⟩) (by assumption) ?_
     simp only [Act.put,aC,List.set_cons_zero,List.set_cons_succ];refine wpAnyH_take (i:=15) (oi:={ dst:=some 85,op:=Op.load 97 (Operand.tmp 84),type:=97,pos := "look.go:49",after:=#[{ on:=14,ground:=Ground.data },{ on:=7,ground:=Ground.guard }],guard:=some (7,false) }) (v:=undef) rfl (by kernel_rfl) (by kernel_rfl) (by kernel_rfl) (fun _ _ _ h=>h) (Or.inr ⟨by rfl,rfl⟩) (by assumption) ?_
     simp only [Act.put,aC,List.set_cons_zero,List.set_cons_succ];refine wpAnyH_take (i:=16) (oi:={ dst:=some 86,op:=Op.move (Operand.tmp 1),type:=3,pos := "look.go:49",after:=#[{ on:=7,ground:=Ground.guard }],guard:=some (7,false) }) (v:=undef) rfl (by kernel_rfl) (by kernel_rfl) (by kernel_rfl) (fun _ _ _ h=>h) (Or.inr ⟨by rfl,rfl⟩) (by assumption) ?_
     simp only [Act.put,aC,List.set_cons_zero,List.set_cons_succ];refine wpAnyH_take (i:=17) (oi:={ dst:=some 87,op:=Op.binOp BinOp.add 3 (Operand.tmp 86) (Operand.const (Value.int IntKind.i64 1)) 3,type:=3,pos := "look.go:49",after:=#[{ on:=16,ground:=Ground.data },{ on:=7,ground:=Ground.guard }],guard:=some (7,false) }) (v:=undef) rfl (by kernel_rfl) (by kernel_rfl) (by kernel_rfl) (fun _ _ _ h=>h) (Or.inr ⟨by rfl,rfl⟩) (by assumption) ?_
     simp only [Act.put,aC,List.set_cons_zero,List.set_cons_succ];refine wpAnyH_take (i:=18) (oi:={ dst:=some 88,op:=Op.call { callee:=Callee.value (Operand.tmp 78),args:=#[Operand.tmp 85,Operand.tmp 87],argTypes:=#[97,3] },type:=4,pos := "look.go:49",after:=#[{ on:=8,ground:=Ground.data },{ on:=15,ground:=Ground.data },{ on:=17,ground:=Ground.data },{ on:=7,ground:=Ground.chain },{ on:=7,ground:=Ground.guard }],guard:=some (7,false) }) (v:=undef) rfl (by kernel_rfl) (by kernel_rfl) (by kernel_rfl) (fun _ _ _ h=>h) (Or.inr ⟨by rfl,rfl⟩) (by assumption) ?_
     simp only [Act.put,aC,List.set_cons_zero,List.set_cons_succ];refine wpAnyH_take (i:=19) (oi:={ dst:=some 89,op:=Op.unOp UnOp.not 4 (Operand.tmp 88),type:=4,pos := "look.go:49",after:=#[{ on:=18,ground:=Ground.data },{ on:=7,ground:=Ground.guard }],guard:=some (7,false) }) (v:=undef) rfl (by kernel_rfl) (by kernel_rfl) (by kernel_rfl) (fun _ _ _ h=>h) (Or.inr ⟨by rfl,rfl⟩) (by assumption) ?_
     simp only [Act.put,aC,List.set_cons_zero,List.set_cons_succ];refine wpAnyH_take (i:=20) (oi:={ dst:=some 90,op:=Op.pick (Operand.tmp 77) (Operand.const (Value.bool true)) (Operand.tmp 89),type:=4,pos := "look.go:49",after:=#[{ on:=7,ground:=Ground.data },{ on:=19,ground:=Ground.data }],guard:=none }) (v:=?_) rfl (by kernel_rfl) (by kernel_rfl) (by kernel_rfl) (fun _ _ _ h=>h) (Or.inl ⟨by rfl,?_⟩) (by assumption) ?_
     rotate_left
     ·(intro w' yo;(try dsimp only at yo);go_simp;try with_reducible rfl)
     simp only [Act.put,aC,List.set_cons_zero,List.set_cons_succ];refine wpAnyH_done (by kernel_rfl) ?_ _
     clear gv;go_wp2;go_ret;exact (HL.out.below eG.out).out gP.out
    ·rw [Bool.not_eq_true] at hbh;rw [hbh] at Yd;rw [if_neg (by rw [hbh];simp)] at gP
     obtain ⟨r,hr⟩ : ∃ r,r=(fw fr en lim h c ak).2:=⟨_,rfl⟩;rw [← hr] at R7 gP;have HR:=ab hr;clear hr;go_wp2_with fail;cases r
     ·rw [if_neg (by simp)] at gP
      go_region_held3 (fun w'=>w'.cell? ⟨b,1,none⟩=some (.int .i64 n.f)∧w'.cell? ⟨b,2,none⟩=some (.slice la L lc)∧w'.cell? ⟨x.en,0,none⟩=some (.string en)∧w'.cell? ⟨b,3,none⟩=some (.slice (some ⟨g,o,none⟩) N cc)∧w'.cell? ⟨x.g,0,none⟩=some (.func (.func 90) #[] #[.pointer (some ⟨x.m,0,none⟩),.pointer (some ⟨x.f,0,none⟩),.pointer (some ⟨x.t,0,none⟩),.pointer (some ⟨x.fr,0,none⟩),.pointer (some ⟨x.en,0,none⟩),.pointer (some ⟨x.p,0,none⟩),.pointer (some ⟨x.l,0,none⟩),.pointer (some ⟨x.g,0,none⟩)])∧w'.cell? ⟨g,o+k,none⟩=some (.iface ut ux)) (go_keep)
       (first
        | (go_at_call 95;refine (Yd.out _ (by first | exact Below.refl _ _ | exact B.aK (Below.refl _ _))).mono ?_;rintro e w3 ⟨rfl,bQ⟩;have eG:=ab bQ;obtain ⟨n1,n2,n3,n4,n5,n6⟩:=HC.out w3 bQ;clear bQ)
        | (go_at_call 90;refine (R7.out _ eG.out).mono ?_;rintro e w4 ⟨v4,M4,rfl,FI⟩;have XE:=ab FI;obtain ⟨o1,o2,o3,o4,o5,o6⟩:=sq.out _ _ _ _ _ FI;clear FI))
      all_goals
       go_wp2;go_ret;exact XE.out.out gP.out
     ·rw [if_pos rfl] at gP;go_region_held3 (fun w'=>w'.cell? ⟨b,1,none⟩=some (.int .i64 n.f)∧w'.cell? ⟨b,2,none⟩=some (.slice la L lc)∧w'.cell? ⟨x.en,0,none⟩=some (.string en)∧w'.cell? ⟨b,3,none⟩=some (.slice (some ⟨g,o,none⟩) N cc)∧w'.cell? ⟨x.g,0,none⟩=some (.func (.func 90) #[] #[.pointer (some ⟨x.m,0,none⟩),.pointer (some ⟨x.f,0,none⟩),.pointer (some ⟨x.t,0,none⟩),.pointer (some ⟨x.fr,0,none⟩),.pointer (some ⟨x.en,0,none⟩),.pointer (some ⟨x.p,0,none⟩),.pointer (some ⟨x.l,0,none⟩),.pointer (some ⟨x.g,0,none⟩)])∧w'.cell? ⟨g,o+k,none⟩=some (.iface ut ux)) (go_keep)
       (first
        | (go_at_call 95;refine (Yd.out _ (by first | exact Below.refl _ _ | exact B.aK (Below.refl _ _))).mono ?_;rintro e w3 ⟨rfl,bQ⟩;have eG:=ab bQ;obtain ⟨n1,n2,n3,n4,n5,n6⟩:=HC.out w3 bQ;clear bQ)
        | (go_at_call 90;refine (R7.out _ eG.out).mono ?_;rintro e w4 ⟨v4,M4,rfl,FI⟩;have XE:=ab FI;obtain ⟨o1,o2,o3,o4,o5,o6⟩:=sq.out _ _ _ _ _ FI;clear FI))
      all_goals
       clear R7 HC Yd sq;go_wp2;go_roundw
       case rel=>exact ⟨k+1,v4,(fw fr en lim h c ak).1,M4,by rw [eA];rfl,Uz.out,XE.out,gP.out⟩
       case measure=>simp [intOf];have:=Uz.out;omega
   ·have:k=N:=by omega
    subst this;have HE:=ab (HL.out.out (e:=true) (by rw [HD.out,LG _ _ _ _ _ _ (by have:=HN.out;have:=vu.out.1;omega)]))
    clear hl Nk Nj vu HN HD HL;go_wp2;go_ret;exact HE.out
end
attribute [local go_sem ↓] Go.wp_at_zero Go.wp_at_succ
section
variable {PG:Int→Option PD} {w0:World} {lo pb:Nat} {pv:Value} {P:List Nat} {tx:Nat} {h:Nat} {w:World} {sv:Value} {Z:List S.Sh}
theorem TQ{h:Nat}{cs:List (Nd h)}{c:Nd h}(hc:cs[0]?=some c):l6 cs=(fy h c:Int):=by
 cases cs with
 | nil=>simp at hc
 | cons d cs=>cases hc;rfl
theorem nE(IH:Uq PG w0 lo pb pv P tx h){b:Nat}{n:SN}{xv lv cv:Value}{t:Nd (h+1)}(ye:dQ w0 b n xv lv cv)(hn:aU PG w0 (h+1) n t)(ho:Re (h+1) t)(hP:pR w0 lo pb pv P tx w sv Z)(jw:((bZ (aV (eB P) h) t.2.2 Z.length).1.flatMap (dG h)).Nodup)(ym:Z.length+(t.2.2.map (jc h)).sum≤P.length):Calls prog 184 #[.pointer (some ⟨pb,0,none⟩),.pointer (some ⟨b,0,none⟩)] w fun e w'=>∃ oe SV,e = .returned (.agg #[.int .i64 (l6 (bZ (aV (eB P) h) t.2.2 Z.length).1),SV])∧B.di w' SV (qv t.2.1 (bZ (aV (eB P) h) t.2.2 Z.length).1)∧pR w0 lo pb pv P tx w' oe (Z++(bZ (aV (eB P) h) t.2.2 Z.length).2.map (gK tx))∧mL pb w sv w' oe:=by
 have MW:n.us.length=t.2.2.length:=hn.1;have jo:t.2.1=n.lk.map (·.1):=hn.2.2.2.1;have h0:¬ n.us.length=0:=fun e=>hn.2.1 (List.length_eq_zero_iff.1 e)
 have gT:n.us.length=n.lk.length+1:=by
  rcases hn.2.2.1 with h9 | h9
  ·exact absurd h9 h0
  ·exact h9
 have RL:0<n.lk.length:=by
  have h9:t.2.1≠[]:=ho.2.2;rw [jo] at h9;cases hl:n.lk with
  | nil=>rw [hl] at h9;exact absurd rfl h9
  | cons _ _=>simp
 have ic:=ye.fine;obtain ⟨W1,gL⟩ : ∃ W1,w.alloc (.cells #[.int .i64 0,.slice none 0 0] 150)=W1:=⟨_,rfl⟩;have aM:Below w.heap.size w W1:=gL▸ai w _;obtain ⟨H,hH⟩ : ∃ H,w.heap.size=H:=⟨_,rfl⟩;have rH:B.au W1 H #[.int .i64 0,.slice none 0 0] 150:=by rw [← hH];exact gL▸B.au.new w _ _
 have hP1:=hP.below aM;obtain ⟨news,ik⟩ : ∃ news,news=(bZ (aV (eB P) h) t.2.2 Z.length).1:=⟨_,rfl⟩;have yf:news.length=n.lk.length+1:=by rw [ik,iw];omega
 have FK:(qv t.2.1 news).length=n.lk.length:=by rw [vN _ _ (by rw [yf,jo,az]),jo,az]
 obtain ⟨q0,RF⟩ : ∃ q,n.us[0]?=some q:=⟨_,af (by omega)⟩
 obtain ⟨c0,yn⟩ : ∃ c,t.2.2[0]?=some c:=⟨_,af (by omega)⟩
 obtain ⟨la,lc,pN⟩:=ye.bh.form;obtain ⟨ca,cc,sC⟩:=ye.kids.form;have WG:=ye.bh;subst pN sC;obtain ⟨g,o,rfl,bm⟩:=ye.br.qT RF;obtain ⟨ut,ux,GZ⟩:=bP q0;rw [GZ,Nat.add_zero] at bm;obtain ⟨ta,Wm,Zp⟩:=ye.kids.drop (m:=1) (by omega)
 have pZ:∀ W',(Instr.sliceAt 153 (.slice (some ⟨g,o,none⟩) (n.lk.length+1) cc) (some (.int .i64 1)) none none).run prog W' = .ok (.slice ta n.lk.length (cc - 1)) W':=fun W'=>by
  have:=Zp W';rw [gT] at this;simpa using this
 have MG:Hid (∀ i q,n.us[i+1]?=some q→∃ g' o',ta=some ⟨g',o',none⟩∧w0.cell? ⟨g',o'+i,none⟩=some q.val):=fun i q hq=>by
  obtain ⟨a',c',he,-,-,hc⟩:=Wm;simp only [Value.slice.injEq] at he;obtain ⟨rfl,-,-⟩:=he;exact hc i q.val (by unfold C.bh;rw [aL,dn,Nat.add_comm 1 i,hq];rfl)
 have PR:=Jf (aV (eB P) h) t.2.2 Z.length 0 c0 yn;simp only [List.take_zero,bZ,List.length_nil,Nat.add_zero,List.nil_append] at PR;have Rs:Hid (∀ W kk uu,sE w0 lo pb pv P tx n.lk w sv H W sv Z kk uu→Calls prog 72 #[.pointer (some ⟨pb,0,none⟩),.iface ut ux] W fun e w'=>∃ oe,e = .returned (.int .i64 (l6 news))∧sE w0 lo pb pv P tx n.lk w sv H w' oe (Z++(bZ (aV (eB P) h) (t.2.2.take 1) Z.length).2.map (gK tx)) kk uu):=fun W kk uu hW=>by
  have Lg:jc h c0≤(t.2.2.map (jc h)).sum:=by
   have e1:=wN (l:=t.2.2.map (jc h)) (i:=0) (x:=jc h c0) (by rw [aL,yn];rfl)
   have e2:=lK (t.2.2.map (jc h)) 1;simp only [List.take_zero,List.sum_nil,Nat.zero_add] at e1;omega
  rw [← GZ];refine (IH q0 c0 W sv Z (hn.qT RF yn) (vH ho yn) hW.yU (by omega) (xF jw PR.1)).mono ?_
  rintro e w' ⟨oe,rfl,g1,g2⟩;refine ⟨oe,by rw [ik,TQ PR.1],hW.move g2 ?_⟩
  rw [show t.2.2.take 1=t.2.2.take (0+1) from rfl,PR.2]
  exact g1
 have sq:Hid (∀ W sx Zc kk,sE w0 lo pb pv P tx n.lk w sv H W sx Zc kk none→Calls prog 209 #[.slice la n.lk.length lc] W fun e w'=>∃ ug uc,e = .returned (.slice (some ⟨ug,0,none⟩) n.lk.length uc)∧sE w0 lo pb pv P tx n.lk w sv H w' sx Zc kk (some (ug,uc))):=fun W sx Zc kk hW=>by
  refine (B.eU _ n.lk W (by have:=ic.2.2.2.1;omega) (WG.below hW.yU.eZ)).mono ?_
  rintro e w' ⟨u,rfl,hou,hb⟩;obtain ⟨ug,uc,hu,-⟩:=hou.has RL;subst hu;exact ⟨ug,uc,rfl,hW.clone hou hb⟩
 have HOL:Hid (∀ W,Below w0.heap.size w0 W→W.cell? ⟨b,3,none⟩=some (.slice (some ⟨g,o,none⟩) (n.lk.length+1) cc)∧W.cell? ⟨b,2,none⟩=some (.slice la n.lk.length lc)∧W.cell? ⟨g,o,none⟩=some (.iface ut ux)):=fun W hW=>⟨by rw [← gT];exact (ye.below hW).c3,(ye.below hW).c2,(hW.cell (p:=⟨g,o,none⟩) (World.block_lt_of_cell? w0 _ bm)).trans bm⟩
 obtain ⟨p3,p2,p4⟩:=HOL.out W1 hP1.eZ;have PO:(0:Int)≤(n.lk.length:Int):=by omega
 have vj:(0:Int)<(n.lk.length:Int)+1:=by omega
 have yO:Hid (sE w0 lo pb pv P tx n.lk w sv H W1 sv Z none none):=⟨hP1,mL.below sv aM,rH,⟨by omega,by have:=hP.row.lt;omega,fun e=>by have:=(hP.sh.dF e).2;omega⟩,(fun _ h=>by cases h),(fun _ _ h=>by cases h),(fun _ _ _ h=>by cases h)⟩
 have Nj:Hid (∀ (k:Nat) (q:C.Ch) (c:Nd h),n.us[k]?=some q→t.2.2[k]?=some c→ew PG w0 h q c∧Re h c):=fun k q c h1 h2=>⟨hn.qT h1 h2,vH ho h2⟩
 have HIH:Hid (Uq PG w0 lo pb pv P tx h):=IH;have HND:=ab jw;have MM:=ab ym;have HKS:Hid (n.lk.map (·.1)=t.2.1):=jo.symm;have HW0:Hid (w0.heap.size≤w.heap.size):=hP.eZ.size;have R9:Hid (b<w.heap.size∧g<w.heap.size):=⟨aq ye.row.lt hP.eZ.size,aq (World.block_lt_of_cell? w0 _ bm) hP.eZ.size⟩;have HRH:=ab rH;have HHW:Hid (w.heap.size=H∧W1.heap.size=H+1∧Below w.heap.size w W1):=⟨hH,by rw [← gL,← hH];simp,aM⟩
 have lW:Hid (0<n.lk.length∧n.us.length=n.lk.length+1∧n.lk.length≤4000∧n.us.length=t.2.2.length∧(qv t.2.1 news).length=n.lk.length):=⟨RL,gT,ic.2.2.2.1,MW,FK⟩;have Xt:=ab ik;rw [← ik];clear jo jw ym Wm Zp hP1 hP rH aM RL gT ic MW yf FK WG bm PR RF yn GZ h0 ik;go_enter func184,ntmps184;go_upto_region 1 with fail
 go_cut [5] (fun u wx=>∃ K ug uc sx,u = .pointer (some ⟨K,0,none⟩)∧zU w0 lo pb pv P tx t.2.2 Z.length (qv t.2.1 news) n.lk (l6 news) w sv Z H K ug uc 0 1 wx sx)
 case first =>
  go_region_held3 (fun w'=>w'.cell? ⟨b,3,none⟩=some (.slice (some ⟨g,o,none⟩) (n.lk.length+1) cc)∧w'.cell? ⟨b,2,none⟩=some (.slice la n.lk.length lc)∧w'.cell? ⟨g,o,none⟩=some (.iface ut ux)) (go_keep)
   (first
    | (go_at_call 72;refine (Rs.out _ _ _ (by first | exact Yo.out | exact Yo.out.drew | exact Yo.out.alloc | exact Yo.out.alloc.drew | exact yO.out | exact yO.out.drew | exact yO.out.alloc | exact yO.out.alloc.drew)).mono ?_;rintro e wl ⟨sl,rfl,hq⟩;have Vz:=ab hq;obtain ⟨x3,x2,x4⟩:=HOL.out wl hq.yU.eZ;(try (have kr:=(hq.kr _ rfl).1;have ke1:=Nat.ne_of_gt (aq R9.out.1 (hq.kr _ rfl).2.1);have ke2:=Nat.ne_of_gt (aq R9.out.2 (hq.kr _ rfl).2.1);have kc0:=kr.c0;have kc1:=kr.c1;have kf0:=kr.free 0;have kf1:=kr.free 1;clear kr));clear hq)
    | (go_at_call 209;refine (sq.out _ _ _ _ (by first | exact Vz.out | exact Vz.out.drew | exact Vz.out.alloc | exact Vz.out.alloc.drew | exact yO.out | exact yO.out.drew | exact yO.out.alloc | exact yO.out.alloc.drew)).mono ?_;rintro e wc ⟨ug,uc,rfl,hq⟩;have Yo:=ab hq;obtain ⟨y3,y2,y4⟩:=HOL.out wc hq.yU.eZ;(try (have kr:=(hq.kr _ rfl).1;have ke3:=Nat.ne_of_gt (aq R9.out.1 (hq.kr _ rfl).2.1);have ke4:=Nat.ne_of_gt (aq R9.out.2 (hq.kr _ rfl).2.1);have kd0:=kr.c0;have kd1:=kr.c1;have kg0:=kr.free 0;have kg1:=kr.free 1;clear kr));clear hq))
  all_goals
   go_wp2_with fail;go_meet
   first
    | exact ⟨_,_,_,_,rfl,sE.done Yo.out HW0.out⟩
    | exact ⟨_,_,_,_,rfl,sE.done Vz.out HW0.out⟩
    | exact ⟨_,_,_,_,rfl,sE.Vm Yo.out⟩
    | exact ⟨_,_,_,_,rfl,sE.Vm Vz.out⟩
 case rest =>
  obtain ⟨K,ug,uc,sx,rfl,hB⟩:=hcut;obtain ⟨z3,z2,z4⟩:=HOL.out _ hB.yU.eZ;have vz:=ab hB;clear hB Rs sq yO p3 p2 p4;go_wp2_with fail;go_loopw [29] (fun iv wr=>∃ (i:Nat) (sy:Value),iv = .int .i64 (i:Int)∧i≤n.lk.length∧zU w0 lo pb pv P tx t.2.2 Z.length (qv t.2.1 news) n.lk (l6 news) w sv Z H K ug uc i (i+1) wr sy) (fun iv _=>n.lk.length - (intOf iv).toNat)
  case atStart=>exact ⟨0,sx,rfl,aB _,vz.out⟩
  case round =>
   obtain ⟨i,sy,rfl,WJ,hB⟩:=hrel;obtain ⟨Va,TD,hl3,FI,hl5⟩:=lW.out;clear vz z3 z2 z4 pZ;by_cases bK:i<n.lk.length
   ·obtain ⟨q,hq⟩ : ∃ q,n.us[i+1]?=some q:=⟨_,af (by omega)⟩
    obtain ⟨c,hc⟩ : ∃ c,t.2.2[i+1]?=some c:=⟨_,af (by omega)⟩
    obtain ⟨g',o',rfl,Jp⟩:=MG.out i q hq;obtain ⟨qt,qx,ZC⟩:=bP q;rw [ZC] at Jp;have P8:wr.cell? ⟨g',o'+i,none⟩=some (.iface qt qx):=(hB.yU.eZ.cell (p:=⟨g',o'+i,none⟩) (World.block_lt_of_cell? w0 _ Jp)).trans Jp;obtain ⟨hk,cO⟩:=Nj.out (i+1) q c hq hc;have Rr:Hid (∀ W,Below wr.heap.size wr W→Calls prog 72 #[.pointer (some ⟨pb,0,none⟩),.iface qt qx] W fun e w'=>∃ oe c',(bZ (aV (eB P) h) t.2.2 Z.length).1[i+1]?=some c'∧e = .returned (.int .i64 (fy h c':Int))∧zU w0 lo pb pv P tx t.2.2 Z.length (qv t.2.1 news) n.lk (l6 news) w sv Z H K ug uc i (i+1+1) w' oe):=fun W hW=>by
     rw [← ZC];exact (hB.below hW).call HIH.out rfl HND.out MM.out hc hk cO
    have kk1:wr.cell? ⟨K,1,none⟩=some (.slice (some ⟨ug,0,none⟩) n.lk.length uc):=hB.row.c1;have ain:ug≠K:=fun e=>hB.ne.1 e.symm
    have yW:(0:Int)≤(i:Int):=by omega
    have Cs:(i:Int)<(n.lk.length:Int):=by omega
    have vm:(i:Int)<4000:=by omega
    have UB:Hid (i<n.lk.length):=bK;have HAL:Hid ((qv t.2.1 news).length=n.lk.length):=hl5;clear hB Jp hk cO hq hc ZC bK WJ Va TD hl3 FI hl5;go_wp2_with fail;go_region_held3 (fun w'=>w'.cell? ⟨K,1,none⟩=some (.slice (some ⟨ug,0,none⟩) n.lk.length uc)) (go_keep)
     (first
      | (go_at_call 72;refine (Rr.out _ (by first | exact Below.refl _ _ | exact B.aK (Below.refl _ _))).mono ?_;rintro e w4 ⟨sz,c',uC,rfl,hB4⟩;obtain ⟨⟨u4,hu4⟩,hf4,hB5⟩:=hB4.put HW0.out HKS.out (by rw [Xt.out]) HAL.out UB.out uC;have iu:=ab hB5;have n1:=hB4.row.c1;clear hB4 hB5 uC))
    all_goals
     clear Rr;go_wp2;go_roundw
     case rel=>exact ⟨i+1,sz,by go_num,UB.out,by first | exact iu.out | exact iu.out.below (B.aK (Below.refl _ _))⟩
     case measure=>simp [intOf];have:=UB.out;omega
   ·have hiE:i=n.lk.length:=by omega
    have kk0:wr.cell? ⟨K,0,none⟩=some (.int .i64 (l6 news)):=hB.row.c0;have kk1:wr.cell? ⟨K,1,none⟩=some (.slice (some ⟨ug,0,none⟩) n.lk.length uc):=hB.row.c1;have hh0:=hB.res.c0;have hh1:=hB.res.c1;have M0:=hB.res.free 0;have hf1:=hB.res.free 1;have ic:=hB.fin HW0.out (.int .i64 (l6 news)) (.slice (some ⟨ug,0,none⟩) n.lk.length uc);have ch:=ab hB.res;rw [OR hl5 (by omega),al (by omega:t.2.2.length≤i+1)] at ic
    have mP:=ab ic;have Cs:¬ (i:Int)<(n.lk.length:Int):=by omega
    clear hB ic WJ Va TD hl3 FI hl5 bK hiE;go_wp2;refine bodyPost_ret (results_cell_row rfl _ _ H 150 _ (0,0) _ rfl (ch.out.two _ _) underlying150 rfl (by kernel_rfl)) rfl ?_
    exact ⟨sy,_,rfl,mP.out.1,mP.out.2.1,mP.out.2.2⟩
end
end T
end Go.Proofs.YtihmgigfkmofnaaGreatDoor
