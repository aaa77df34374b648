import Derived.Test.YtihmgigfkmofnaaGreatDoorG21
set_option maxHeartbeats 8000000
set_option maxRecDepth 100000
open Go.Proofs.Tryz
namespace Go.Proofs.YtihmgigfkmofnaaGreatDoor
namespace T
open Go.RowKit
theorem CS(tb bb:Nat)(w:World):Calls prog 104 #[.pointer (some ⟨tb,0,none⟩),.iface 152 (.pointer (some ⟨bb,0,none⟩))] w fun e w'=>e = .returned (.tuple #[.pointer (some ⟨bb,0,none⟩),.nilIface])∧w=w':=by
 have a1:=fun W=>Jp (.pointer (some ⟨bb,0,none⟩)) W
 have a2:=fun W=>Qy (.pointer (some ⟨bb,0,none⟩)) W
 go_enter func104,ntmps104;go_wp2;go_ret2;exact ⟨rfl,rfl⟩
theorem zZ(ba bb:Nat)(na nb:SN)(pa la ca pb lb cb:Value)(key:ByteArray)(w:World)(ha:dH w ba na pa la ca)(hb:dH w bb nb pb lb cb)(S0:na.yP)(Rj:nb.yP)(SK:na.sz≤4072)(Uq:nb.sz≤4072)(hs:na.us.length=0↔nb.us.length=0)(hk:cQ key):Calls prog 126 #[.pointer (some ⟨ba,0,none⟩),.string key,.pointer (some ⟨bb,0,none⟩)] w fun e w'=>Ru w (na.join key nb) e w':=by
 unfold SN.join;unfold SN.sz at SK Uq;by_cases h0:na.us.length=0
 ·rw [if_pos h0] at SK;rw [if_pos (hs.1 h0)] at Uq;rw [if_pos h0];have:=iw na.ps;have:=iw nb.ps;exact KT ba bb na nb pa la ca pb lb cb key w ha hb h0 (by omega)
 ·rw [if_neg h0] at SK;rw [if_neg (fun h=>h0 (hs.2 h))] at Uq
  rw [if_neg h0];have:=B.qU na.lk;have:=B.qU nb.lk;have e1:=S0.resolve_left h0;have e2:=Rj.resolve_left (fun h=>h0 (hs.2 h))
  exact Sy ba bb na nb pa la ca pb lb cb key w ha hb h0 (by omega) (by omega) hk
theorem DS{na nb:SN}{key:ByteArray}(S0:na.yP)(Rj:nb.yP)(hs:na.us.length=0↔nb.us.length=0):(na.join key nb).yP:=by
 unfold SN.join;by_cases h0:na.us.length=0
 ·rw [if_pos h0];exact .inl rfl
 ·rw [if_neg h0];have e1:=S0.resolve_left h0;have e2:=Rj.resolve_left (fun h=>h0 (hs.2 h))
  right
  show (na.us++nb.us).length=(B.iR na.lk key nb.f nb.lk).length+1
  unfold B.iR;rw [ae,ae,List.length_cons];omega
def lH{d:S.V.bq}{X:Type}(S:Sys d X)(A:Nat→Addr)(db:Nat)(F:Nat→Prop)(w:World)(n:SN)(i l bb:Nat)(nb:SN)(y:X)(jn:ByteArray→SN→SN)(e:Ending)(w':World):Prop :=
 (S.E∧e=qG A)∨∃ (b':Nat) (w2:World) (m:SN) (k:ByteArray) (z:Int) (bj:Nat) (pj lj cj:Value),e = .returned (.tuple #[.pointer (some ⟨b',0,none⟩),.nilIface])∧Mv db F w w2∧n.lk[l]?=some (k,z)∧S.N w2 m y∧(m.us.length=0↔nb.us.length=0)∧dH w2 bj (jn k m) pj lj cj ∧
  mu w2 ⟨[],n.f,B.cA n.lk l,C.cA (n.us.set i (.nd bb)) (l+1)⟩ l bj (jn k m) (.returned (.pointer (some ⟨b',0,none⟩))) w'
theorem CK{base:Nat}{A:Nat→Addr}{db:Nat}{F:Nat→Prop}{d:S.V.bq}{X:Type}(S:Sys d X)(tb:Nat)(rv:Value)(b bb:Nat)(n nb:SN)(pv lv cv pb lb cb:Value)(y:X)(p:C.Ch)(w:World)(h:dH w b n pv lv cv)(hb:dH w bb nb pb lb cb)(hi:0<n.us.length)(hlen:n.us.length=n.lk.length+1)(dW:n.lk.length≤3999)(h1:0<n.lk.length)(gM:nb.yP)(yV:nb.sz<nb.min)(hp:n.us[1]?=some p)(hk:S.K w p y)(ht:B.au w tb #[.pointer (some ⟨db,0,none⟩),rv] 100)(hv:Dv base A db F d w)(D8:S.E∨∀ W m,S.N W m y→(m.us.length=0↔nb.us.length=0)):Calls prog 82 #[.pointer (some ⟨tb,0,none⟩),.agg #[.pointer (some ⟨b,0,none⟩),.int .i64 0],.pointer (some ⟨bb,0,none⟩)] w fun e w'=>lH S A db F w n 0 0 bb nb y (fun k m=>nb.join k m) e w'∧Dv base A db F d w'∧Mv db F w w':=by
 have q0:=ai w (.cells #[.pointer (some ⟨b,0,none⟩),.int .i64 0] 159);have x0:=B.au.new w #[.pointer (some ⟨b,0,none⟩),.int .i64 0] 159;generalize Cc:w.alloc (.cells #[.pointer (some ⟨b,0,none⟩),.int .i64 0] 159)=W0 at *;have QK:=ab (mL bb nb pb lb cb W0 (hb.below q0));rw [show decide (nb.sz<nb.min)=true by simp [yV]] at QK
 have HH:=ab h;have WU:=ab hb;have HI:Hid (0<n.us.length∧n.us.length=n.lk.length+1∧n.lk.length≤3999∧0<n.lk.length):=⟨hi,hlen,dW,h1⟩;have BZ:=ab gM;have XJ:=ab yV;have HP:=ab hp;have HK:=ab hk;have HT:=ab ht;have HV:=ab hv;have MR:=ab D8;have HQ:=ab q0;have HX:=ab x0;have TO:Hid (∀ W,Below w.heap.size w W→Calls prog 125 #[.pointer (some ⟨b,0,none⟩),.int .i64 0,.iface 152 (.pointer (some ⟨bb,0,none⟩))] W fun e w'=>∃ b2 p2 l2 c2,e = .returned (.pointer (some ⟨b2,0,none⟩))∧dH w' b2 ⟨[],n.f,n.lk,n.us.set 0 (.nd bb)⟩ p2 l2 c2∧Below W.heap.size W w'):=fun W hW=>by
  have hh:=mK b n pv lv cv 0 (.nd bb) W (h.below hW) hi;rw [show ((0:Nat):Int)=0 by omega] at hh
  exact hh
 clear h hb hi hlen dW h1 gM yV hp hk ht hv D8 q0 x0;go_enter func82,ntmps82;go_wp2_with fail;refine QK.out.mono ?_
 rintro e w1 ⟨rfl,aL⟩;have bP:=ab (Below.next HQ.out aL);have k0:=(HX.out.below aL).c0;have k1:=(HX.out.below aL).c1;have zk:=ab (HX.out.below aL);clear aL QK;go_wp2_with fail
 go_region_held3 (fun w'=>w'.cell? ⟨w.heap.size,0,none⟩=some (.pointer (some ⟨b,0,none⟩))∧w'.cell? ⟨w.heap.size,1,none⟩=some (.int .i64 0)) (go_keep)
  (first
   | (go_at_call 125;refine (TO.out _ (by first | exact bP.out | exact B.aO bP.out)).mono ?_;rintro e w2 ⟨b2,p2,l2,c2,rfl,jm,aU⟩;have ll:=ab jm;have bH:=ab (Below.next (B.aO bP.out) aU);have m0:=(zk.out.below (B.dq aU)).c0;have m1:=(zk.out.below (B.dq aU)).c1;clear jm aU))
 all_goals
  have Jo:=cP.of bH.out;obtain ⟨ca,cc,sg,-,-,bh⟩:=ll.out.kids;rw [C.aS,Nat.mul_one,cx] at sg;subst sg;obtain ⟨g,o,rfl,cI⟩:=bh 0 (C.Ch.nd bb).val (by unfold C.a8;rw [aM,List.getElem?_set_self HI.out.1];rfl)
  obtain ⟨g',o',zb,cS⟩:=bh 1 p.val (by unfold C.a8;rw [aM,List.getElem?_set_ne (by omega),HP.out];rfl)
  cases zb;have TP:=ab (oR S p y tb rv w2 (S.ka Jo HK.out) (dU Jo HT.out) (HV.out.below bH.out));have HPX:=ab (bM p);have p3:=ll.out.c3;have hI1:(0:Int)<(n.us.length:Int):=by have:=HI.out;omega
  have hI2:(0:Int)+1<(n.us.length:Int):=by have:=HI.out;omega
  have hI0:(0:Int)≤(0:Int):=by omega
  have hI4:(n.us.length:Int)≤4000:=by have:=HI.out;omega
  have hI3:(0:Int)≤(0:Int)+1:=by omega
  have zo:Hid (∃ k z,n.lk[0]?=some (k,z)):=⟨_,_,af HI.out.2.2.2⟩;have cI2:w2.cell? ⟨g,o,none⟩=some (.iface 152 (.pointer (some ⟨bb,0,none⟩))):=cI;have HCI:=ab cI2
  rw [show max (IntKind.i64.wrap (-1)) 0=0 by decide]
  clear bh Jo k0 k1 m0 m1 zk HX HQ Cc HK HP cI;obtain ⟨pt,px,iS⟩:=HPX.out;rw [iS] at TP cS;clear iS HPX;go_wp2_with fail;refine (CS tb bb _).mono ?_
  rintro e w2' ⟨rfl,rfl⟩;go_wp2_with fail;refine TP.out.mono ?_
  rintro e w3 ⟨DW,yw,yx⟩;have Rs:=yx.cC (HV.out.below bH.out);have Ft:=ab ((Mv.of bH.out).trans yx);have EZ:=ab yw;have MO:=ab (ll.out.cC Rs);have eG:=ab ((WU.out.below bH.out).cC Rs);clear cI2;rcases DW with ⟨hE,rfl⟩ | ⟨bs,m,ps,ls,cs,rfl,yV,lK⟩
  ·have b8:Hid (lH S A db F w n 0 0 bb nb y (fun k m=>nb.join k m) (qG A) w3∧Dv base A db F d w3∧Mv db F w w3):=⟨.inl ⟨hE,rfl⟩,EZ.out,Ft.out⟩
   unfold qG at b8 ⊢;clear yw yx Rs hE TP p3 cS ll;go_wp2;go_ret2;exact b8.out
  have QL:=ab yV;have Jy:=ab lK;have WN:=ab (S.fit lK);have Mr:=ab (cB bb nb pb lb cb w3 eG.out);have MS:=ab (cB bs m ps ls cs w3 QL.out);clear yV lK yw yx Rs;by_cases pQ:m.us.length=0↔nb.us.length=0
  ·have Hv:=ab pQ;have Au:decide (nb.us.length=0)=decide (m.us.length=0):=by
    rw [ke,decide_eq_true_eq,decide_eq_true_eq]
    first | exact pQ | exact pQ.symm
   rw [Au] at Mr;generalize decide (m.us.length=0)=bk at *;clear pQ Au;obtain ⟨k,z,mf⟩:=zo.out;have Fu:=ab mf;have pC:cQ k:=HH.out.fine.2.2.1 _ (cG mf);obtain ⟨la2,lc2,pD,-,-,B6⟩:=MO.out.a8;subst pD;have PJ:0<n.lk.length:=HI.out.2.2.2;obtain ⟨g2,o2,rfl,cK,-⟩:=B6 0 PJ;have ZK:n.lk[0]=(k,z):=by
    have:=af PJ;rw [mf] at this;exact (Option.some.inj this).symm
   rw [show (⟨[],n.f,n.lk,n.us.set 0 (.nd bb)⟩ : SN).lk[0]=(k,z) from ZK] at cK
   have cK2:w3.cell? ⟨g2,o2,none⟩=some (.string k):=by simpa using cK
   have p2:=MO.out.c2;clear cK;have Cd:(0:Int)<(n.lk.length:Int):=by omega
   have HJ:=ab (zZ bb bs nb m pb lb cb ps ls cs k w3 eG.out QL.out BZ.out WN.out.1 (by have:=XJ.out;unfold SN.min at this;split at this <;> omega) WN.out.2.1 (by have:=Hv.out;first | exact this | exact this.symm) pC)
   have HWO:Hid (∀ W,Below w3.heap.size w3 W→Calls prog 127 #[.pointer (some ⟨b2,0,none⟩),.int .i64 (0:Int)] W fun e w'=>Ru W ⟨[],n.f,B.cA n.lk 0,C.cA (n.us.set 0 (.nd bb)) (0+1)⟩ e w'):=fun W hW=>vL A b2 _ _ _ _ 0 W (MO.out.below hW) PJ (by show (n.us.set 0 _).length=n.lk.length+1;rw [cx];exact HI.out.2.1) (EZ.out.below hW).zf
   have fV:(B.cA n.lk 0).length=n.lk.length - 1:=by unfold B.cA;rw [ae,ag,ao];omega
   have iG:(C.cA (n.us.set 0 (.nd bb)) (0+1)).length=n.us.length - 1:=by unfold C.cA;rw [ae,ag,ao,cx];have:=HI.out;omega
   have EY:Hid (∀ W b5 p5 l5 c5 bj pj lj cj,Below w3.heap.size w3 W→dH W b5 ⟨[],n.f,B.cA n.lk 0,C.cA (n.us.set 0 (.nd bb)) (0+1)⟩ p5 l5 c5→dH W bj ((fun k m=>nb.join k m) k m) pj lj cj→Calls prog 124 #[.pointer (some ⟨b5,0,none⟩),.int .i64 (0:Int),.pointer (some ⟨bj,0,none⟩)] W fun e w'=>∃ b',e = .returned (.pointer (some ⟨b',0,none⟩))∧mu W ⟨[],n.f,B.cA n.lk 0,C.cA (n.us.set 0 (.nd bb)) (0+1)⟩ 0 bj ((fun k m=>nb.join k m) k m) (.returned (.pointer (some ⟨b',0,none⟩))) w'∧Below W.heap.size W w'):=fun W b5 p5 l5 c5 bj pj lj cj hW h5 hj=>by
    refine (sC A b5 bj _ _ p5 l5 c5 pj lj cj 0 W h5 hj (by show 0<(C.cA _ _).length;rw [iG];have:=HI.out;omega) (by show (C.cA _ _).length=(B.cA _ _).length+1;rw [fV,iG];have:=HI.out;omega) (by show (B.cA _ _).length≤3999;rw [fV];have:=HI.out;omega) (DS BZ.out WN.out.1 (by have:=Hv.out;first | exact this | exact this.symm)) (EZ.out.below hW).zf).mono fun e w' hh=>?_
    rcases hh with ⟨g1,b',p',l',c',rfl,g2,g3⟩ | ⟨g1,a,k,c,ba,bc,pa,la,ca,pc,lc,cc,g2,g3,g4,b',p',l',c',rfl,g5,g6⟩
    ·exact ⟨b',rfl,.inl ⟨g1,b',p',l',c',rfl,g2,g3⟩,g3⟩
    ·exact ⟨b',rfl,.inr ⟨g1,a,k,c,ba,bc,pa,la,ca,pc,lc,cc,g2,g3,g4,b',p',l',c',rfl,g5,g6⟩,g6⟩
   clear B6 ZK pC mf zo fV iG;go_wp2_with fail;refine Mr.out.mono ?_
   rintro e w3' ⟨rfl,rfl⟩;go_wp2_with fail;refine MS.out.mono ?_
   rintro e w3' ⟨rfl,rfl⟩;clear Mr MS;cases bk
   all_goals
    go_wp2_with fail;refine HJ.out.mono ?_
    rintro e w4 ⟨bj,pj,lj,cj,rfl,hj,gj⟩;have HJ4:=ab hj;have iU:=ab gj;clear hj gj cK2 p2;go_wp2_with fail;refine (HWO.out w4 iU.out).mono ?_
    rintro e w5 ⟨b5,p5,l5,c5,rfl,h5,mj⟩;have sq:=ab h5;have HJ5:=ab (HJ4.out.below mj);have iW:=ab (Below.next iU.out mj);clear h5 mj;go_wp2_with fail;refine (EY.out w5 b5 p5 l5 c5 bj pj lj cj iW.out sq.out HJ5.out).mono ?_
    rintro e w6 ⟨b',rfl,yR,PF⟩;have b8:Hid (lH S A db F w n 0 0 bb nb y (fun k m=>nb.join k m) (.returned (.tuple #[.pointer (some ⟨b',0,none⟩),.nilIface])) w6∧Dv base A db F d w6∧Mv db F w w6):=⟨.inr ⟨b',w5,m,k,z,bj,pj,lj,cj,rfl,Ft.out.trans (Mv.of iW.out),Fu.out,S.na (cP.of iW.out) Jy.out,Hv.out,HJ5.out,yR⟩,EZ.out.below (Below.next iW.out PF),Ft.out.trans (Mv.of (Below.next iW.out PF))⟩
    clear yR PF;go_wp2;go_ret2;exact b8.out
  ·have hE:S.E:=MR.out.resolve_right fun h=>pQ (h w3 m Jy.out)
   have g8:w3.cell? ⟨8,0,none⟩=some (.iface 360 (.pointer (some (A 8)))):=EZ.out.g 8 (by decide)
   have b8:Hid (∀ k,lH S A db F w n 0 0 bb nb y (fun k m=>nb.join k m) (.returned (.tuple #[.pointer none,.iface 360 (.pointer (some (A 8)))])) (w3.drewN k)∧Dv base A db F d (w3.drewN k)∧Mv db F w (w3.drewN k)):=fun k=>⟨.inl ⟨hE,rfl⟩,EZ.out.below (aA (Below.refl _ _) _),Ft.out.trans (Mv.of (aA (Below.refl _ _) _))⟩
   have Au:decide (nb.us.length=0)=!decide (m.us.length=0):=by
    by_cases h1:m.us.length=0 <;> by_cases h2:nb.us.length=0 <;> simp_all
   rw [Au] at Mr;generalize decide (m.us.length=0)=bk at *;clear pQ Au hE;go_wp2_with fail;refine Mr.out.mono ?_
   rintro e w3' ⟨rfl,rfl⟩;go_wp2_with fail;refine MS.out.mono ?_
   rintro e w3' ⟨rfl,rfl⟩;clear Mr MS;cases bk
   all_goals
    go_wp2_with fail;go_quiet (fail)
    go_wp2;go_ret2;exact b8.out _
theorem CL{base:Nat}{A:Nat→Addr}{db:Nat}{F:Nat→Prop}{d:S.V.bq}{X:Type}(S:Sys d X)(tb:Nat)(rv:Value)(b bb:Nat)(n nb:SN)(pv lv cv pb lb cb:Value)(j:Nat)(y:X)(p:C.Ch)(w:World)(h:dH w b n pv lv cv)(hb:dH w bb nb pb lb cb)(hi:(j+1)<n.us.length)(hlen:n.us.length=n.lk.length+1)(dW:n.lk.length≤3999)(h1:j<n.lk.length)(gM:nb.yP)(yV:nb.sz<nb.min)(hp:n.us[j]?=some p)(hk:S.K w p y)(ht:B.au w tb #[.pointer (some ⟨db,0,none⟩),rv] 100)(hv:Dv base A db F d w)(D8:S.E∨∀ W m,S.N W m y→(m.us.length=0↔nb.us.length=0)):Calls prog 82 #[.pointer (some ⟨tb,0,none⟩),.agg #[.pointer (some ⟨b,0,none⟩),.int .i64 ((j:Int)+1)],.pointer (some ⟨bb,0,none⟩)] w fun e w'=>lH S A db F w n (j+1) j bb nb y (fun k m=>m.join k nb) e w'∧Dv base A db F d w'∧Mv db F w w':=by
 have q0:=ai w (.cells #[.pointer (some ⟨b,0,none⟩),.int .i64 ((j:Int)+1)] 159);have x0:=B.au.new w #[.pointer (some ⟨b,0,none⟩),.int .i64 ((j:Int)+1)] 159;generalize Cc:w.alloc (.cells #[.pointer (some ⟨b,0,none⟩),.int .i64 ((j:Int)+1)] 159)=W0 at *;have QK:=ab (mL bb nb pb lb cb W0 (hb.below q0));rw [show decide (nb.sz<nb.min)=true by simp [yV]] at QK
 have HH:=ab h;have WU:=ab hb;have HI:Hid ((j+1)<n.us.length∧n.us.length=n.lk.length+1∧n.lk.length≤3999∧j<n.lk.length):=⟨hi,hlen,dW,h1⟩;have BZ:=ab gM;have XJ:=ab yV;have HP:=ab hp;have HK:=ab hk;have HT:=ab ht;have HV:=ab hv;have MR:=ab D8;have HQ:=ab q0;have HX:=ab x0;have TO:Hid (∀ W,Below w.heap.size w W→Calls prog 125 #[.pointer (some ⟨b,0,none⟩),.int .i64 ((j:Int)+1),.iface 152 (.pointer (some ⟨bb,0,none⟩))] W fun e w'=>∃ b2 p2 l2 c2,e = .returned (.pointer (some ⟨b2,0,none⟩))∧dH w' b2 ⟨[],n.f,n.lk,n.us.set (j+1) (.nd bb)⟩ p2 l2 c2∧Below W.heap.size W w'):=fun W hW=>by
  have hh:=mK b n pv lv cv (j+1) (.nd bb) W (h.below hW) hi;rw [show (((j+1):Nat):Int)=((j:Int)+1) by omega] at hh
  exact hh
 clear h hb hi hlen dW h1 gM yV hp hk ht hv D8 q0 x0;go_enter func82,ntmps82;go_wp2_with fail;refine QK.out.mono ?_
 rintro e w1 ⟨rfl,aL⟩;have bP:=ab (Below.next HQ.out aL);have k0:=(HX.out.below aL).c0;have k1:=(HX.out.below aL).c1;have zk:=ab (HX.out.below aL);clear aL QK;go_wp2_with fail;have K7:¬ (0:Int) > (j:Int):=by omega
 go_region_held3 (fun w'=>w'.cell? ⟨w.heap.size,0,none⟩=some (.pointer (some ⟨b,0,none⟩))∧w'.cell? ⟨w.heap.size,1,none⟩=some (.int .i64 ((j:Int)+1))) (go_keep)
  (first
   | (go_at_call 125;refine (TO.out _ (by first | exact bP.out | exact B.aO bP.out)).mono ?_;rintro e w2 ⟨b2,p2,l2,c2,rfl,jm,aU⟩;have ll:=ab jm;have bH:=ab (Below.next (B.aO bP.out) aU);have m0:=(zk.out.below (B.dq aU)).c0;have m1:=(zk.out.below (B.dq aU)).c1;clear jm aU))
 all_goals
  have Jo:=cP.of bH.out;obtain ⟨ca,cc,sg,-,-,bh⟩:=ll.out.kids;rw [C.aS,Nat.mul_one,cx] at sg;subst sg;obtain ⟨g,o,rfl,cI⟩:=bh (j+1) (C.Ch.nd bb).val (by unfold C.a8;rw [aM,List.getElem?_set_self HI.out.1];rfl)
  obtain ⟨g',o',zb,cS⟩:=bh j p.val (by unfold C.a8;rw [aM,List.getElem?_set_ne (by omega),HP.out];rfl)
  cases zb;have TP:=ab (oR S p y tb rv w2 (S.ka Jo HK.out) (dU Jo HT.out) (HV.out.below bH.out));have HPX:=ab (bM p);have p3:=ll.out.c3;have hI1:(j:Int)<(n.us.length:Int):=by have:=HI.out;omega
  have hI2:(j:Int)+1<(n.us.length:Int):=by have:=HI.out;omega
  have hI0:(0:Int)≤(j:Int):=by omega
  have hI4:(n.us.length:Int)≤4000:=by have:=HI.out;omega
  have hI3:(0:Int)≤(j:Int)+1:=by omega
  have zo:Hid (∃ k z,n.lk[j]?=some (k,z)):=⟨_,_,af HI.out.2.2.2⟩;have cI2:w2.cell? ⟨g,o+(j+1),none⟩=some (.iface 152 (.pointer (some ⟨bb,0,none⟩))):=cI;have HCI:=ab cI2;clear cI2;have hwj:max (IntKind.i64.wrap (j:Int)) 0=(j:Int):=by rw [IntKind.wrap_i64];have:=HI.out;omega
  first | rw [hwj] | rw [show (j:Int)+1 - 1=(j:Int) by omega,hwj]
  clear bh Jo k0 k1 m0 m1 zk HX HQ Cc HK HP cI;obtain ⟨pt,px,iS⟩:=HPX.out;rw [iS] at TP cS;clear iS HPX;go_wp2_with fail;refine TP.out.mono ?_
  rintro e w3 ⟨DW,yw,yx⟩;have Rs:=yx.cC (HV.out.below bH.out);have Ft:=ab ((Mv.of bH.out).trans yx);have EZ:=ab yw;have MO:=ab (ll.out.cC Rs);have eG:=ab ((WU.out.below bH.out).cC Rs);have cI3:=bB (Rs.ifc HCI.out) HCI.out;have p33:=MO.out.c3;have Xn:((j:Int)+1).toNat=j+1:=by omega
  have hwp:wrap64 ((j:Int)+1)=(j:Int)+1:=by unfold wrap64;omega
  rcases DW with ⟨hE,rfl⟩ | ⟨bs,m,ps,ls,cs,rfl,yV,lK⟩
  ·have b8:Hid (lH S A db F w n (j+1) j bb nb y (fun k m=>m.join k nb) (qG A) w3∧Dv base A db F d w3∧Mv db F w w3):=⟨.inl ⟨hE,rfl⟩,EZ.out,Ft.out⟩
   unfold qG at b8 ⊢;clear yw yx Rs hE TP p3 cS ll;go_wp2;go_ret2;exact b8.out
  go_wp2_with fail;refine (CS tb bb _).mono ?_
  rintro e w2' ⟨rfl,rfl⟩;have QL:=ab yV;have Jy:=ab lK;have WN:=ab (S.fit lK);have Mr:=ab (cB bs m ps ls cs w3 QL.out);have MS:=ab (cB bb nb pb lb cb w3 eG.out);clear yV lK yw yx Rs;by_cases pQ:m.us.length=0↔nb.us.length=0
  ·have Hv:=ab pQ;have Au:decide (m.us.length=0)=decide (nb.us.length=0):=by
    rw [ke,decide_eq_true_eq,decide_eq_true_eq]
    first | exact pQ | exact pQ.symm
   rw [Au] at Mr;generalize decide (nb.us.length=0)=bk at *;clear pQ Au;obtain ⟨k,z,mf⟩:=zo.out;have Fu:=ab mf;have pC:cQ k:=HH.out.fine.2.2.1 _ (cG mf);obtain ⟨la2,lc2,pD,-,-,B6⟩:=MO.out.a8;subst pD;have PJ:j<n.lk.length:=HI.out.2.2.2;obtain ⟨g2,o2,rfl,cK,-⟩:=B6 j PJ;have ZK:n.lk[j]=(k,z):=by
    have:=af PJ;rw [mf] at this;exact (Option.some.inj this).symm
   rw [show (⟨[],n.f,n.lk,n.us.set (j+1) (.nd bb)⟩ : SN).lk[j]=(k,z) from ZK] at cK
   have cK2:w3.cell? ⟨g2,o2+j*2,none⟩=some (.string k):=by simpa using cK
   have p2:=MO.out.c2;clear cK;have Cd:(j:Int)<(n.lk.length:Int):=by omega
   have HJ:=ab (zZ bs bb m nb ps ls cs pb lb cb k w3 QL.out eG.out WN.out.1 BZ.out WN.out.2.1 (by have:=XJ.out;unfold SN.min at this;split at this <;> omega) (by have:=Hv.out;first | exact this | exact this.symm) pC)
   have HWO:Hid (∀ W,Below w3.heap.size w3 W→Calls prog 127 #[.pointer (some ⟨b2,0,none⟩),.int .i64 (j:Int)] W fun e w'=>Ru W ⟨[],n.f,B.cA n.lk j,C.cA (n.us.set (j+1) (.nd bb)) (j+1)⟩ e w'):=fun W hW=>vL A b2 _ _ _ _ j W (MO.out.below hW) PJ (by show (n.us.set (j+1) _).length=n.lk.length+1;rw [cx];exact HI.out.2.1) (EZ.out.below hW).zf
   have fV:(B.cA n.lk j).length=n.lk.length - 1:=by unfold B.cA;rw [ae,ag,ao];omega
   have iG:(C.cA (n.us.set (j+1) (.nd bb)) (j+1)).length=n.us.length - 1:=by unfold C.cA;rw [ae,ag,ao,cx];have:=HI.out;omega
   have EY:Hid (∀ W b5 p5 l5 c5 bj pj lj cj,Below w3.heap.size w3 W→dH W b5 ⟨[],n.f,B.cA n.lk j,C.cA (n.us.set (j+1) (.nd bb)) (j+1)⟩ p5 l5 c5→dH W bj ((fun k m=>m.join k nb) k m) pj lj cj→Calls prog 124 #[.pointer (some ⟨b5,0,none⟩),.int .i64 (j:Int),.pointer (some ⟨bj,0,none⟩)] W fun e w'=>∃ b',e = .returned (.pointer (some ⟨b',0,none⟩))∧mu W ⟨[],n.f,B.cA n.lk j,C.cA (n.us.set (j+1) (.nd bb)) (j+1)⟩ j bj ((fun k m=>m.join k nb) k m) (.returned (.pointer (some ⟨b',0,none⟩))) w'∧Below W.heap.size W w'):=fun W b5 p5 l5 c5 bj pj lj cj hW h5 hj=>by
    refine (sC A b5 bj _ _ p5 l5 c5 pj lj cj j W h5 hj (by show j<(C.cA _ _).length;rw [iG];have:=HI.out;omega) (by show (C.cA _ _).length=(B.cA _ _).length+1;rw [fV,iG];have:=HI.out;omega) (by show (B.cA _ _).length≤3999;rw [fV];have:=HI.out;omega) (DS WN.out.1 BZ.out (by have:=Hv.out;first | exact this | exact this.symm)) (EZ.out.below hW).zf).mono fun e w' hh=>?_
    rcases hh with ⟨g1,b',p',l',c',rfl,g2,g3⟩ | ⟨g1,a,k,c,ba,bc,pa,la,ca,pc,lc,cc,g2,g3,g4,b',p',l',c',rfl,g5,g6⟩
    ·exact ⟨b',rfl,.inl ⟨g1,b',p',l',c',rfl,g2,g3⟩,g3⟩
    ·exact ⟨b',rfl,.inr ⟨g1,a,k,c,ba,bc,pa,la,ca,pc,lc,cc,g2,g3,g4,b',p',l',c',rfl,g5,g6⟩,g6⟩
   clear B6 ZK pC mf zo fV iG;go_wp2_with fail;refine Mr.out.mono ?_
   rintro e w3' ⟨rfl,rfl⟩;go_wp2_with fail;refine MS.out.mono ?_
   rintro e w3' ⟨rfl,rfl⟩;clear Mr MS;cases bk
   all_goals
    go_wp2_with fail;refine HJ.out.mono ?_
    rintro e w4 ⟨bj,pj,lj,cj,rfl,hj,gj⟩;have HJ4:=ab hj;have iU:=ab gj;clear hj gj cK2 p2;go_wp2_with fail;refine (HWO.out w4 iU.out).mono ?_
    rintro e w5 ⟨b5,p5,l5,c5,rfl,h5,mj⟩;have sq:=ab h5;have HJ5:=ab (HJ4.out.below mj);have iW:=ab (Below.next iU.out mj);clear h5 mj;go_wp2_with fail;refine (EY.out w5 b5 p5 l5 c5 bj pj lj cj iW.out sq.out HJ5.out).mono ?_
    rintro e w6 ⟨b',rfl,yR,PF⟩;have b8:Hid (lH S A db F w n (j+1) j bb nb y (fun k m=>m.join k nb) (.returned (.tuple #[.pointer (some ⟨b',0,none⟩),.nilIface])) w6∧Dv base A db F d w6∧Mv db F w w6):=⟨.inr ⟨b',w5,m,k,z,bj,pj,lj,cj,rfl,Ft.out.trans (Mv.of iW.out),Fu.out,S.na (cP.of iW.out) Jy.out,Hv.out,HJ5.out,yR⟩,EZ.out.below (Below.next iW.out PF),Ft.out.trans (Mv.of (Below.next iW.out PF))⟩
    clear yR PF;go_wp2;go_ret2;exact b8.out
  ·have hE:S.E:=MR.out.resolve_right fun h=>pQ (h w3 m Jy.out)
   have g8:w3.cell? ⟨8,0,none⟩=some (.iface 360 (.pointer (some (A 8)))):=EZ.out.g 8 (by decide)
   have b8:Hid (∀ k,lH S A db F w n (j+1) j bb nb y (fun k m=>m.join k nb) (.returned (.tuple #[.pointer none,.iface 360 (.pointer (some (A 8)))])) (w3.drewN k)∧Dv base A db F d (w3.drewN k)∧Mv db F w (w3.drewN k)):=fun k=>⟨.inl ⟨hE,rfl⟩,EZ.out.below (aA (Below.refl _ _) _),Ft.out.trans (Mv.of (aA (Below.refl _ _) _))⟩
   have Au:decide (m.us.length=0)=!decide (nb.us.length=0):=by
    by_cases h1:m.us.length=0 <;> by_cases h2:nb.us.length=0 <;> simp_all
   rw [Au] at Mr;generalize decide (nb.us.length=0)=bk at *;clear pQ Au hE;go_wp2_with fail;refine Mr.out.mono ?_
   rintro e w3' ⟨rfl,rfl⟩;go_wp2_with fail;refine MS.out.mono ?_
   rintro e w3' ⟨rfl,rfl⟩;clear Mr MS;cases bk
   all_goals
    go_wp2_with fail;go_quiet (fail)
    go_wp2;go_ret2;exact b8.out _
theorem Way.M9{d:S.V.bq}{X:Type}{S:Sys d X}{Pk:SN→Nat→Prop}{w:World}:∀ {t:List (gz X)} {x z:X} {s:gz X},Way S Pk w x (t++[s]) z→Way S Pk w x t s.x∧Rt S w s∧¬ s.n.us.length=0∧Pk s.n s.at'∧s.at'<s.n.us.length∧S.sub s.x s.at' z
 | [],_,_,_,⟨h1,h2,h3,h4,h5,z,h6,h7⟩=>by
  have h7:z=_:=h7;subst h7;exact ⟨h1.symm,h2,h3,h4,h5,h1▸h6⟩
 | _::_,_,_,_,⟨h1,h2,h3,h4,h5,z,h6,h7⟩=>by
  obtain ⟨g1,g2⟩:=Way.M9 h7;exact ⟨⟨h1,h2,h3,h4,h5,z,h6,g1⟩,g2⟩
def UpS{d:S.V.bq}{X:Type}(S:Sys d X)(A:Nat→Addr)(Fl:World→SN→X→Prop)(x:X)(e:Ending)(w':World):Prop :=
 (S.E∧e=qG A)∨∃ b' n' pv lv cv,e = .returned (.tuple #[.pointer (some ⟨b',0,none⟩),.nilIface])∧dH w' b' n' pv lv cv∧Fl w' n' x
theorem xX{base:Nat}{A:Nat→Addr}{db:Nat}{F:Nat→Prop}{d:S.V.bq}{X:Type}(S:Sys d X)(Pk:SN→Nat→Prop)(Fl:World→SN→X→Prop)(hfk:∀ W n x,Fl W n x→n.yP)(tb:Nat)(rv:Value)(a:Option Addr)(c:Nat)(l:List W.Lk)(ss:List (gz X))(x y:X)(pv:Value)(ps:List Pr)(w0 w:World)(hL:l=[]∧ss=[]∨∃ q,l=ss.map gz.lk++[q])(dC:ss.length≤64)(ho:tv w w0.heap.size (.slice a l.length c) l)(jf:Way S Pk w x ss y)(hp:gG w pv ps)(Xr:(∀ p ∈ ps,cO p=true)∧ps.length≤4000)(iH:∀ W,Fl W ⟨ps,0,[],[]⟩ y)(ht:B.au w tb #[.pointer (some ⟨db,0,none⟩),rv] 100)(hv:Dv base A db F d w)(iF:Dv base A db F d w0)(hm:Mv db F w0 w)(yW:∀ (W:World) (s:gz X) (z:X) (bb:Nat) (nb:SN) (pb lb cb:Value),Dv base A db F d W→B.au W tb #[.pointer (some ⟨db,0,none⟩),rv] 100→Rt S W s→¬ s.n.us.length=0→Pk s.n s.at'→s.at'<s.n.us.length→S.sub s.x s.at' z→dH W bb nb pb lb cb→Fl W nb z→Calls prog 82 #[.pointer (some ⟨tb,0,none⟩),.agg #[.pointer (some ⟨s.b,0,none⟩),.int .i64 (s.at':Int)],.pointer (some ⟨bb,0,none⟩)] W fun e w'=>UpS S A Fl s.x e w'∧Dv base A db F d w'∧Mv db F W w'):Calls prog 47 #[.pointer (some ⟨tb,0,none⟩),.slice a l.length c,pv] w fun e w'=>(S.E∧e = .returned (.iface 360 (.pointer (some (A 8))))∧Dv base A db F d w'∧Mv db F w0 w'∧B.au w' tb #[.pointer (some ⟨db,0,none⟩),rv] 100)∨∃ (W W2:World) (b:Nat) (n:SN) (pn ln cn u:Value),e = .returned .nilIface∧dH W b n pn ln cn∧Fl W n x∧oI W b n (.returned u) W2∧Dv base A db F d W2∧Mv db F w0 W2∧B.au W2 tb #[.pointer (some ⟨db,0,none⟩),rv] 100∧w'=W2.setCell ⟨tb,1,none⟩ u:=by
 obtain ⟨xa,xc,Bo⟩:=hp.form;subst Bo;obtain ⟨P,hP⟩ : ∃ P,P=ps.length:=⟨_,rfl⟩;obtain ⟨L,Je⟩ : ∃ L,L=l.length:=⟨_,rfl⟩;rw [← hP] at hp ⊢;rw [← Je] at ho ⊢;have q0:=ai w (.cells #[.slice xa P xc,.int .i64 0,.slice none 0 0,.slice none 0 0] 155);have xr:=B.au.new w #[.slice xa P xc,.int .i64 0,.slice none 0 0,.slice none 0 0] 155;have HR:Hid (dH (w.alloc (.cells #[.slice xa P xc,.int .i64 0,.slice none 0 0,.slice none 0 0] 155)) w.heap.size ⟨ps,0,[],[]⟩ (.slice xa P xc) (.slice none 0 0) (.slice none 0 0)):=⟨xr,hp.below q0,B.di.nil _,(C.b6.nil _ 0).at,Xr.1,Xr.2,(fun p hp=>by simp at hp),by simp,by simp⟩
 have hlen:((L:Int) - 2=(ss.length:Int) - 1∧L=ss.length+1)∨(L=0∧ss=[]):=by
  rcases hL with ⟨h1,h2⟩ | ⟨q,h1⟩
  ·right;rw [Je,h1];exact ⟨rfl,h2⟩
  ·left;rw [Je,h1,ae,az];exact ⟨by simp;omega,by simp⟩
 have kH:=ab hlen;have mI:=ab dC;have HL:=ab hL;have HO:=ab (ho.below q0);have HW:=ab (jf.cC (cP.of q0));have HT:=ab (ht.below q0);have HV:=ab (hv.below q0);have QJ:=ab iF;have HM:=ab (hm.trans (Mv.of q0));have MT:=ab iH;have ir:=ab yW;have WY:=ab hfk;have yq:=ab Je;have hLs:(L:Int)≤65:=by
  rcases hlen with ⟨_,h⟩ | ⟨h,_⟩ <;> omega
 have Z9:(0:Int)≤(L:Int):=by omega
 clear hL dC ho jf hp Xr iH ht hv iF hm yW hfk Je hP q0 xr hlen;go_enter func47,ntmps47;go_wp2;go_loopw [7,8] (fun nv iv wr=>∃ (s1 s2:List (gz X)) (z:X) (bb:Nat) (nb:SN) (pb lb cb:Value) (i:Int),nv = .pointer (some ⟨bb,0,none⟩)∧iv = .int .i64 i∧ss=s1++s2∧(i=(s1.length:Int) - 1∨i = -2∧ss=[])∧Way S Pk wr x s1 z∧dH wr bb nb pb lb cb∧Fl wr nb z∧tv wr w0.heap.size (.slice a L c) l∧Dv base A db F d wr∧Mv db F w0 wr∧B.au wr tb #[.pointer (some ⟨db,0,none⟩),rv] 100) (fun _ iv _=>(intOf iv+1).toNat)
 case atStart =>
  refine ⟨ss,[],y,_,_,_,_,_,(L:Int) - 2,rfl,rfl,by simp,?_,HW.out,HR.out,MT.out _,HO.out,HV.out,HM.out,HT.out⟩
  rcases kH.out with ⟨h,_⟩ | ⟨h1,h2⟩
  ·exact .inl h
  ·right;subst h1;exact ⟨by omega,h2⟩
 case round =>
  obtain ⟨s1,s2,z,bb,nb,pb,lb,cb,i,rfl,rfl,Fc,hi,jf,hs,iH,ho,hv,hm,ht⟩:=hrel;clear HW HR HO HV HM HT;rcases List.eq_nil_or_concat s1 with rfl | ⟨t,s,rfl⟩
  ·have yy:¬ (0:Int)≤i:=by
    rcases hi with h | ⟨h,_⟩
    ·simp at h;omega
    ·omega
   have hz:x=z:=jf;subst hz;have XL:=ab (FT A bb nb pb lb cb wr hs (WY.out _ _ _ iH) hv.zf);have HS:=ab hs;have HF:=ab iH;have tE:=ab hv;have QR:=ab hm;have Hs:=ab ht;clear Fc hi jf hs iH ho hv hm ht;go_wp2_with fail;refine XL.out.mono ?_
   rintro e w2 Xo;have aU:=Xo.1;obtain ⟨u,hu,GF⟩ : ∃ u,e = .returned u∧(u = .nilIface∨∃ t x,u = .iface t x):=by
    rcases Xo.2 with ⟨_,_,_,_,_,_,_,_,_,_,_,_,_,_,_,_,_,_,_,h,_⟩ | ⟨_,_,_,p,_,h⟩ | ⟨_,_,_,h⟩ | ⟨_,_,h⟩
    ·exact ⟨_,h,.inr (bM _)⟩
    ·exact ⟨_,h,.inr (bM _)⟩
    ·exact ⟨_,h,.inl rfl⟩
    ·exact ⟨_,h,.inr (bM _)⟩
   subst hu;have sX:=Hs.out.below aU;have k1:=sX.c1;have k2:=sX.free 1;have b8:Hid (dH wr bb nb pb lb cb∧Fl wr nb x∧oI wr bb nb (.returned u) w2∧Dv base A db F d w2∧Mv db F w0 w2∧B.au w2 tb #[.pointer (some ⟨db,0,none⟩),rv] 100):=⟨HS.out,HF.out,Xo,tE.out.below aU,QR.out.trans (Mv.of aU),sX⟩;clear Xo aU sX XL;rcases GF with rfl | ⟨ut,ux,rfl⟩
   ·go_wp2;go_ret;exact .inr ⟨wr,w2,bb,nb,pb,lb,cb,_,rfl,b8.out.1,b8.out.2.1,b8.out.2.2.1,b8.out.2.2.2.1,b8.out.2.2.2.2.1,b8.out.2.2.2.2.2,rfl⟩
   ·go_wp2;go_ret;exact .inr ⟨wr,w2,bb,nb,pb,lb,cb,_,rfl,b8.out.1,b8.out.2.1,b8.out.2.2.1,b8.out.2.2.2.1,b8.out.2.2.2.2.1,b8.out.2.2.2.2.2,rfl⟩
  ·have hii:i=(t.length:Int):=by
    rcases hi with h | ⟨_,h⟩
    ·rw [List.concat_eq_append,ae] at h;simp at h;omega
    ·rw [h] at Fc;have:=congrArg List.length Fc;simp at this
   subst hii;rw [List.concat_eq_append] at jf Fc;obtain ⟨vw,cN,xD,B3,bN,oy⟩:=jf.M9;have hq:l[t.length]?=some s.lk∧t.length<L:=by
    rcases HL.out with ⟨_,h2⟩ | ⟨q,h1⟩
    ·rw [h2] at Fc;have:=congrArg List.length Fc;simp at this
    ·refine ⟨?_,?_⟩
     ·rw [h1,Fc];simp
     ·rw [yq.out,h1,Fc];simp
   have hr:=ho.1.at;have yT:t.length<l.length:=by rw [← yq.out];exact hq.2
   have mf:l[t.length]=s.lk:=by
    have:=af yT;rw [hq.1] at this;exact (Option.some.inj this).symm
   obtain ⟨g,o,rfl,c1,c2⟩:=W.di.spot hr t.length yT;rw [mf] at c1 c2;have UQ:wr.cell? ⟨g,o+t.length*2,none⟩=some (.pointer (some ⟨s.b,0,none⟩)):=c1;have Ww:wr.cell? ⟨g,o+t.length*2+1,none⟩=some (.int .i64 (s.at':Int)):=c2;have QW:=ab (ir.out wr s z bb nb pb lb cb hv ht cN xD B3 bN oy hs iH);have yy:(0:Int)≤(t.length:Int):=by omega
   have B8:(t.length:Int)<(L:Int):=by omega
   have qP:=ab ho;have tE:=ab hv;have QR:=ab hm;have Hs:=ab ht;have zl:=ab vw;have Rv:=ab Fc;clear Fc hi jf hs iH ho hv hm ht cN xD B3 bN oy hq hr yT mf c1 c2 vw;go_wp2_with fail;refine QW.out.mono ?_
   rintro e w1 ⟨Un,fI,fK⟩;have aw:=fK.cC tE.out;have AM:=ab (dU aw Hs.out);have yp:=ab (QR.out.trans fK);have tD:=ab fI;rcases Un with ⟨hE,rfl⟩ | ⟨b',n',FX,Sp,cv',rfl,Ur,hf'⟩
   ·have b8:Hid (S.E∧Dv base A db F d w1∧Mv db F w0 w1∧B.au w1 tb #[.pointer (some ⟨db,0,none⟩),rv] 100):=⟨hE,tD.out,yp.out,AM.out⟩;unfold qG;clear hE fI fK aw QW UQ Ww;go_wp2;go_ret;exact .inl ⟨b8.out.1,rfl,b8.out.2⟩
   ·have TQ:Hid (∃ (s1 s2:List (gz X)) (z:X) (bb:Nat) (nb:SN) (pb lb cb:Value) (i:Int),(.pointer (some ⟨b',0,none⟩):Value) = .pointer (some ⟨bb,0,none⟩)∧(.int .i64 ((t.length:Int) - 1):Value) = .int .i64 i∧ss=s1++s2∧(i=(s1.length:Int) - 1∨i = -2∧ss=[])∧Way S Pk w1 x s1 z∧dH w1 bb nb pb lb cb∧Fl w1 nb z∧tv w1 w0.heap.size (.slice (some ⟨g,o,none⟩) L c) l∧Dv base A db F d w1∧Mv db F w0 w1∧B.au w1 tb #[.pointer (some ⟨db,0,none⟩),rv] 100):=⟨t,s::s2,s.x,b',n',FX,Sp,cv',_,rfl,rfl,by rw [Rv.out];simp,.inl rfl,zl.out.cC aw,Ur,hf',qP.out.mv fK QJ.out.Ha,tD.out,yp.out,AM.out⟩
    clear fI fK aw QW UQ Ww Ur hf';go_wp2;go_roundw
    case rel=>exact TQ.out
    case measure=>simp [intOf]
def Mz(w:World):Nat→C.Ch→Prop
 | _,.pg _=>True
 | 0,.nd _=>False
 | k+1,.nd b=>∃ n pv lv cv,dH w b n pv lv cv∧Fit n∧∀ p ∈ n.us,Mz w k p
theorem Mz.cC{w w':World}(ha:cP w w'):∀ {k:Nat} {p:C.Ch},Mz w k p→Mz w' k p
 | 0,.pg _,_=>trivial
 | _+1,.pg _,_=>trivial
 | _+1,.nd _,⟨n,pv,lv,cv,h1,h2,h3⟩=>⟨n,pv,lv,cv,h1.cC ha,h2,fun p hp=>Mz.cC ha (h3 p hp)⟩
def Any(w:World)(p:C.Ch):Prop:=∃ k,Mz w k p
theorem Any.cC{w w':World}{p:C.Ch}(h:Any w p)(ha:cP w w'):Any w' p:=by
 obtain ⟨k,h⟩:=h;exact ⟨k,h.cC ha⟩
theorem Any.pg(w:World)(id:Int):Any w (.pg id):=⟨0,trivial⟩
theorem SN.Uc{n:SN}(h:¬ n.us.length=0):n.sz=B.jM n.lk:=by unfold SN.sz;rw [if_neg h]
theorem mu.below{w:World}{n:SN}{i bb:Nat}{nb:SN}{e:Ending}{w':World}(h:mu w n i bb nb e w'):Below w.heap.size w w':=by
 rcases h with ⟨_,_,_,_,_,_,_,h⟩ | ⟨_,_,_,_,_,_,_,_,_,_,_,_,_,_,_,_,_,_,_,_,_,h⟩
 ·exact h
 ·exact h
end T
end Go.Proofs.YtihmgigfkmofnaaGreatDoor
