import Derived.Test.YtihmgigfkmofnaaGreatDoorTDown
set_option maxHeartbeats 8000000
set_option maxRecDepth 100000
open Go.Proofs.Tryz
namespace Go.Proofs.YtihmgigfkmofnaaGreatDoor
namespace T
open Go.RowKit
theorem Df(tb bb:Nat)(w:World):Calls prog 104 #[.pointer (some ⟨tb,0,none⟩),.iface 152 (.pointer (some ⟨bb,0,none⟩))] w fun e w'=>e = .returned (.tuple #[.pointer (some ⟨bb,0,none⟩),.nilIface])∧w=w':=by
 have a1:=fun W=>Jz (.pointer (some ⟨bb,0,none⟩)) W
 have a2:=fun W=>QN (.pointer (some ⟨bb,0,none⟩)) W
 go_enter func104,ntmps104;go_wp2;go_ret2;exact ⟨rfl,rfl⟩
theorem Au(ba bb:Nat)(na nb:SN)(pa la ca pb lb cb:Value)(key:ByteArray)(w:World)(ha:dG w ba na pa la ca)(hb:dG w bb nb pb lb cb)(Xv:na.zn)(V2:nb.zn)(YI:na.sz≤4072)(hsb:nb.sz≤4072)(hs:na.us.length=0↔nb.us.length=0)(hk:cW key):Calls prog 126 #[.pointer (some ⟨ba,0,none⟩),.string key,.pointer (some ⟨bb,0,none⟩)] w fun e w'=>RF w (na.join key nb) e w':=by
 unfold SN.join;unfold SN.sz at YI hsb;by_cases h0:na.us.length=0
 ·rw [if_pos h0] at YI;rw [if_pos (hs.1 h0)] at hsb;rw [if_pos h0];have:=iM na.ps;have:=iM nb.ps;exact K7 ba bb na nb pa la ca pb lb cb key w ha hb h0 (by omega)
 ·rw [if_neg h0] at YI;rw [if_neg (fun h=>h0 (hs.2 h))] at hsb
  rw [if_neg h0];have:=B.rz na.lk;have:=B.rz nb.lk;have e1:=Xv.resolve_left h0;have e2:=V2.resolve_left (fun h=>h0 (hs.2 h))
  exact SL ba bb na nb pa la ca pb lb cb key w ha hb h0 (by omega) (by omega) hk
theorem Ed{na nb:SN}{key:ByteArray}(Xv:na.zn)(V2:nb.zn)(hs:na.us.length=0↔nb.us.length=0):(na.join key nb).zn:=by
 unfold SN.join;by_cases h0:na.us.length=0
 ·rw [if_pos h0];exact .inl rfl
 ·rw [if_neg h0];have e1:=Xv.resolve_left h0;have e2:=V2.resolve_left (fun h=>h0 (hs.2 h))
  right
  show (na.us++nb.us).length=(B.jc na.lk key nb.f nb.lk).length+1
  unfold B.jc;rw [ae,ae,List.length_cons];omega
def lX{d:S.V.bq}{X:Type}(S:Sys d X)(A:Nat→Addr)(db:Nat)(F:Nat→Prop)(w:World)(n:SN)(i l bb:Nat)(nb:SN)(y:X)(jn:ByteArray→SN→SN)(e:Ending)(w':World):Prop :=
 (S.E∧e=nG A)∨∃ (b':Nat) (w2:World) (m:SN) (k:ByteArray) (z:Int) (bj:Nat) (pj lj cj:Value),e = .returned (.tuple #[.pointer (some ⟨b',0,none⟩),.nilIface])∧Mv db F w w2∧n.lk[l]?=some (k,z)∧S.N w2 m y∧(m.us.length=0↔nb.us.length=0)∧dG w2 bj (jn k m) pj lj cj ∧
  mL w2 ⟨[],n.f,B.cH n.lk l,C.cH (n.us.set i (.nd bb)) (l+1)⟩ l bj (jn k m) (.returned (.pointer (some ⟨b',0,none⟩))) w'
theorem C7{base:Nat}{A:Nat→Addr}{db:Nat}{F:Nat→Prop}{d:S.V.bq}{X:Type}(S:Sys d X)(tb:Nat)(rv:Value)(b bb:Nat)(n nb:SN)(pv lv cv pb lb cb:Value)(y:X)(p:C.Ch)(w:World)(h:dG w b n pv lv cv)(hb:dG w bb nb pb lb cb)(hi:0<n.us.length)(hlen:n.us.length=n.lk.length+1)(dZ:n.lk.length≤3999)(h1:0<n.lk.length)(gT:nb.zn)(zu:nb.sz<nb.min)(hp:n.us[1]?=some p)(hk:S.K w p y)(ht:B.ax w tb #[.pointer (some ⟨db,0,none⟩),rv] 100)(hv:Dv base A db F d w)(Eu:S.E∨∀ W m,S.N W m y→(m.us.length=0↔nb.us.length=0)):Calls prog 82 #[.pointer (some ⟨tb,0,none⟩),.agg #[.pointer (some ⟨b,0,none⟩),.int .i64 0],.pointer (some ⟨bb,0,none⟩)] w fun e w'=>lX S A db F w n 0 0 bb nb y (fun k m=>nb.join k m) e w'∧Dv base A db F d w'∧Mv db F w w':=by
 have q0:=ai w (.cells #[.pointer (some ⟨b,0,none⟩),.int .i64 0] 159);have x0:=B.ax.new w #[.pointer (some ⟨b,0,none⟩),.int .i64 0] 159;generalize Cv:w.alloc (.cells #[.pointer (some ⟨b,0,none⟩),.int .i64 0] 159)=W0 at *;have QX:=ab (nh bb nb pb lb cb W0 (hb.below q0));rw [show decide (nb.sz<nb.min)=true by simp [zu]] at QX
 have HH:=ab h;have WW:=ab hb;have HI:Hid (0<n.us.length∧n.us.length=n.lk.length+1∧n.lk.length≤3999∧0<n.lk.length):=⟨hi,hlen,dZ,h1⟩;have Ci:=ab gT;have XJ:=ab zu;have HP:=ab hp;have HK:=ab hk;have HT:=ab ht;have HV:=ab hv;have MY:=ab Eu;have HQ:=ab q0;have HX:=ab x0;have TY:Hid (∀ W,Below w.heap.size w W→Calls prog 125 #[.pointer (some ⟨b,0,none⟩),.int .i64 0,.iface 152 (.pointer (some ⟨bb,0,none⟩))] W fun e w'=>∃ b2 p2 l2 c2,e = .returned (.pointer (some ⟨b2,0,none⟩))∧dG w' b2 ⟨[],n.f,n.lk,n.us.set 0 (.nd bb)⟩ p2 l2 c2∧Below W.heap.size W w'):=fun W hW=>by
  have hh:=ng b n pv lv cv 0 (.nd bb) W (h.below hW) hi;rw [show ((0:Nat):Int)=0 by omega] at hh
  exact hh
 clear h hb hi hlen dZ h1 gT zu hp hk ht hv Eu q0 x0;go_enter func82,ntmps82;go_wp2_with fail;refine QX.out.mono ?_
 rintro e w1 ⟨rfl,aP⟩;have bQ:=ab (Below.next HQ.out aP);have k0:=(HX.out.below aP).c0;have k1:=(HX.out.below aP).c1;have yJ:=ab (HX.out.below aP);clear aP QX;go_wp2_with fail
 go_region_held3 (fun w'=>w'.cell? ⟨w.heap.size,0,none⟩=some (.pointer (some ⟨b,0,none⟩))∧w'.cell? ⟨w.heap.size,1,none⟩=some (.int .i64 0)) (go_keep)
  (first
   | (go_at_call 125;refine (TY.out _ (by first | exact bQ.out | exact B.aN bQ.out)).mono ?_;rintro e w2 ⟨b2,p2,l2,c2,rfl,jy,aO⟩;have lI:=ab jy;have bJ:=ab (Below.next (B.aN bQ.out) aO);have m0:=(yJ.out.below (B.dw aO)).c0;have m1:=(yJ.out.below (B.dw aO)).c1;clear jy aO))
 all_goals
  have sR:=cM.of bJ.out;obtain ⟨ca,cc,qO,-,-,aX⟩:=lI.out.kids;rw [C.aR,Nat.mul_one,cB] at qO;subst qO;obtain ⟨g,o,rfl,cI⟩:=aX 0 (C.Ch.nd bb).val (by unfold C.bm;rw [aL,List.getElem?_set_self HI.out.1];rfl)
  obtain ⟨g',o',zF,cS⟩:=aX 1 p.val (by unfold C.bm;rw [aL,List.getElem?_set_ne (by omega),HP.out];rfl)
  cases zF;have TZ:=ab (pw S p y tb rv w2 (S.ka sR HK.out) (cG sR HT.out) (HV.out.below bJ.out));have HPX:=ab (bz p);have p3:=lI.out.c3;have hI1:(0:Int)<(n.us.length:Int):=by have:=HI.out;omega
  have hI2:(0:Int)+1<(n.us.length:Int):=by have:=HI.out;omega
  have hI0:(0:Int)≤(0:Int):=by omega
  have hI4:(n.us.length:Int)≤4000:=by have:=HI.out;omega
  have hI3:(0:Int)≤(0:Int)+1:=by omega
  have zQ:Hid (∃ k z,n.lk[0]?=some (k,z)):=⟨_,_,af HI.out.2.2.2⟩;have cI2:w2.cell? ⟨g,o,none⟩=some (.iface 152 (.pointer (some ⟨bb,0,none⟩))):=cI;have HCI:=ab cI2
  rw [show max (IntKind.i64.wrap (-1)) 0=0 by decide]
  clear aX sR k0 k1 m0 m1 yJ HX HQ Cv HK HP cI;obtain ⟨pt,px,gw⟩:=HPX.out;rw [gw] at TZ cS;clear gw HPX;go_wp2_with fail;refine (Df tb bb _).mono ?_
  rintro e w2' ⟨rfl,rfl⟩;go_wp2_with fail;refine TZ.out.mono ?_
  rintro e w3 ⟨zB,yS,yT⟩;have RD:=yT.bU (HV.out.below bJ.out);have FP:=ab ((Mv.of bJ.out).trans yT);have Fk:=ab yS;have MV:=ab (lI.out.bU RD);have dD:=ab ((WW.out.below bJ.out).bU RD);clear cI2;rcases zB with ⟨hE,rfl⟩ | ⟨bs,m,ps,ls,cs,rfl,zu,lZ⟩
  ·have bM:Hid (lX S A db F w n 0 0 bb nb y (fun k m=>nb.join k m) (nG A) w3∧Dv base A db F d w3∧Mv db F w w3):=⟨.inl ⟨hE,rfl⟩,Fk.out,FP.out⟩
   unfold nG at bM ⊢;clear yS yT RD hE TZ p3 cS lI;go_wp2;go_ret2;exact bM.out
  have QY:=ab zu;have JG:=ab lZ;have WO:=ab (S.fit lZ);have My:=ab (ch bb nb pb lb cb w3 dD.out);have MZ:=ab (ch bs m ps ls cs w3 QY.out);clear zu lZ yS yT RD;by_cases vw:m.us.length=0↔nb.us.length=0
  ·have Ib:=ab vw;have AR:decide (nb.us.length=0)=decide (m.us.length=0):=by
    rw [kG,decide_eq_true_eq,decide_eq_true_eq]
    first | exact vw | exact vw.symm
   rw [AR] at My;generalize decide (m.us.length=0)=bk at *;clear vw AR;obtain ⟨k,z,my⟩:=zQ.out;have FQ:=ab my;have pV:cW k:=HH.out.fine.2.2.1 _ (cu my);obtain ⟨la2,lc2,nT,-,-,Cp⟩:=MV.out.bm;subst nT;have PZ:0<n.lk.length:=HI.out.2.2.2;obtain ⟨g2,o2,rfl,cK,-⟩:=Cp 0 PZ;have Zz:n.lk[0]=(k,z):=by
    have:=af PZ;rw [my] at this;exact (Option.some.inj this).symm
   rw [show (⟨[],n.f,n.lk,n.us.set 0 (.nd bb)⟩ : SN).lk[0]=(k,z) from Zz] at cK
   have cK2:w3.cell? ⟨g2,o2,none⟩=some (.string k):=by simpa using cK
   have p2:=MV.out.c2;clear cK;have Cw:(0:Int)<(n.lk.length:Int):=by omega
   have HJ:=ab (Au bb bs nb m pb lb cb ps ls cs k w3 dD.out QY.out Ci.out WO.out.1 (by have:=XJ.out;unfold SN.min at this;split at this <;> omega) WO.out.2.1 (by have:=Ib.out;first | exact this | exact this.symm) pV)
   have HWO:Hid (∀ W,Below w3.heap.size w3 W→Calls prog 127 #[.pointer (some ⟨b2,0,none⟩),.int .i64 (0:Int)] W fun e w'=>RF W ⟨[],n.f,B.cH n.lk 0,C.cH (n.us.set 0 (.nd bb)) (0+1)⟩ e w'):=fun W hW=>wo A b2 _ _ _ _ 0 W (MV.out.below hW) PZ (by show (n.us.set 0 _).length=n.lk.length+1;rw [cB];exact HI.out.2.1) (Fk.out.below hW).zJ
   have fV:(B.cH n.lk 0).length=n.lk.length - 1:=by unfold B.cH;rw [ae,ag,ao];omega
   have iT:(C.cH (n.us.set 0 (.nd bb)) (0+1)).length=n.us.length - 1:=by unfold C.cH;rw [ae,ag,ao,cB];have:=HI.out;omega
   have Cd:Hid (∀ W b5 p5 l5 c5 bj pj lj cj,Below w3.heap.size w3 W→dG W b5 ⟨[],n.f,B.cH n.lk 0,C.cH (n.us.set 0 (.nd bb)) (0+1)⟩ p5 l5 c5→dG W bj ((fun k m=>nb.join k m) k m) pj lj cj→Calls prog 124 #[.pointer (some ⟨b5,0,none⟩),.int .i64 (0:Int),.pointer (some ⟨bj,0,none⟩)] W fun e w'=>∃ b',e = .returned (.pointer (some ⟨b',0,none⟩))∧mL W ⟨[],n.f,B.cH n.lk 0,C.cH (n.us.set 0 (.nd bb)) (0+1)⟩ 0 bj ((fun k m=>nb.join k m) k m) (.returned (.pointer (some ⟨b',0,none⟩))) w'∧Below W.heap.size W w'):=fun W b5 p5 l5 c5 bj pj lj cj hW h5 hj=>by
    refine (s8 A b5 bj _ _ p5 l5 c5 pj lj cj 0 W h5 hj (by show 0<(C.cH _ _).length;rw [iT];have:=HI.out;omega) (by show (C.cH _ _).length=(B.cH _ _).length+1;rw [fV,iT];have:=HI.out;omega) (by show (B.cH _ _).length≤3999;rw [fV];have:=HI.out;omega) (Ed Ci.out WO.out.1 (by have:=Ib.out;first | exact this | exact this.symm)) (Fk.out.below hW).zJ).mono fun e w' hh=>?_
    rcases hh with ⟨g1,b',p',l',c',rfl,g2,g3⟩ | ⟨g1,a,k,c,ba,bc,pa,la,ca,pc,lc,cc,g2,g3,g4,b',p',l',c',rfl,g5,g6⟩
    ·exact ⟨b',rfl,.inl ⟨g1,b',p',l',c',rfl,g2,g3⟩,g3⟩
    ·exact ⟨b',rfl,.inr ⟨g1,a,k,c,ba,bc,pa,la,ca,pc,lc,cc,g2,g3,g4,b',p',l',c',rfl,g5,g6⟩,g6⟩
   clear Cp Zz pV my zQ fV iT;go_wp2_with fail;refine My.out.mono ?_
   rintro e w3' ⟨rfl,rfl⟩;go_wp2_with fail;refine MZ.out.mono ?_
   rintro e w3' ⟨rfl,rfl⟩;clear My MZ;cases bk
   all_goals
    go_wp2_with fail;refine HJ.out.mono ?_
    rintro e w4 ⟨bj,pj,lj,cj,rfl,hj,eO⟩;have HJ4:=ab hj;have gr:=ab eO;clear hj eO cK2 p2;go_wp2_with fail;refine (HWO.out w4 gr.out).mono ?_
    rintro e w5 ⟨b5,p5,l5,c5,rfl,h5,mB⟩;have sW:=ab h5;have HJ5:=ab (HJ4.out.below mB);have jj:=ab (Below.next gr.out mB);clear h5 mB;go_wp2_with fail;refine (Cd.out w5 b5 p5 l5 c5 bj pj lj cj jj.out sW.out HJ5.out).mono ?_
    rintro e w6 ⟨b',rfl,zp,PU⟩;have bM:Hid (lX S A db F w n 0 0 bb nb y (fun k m=>nb.join k m) (.returned (.tuple #[.pointer (some ⟨b',0,none⟩),.nilIface])) w6∧Dv base A db F d w6∧Mv db F w w6):=⟨.inr ⟨b',w5,m,k,z,bj,pj,lj,cj,rfl,FP.out.trans (Mv.of jj.out),FQ.out,S.na (cM.of jj.out) JG.out,Ib.out,HJ5.out,zp⟩,Fk.out.below (Below.next jj.out PU),FP.out.trans (Mv.of (Below.next jj.out PU))⟩
    clear zp PU;go_wp2;go_ret2;exact bM.out
  ·have hE:S.E:=MY.out.resolve_right fun h=>vw (h w3 m JG.out)
   have g8:w3.cell? ⟨8,0,none⟩=some (.iface 360 (.pointer (some (A 8)))):=Fk.out.g 8 (by decide)
   have bM:Hid (∀ k,lX S A db F w n 0 0 bb nb y (fun k m=>nb.join k m) (.returned (.tuple #[.pointer none,.iface 360 (.pointer (some (A 8)))])) (w3.drewN k)∧Dv base A db F d (w3.drewN k)∧Mv db F w (w3.drewN k)):=fun k=>⟨.inl ⟨hE,rfl⟩,Fk.out.below (aB (Below.refl _ _) _),FP.out.trans (Mv.of (aB (Below.refl _ _) _))⟩
   have AR:decide (nb.us.length=0)=!decide (m.us.length=0):=by
    by_cases h1:m.us.length=0 <;> by_cases h2:nb.us.length=0 <;> simp_all
   rw [AR] at My;generalize decide (m.us.length=0)=bk at *;clear vw AR hE;go_wp2_with fail;refine My.out.mono ?_
   rintro e w3' ⟨rfl,rfl⟩;go_wp2_with fail;refine MZ.out.mono ?_
   rintro e w3' ⟨rfl,rfl⟩;clear My MZ;cases bk
   all_goals
    go_wp2_with fail;go_quiet (fail)
    go_wp2;go_ret2;exact bM.out _
theorem C8{base:Nat}{A:Nat→Addr}{db:Nat}{F:Nat→Prop}{d:S.V.bq}{X:Type}(S:Sys d X)(tb:Nat)(rv:Value)(b bb:Nat)(n nb:SN)(pv lv cv pb lb cb:Value)(j:Nat)(y:X)(p:C.Ch)(w:World)(h:dG w b n pv lv cv)(hb:dG w bb nb pb lb cb)(hi:(j+1)<n.us.length)(hlen:n.us.length=n.lk.length+1)(dZ:n.lk.length≤3999)(h1:j<n.lk.length)(gT:nb.zn)(zu:nb.sz<nb.min)(hp:n.us[j]?=some p)(hk:S.K w p y)(ht:B.ax w tb #[.pointer (some ⟨db,0,none⟩),rv] 100)(hv:Dv base A db F d w)(Eu:S.E∨∀ W m,S.N W m y→(m.us.length=0↔nb.us.length=0)):Calls prog 82 #[.pointer (some ⟨tb,0,none⟩),.agg #[.pointer (some ⟨b,0,none⟩),.int .i64 ((j:Int)+1)],.pointer (some ⟨bb,0,none⟩)] w fun e w'=>lX S A db F w n (j+1) j bb nb y (fun k m=>m.join k nb) e w'∧Dv base A db F d w'∧Mv db F w w':=by
 have q0:=ai w (.cells #[.pointer (some ⟨b,0,none⟩),.int .i64 ((j:Int)+1)] 159);have x0:=B.ax.new w #[.pointer (some ⟨b,0,none⟩),.int .i64 ((j:Int)+1)] 159;generalize Cv:w.alloc (.cells #[.pointer (some ⟨b,0,none⟩),.int .i64 ((j:Int)+1)] 159)=W0 at *;have QX:=ab (nh bb nb pb lb cb W0 (hb.below q0));rw [show decide (nb.sz<nb.min)=true by simp [zu]] at QX
 have HH:=ab h;have WW:=ab hb;have HI:Hid ((j+1)<n.us.length∧n.us.length=n.lk.length+1∧n.lk.length≤3999∧j<n.lk.length):=⟨hi,hlen,dZ,h1⟩;have Ci:=ab gT;have XJ:=ab zu;have HP:=ab hp;have HK:=ab hk;have HT:=ab ht;have HV:=ab hv;have MY:=ab Eu;have HQ:=ab q0;have HX:=ab x0;have TY:Hid (∀ W,Below w.heap.size w W→Calls prog 125 #[.pointer (some ⟨b,0,none⟩),.int .i64 ((j:Int)+1),.iface 152 (.pointer (some ⟨bb,0,none⟩))] W fun e w'=>∃ b2 p2 l2 c2,e = .returned (.pointer (some ⟨b2,0,none⟩))∧dG w' b2 ⟨[],n.f,n.lk,n.us.set (j+1) (.nd bb)⟩ p2 l2 c2∧Below W.heap.size W w'):=fun W hW=>by
  have hh:=ng b n pv lv cv (j+1) (.nd bb) W (h.below hW) hi;rw [show (((j+1):Nat):Int)=((j:Int)+1) by omega] at hh
  exact hh
 clear h hb hi hlen dZ h1 gT zu hp hk ht hv Eu q0 x0;go_enter func82,ntmps82;go_wp2_with fail;refine QX.out.mono ?_
 rintro e w1 ⟨rfl,aP⟩;have bQ:=ab (Below.next HQ.out aP);have k0:=(HX.out.below aP).c0;have k1:=(HX.out.below aP).c1;have yJ:=ab (HX.out.below aP);clear aP QX;go_wp2_with fail;have Lg:¬ (0:Int) > (j:Int):=by omega
 go_region_held3 (fun w'=>w'.cell? ⟨w.heap.size,0,none⟩=some (.pointer (some ⟨b,0,none⟩))∧w'.cell? ⟨w.heap.size,1,none⟩=some (.int .i64 ((j:Int)+1))) (go_keep)
  (first
   | (go_at_call 125;refine (TY.out _ (by first | exact bQ.out | exact B.aN bQ.out)).mono ?_;rintro e w2 ⟨b2,p2,l2,c2,rfl,jy,aO⟩;have lI:=ab jy;have bJ:=ab (Below.next (B.aN bQ.out) aO);have m0:=(yJ.out.below (B.dw aO)).c0;have m1:=(yJ.out.below (B.dw aO)).c1;clear jy aO))
 all_goals
  have sR:=cM.of bJ.out;obtain ⟨ca,cc,qO,-,-,aX⟩:=lI.out.kids;rw [C.aR,Nat.mul_one,cB] at qO;subst qO;obtain ⟨g,o,rfl,cI⟩:=aX (j+1) (C.Ch.nd bb).val (by unfold C.bm;rw [aL,List.getElem?_set_self HI.out.1];rfl)
  obtain ⟨g',o',zF,cS⟩:=aX j p.val (by unfold C.bm;rw [aL,List.getElem?_set_ne (by omega),HP.out];rfl)
  cases zF;have TZ:=ab (pw S p y tb rv w2 (S.ka sR HK.out) (cG sR HT.out) (HV.out.below bJ.out));have HPX:=ab (bz p);have p3:=lI.out.c3;have hI1:(j:Int)<(n.us.length:Int):=by have:=HI.out;omega
  have hI2:(j:Int)+1<(n.us.length:Int):=by have:=HI.out;omega
  have hI0:(0:Int)≤(j:Int):=by omega
  have hI4:(n.us.length:Int)≤4000:=by have:=HI.out;omega
  have hI3:(0:Int)≤(j:Int)+1:=by omega
  have zQ:Hid (∃ k z,n.lk[j]?=some (k,z)):=⟨_,_,af HI.out.2.2.2⟩;have cI2:w2.cell? ⟨g,o+(j+1),none⟩=some (.iface 152 (.pointer (some ⟨bb,0,none⟩))):=cI;have HCI:=ab cI2;clear cI2;have hwj:max (IntKind.i64.wrap (j:Int)) 0=(j:Int):=by rw [IntKind.wrap_i64];have:=HI.out;omega
  first | rw [hwj] | rw [show (j:Int)+1 - 1=(j:Int) by omega,hwj]
  clear aX sR k0 k1 m0 m1 yJ HX HQ Cv HK HP cI;obtain ⟨pt,px,gw⟩:=HPX.out;rw [gw] at TZ cS;clear gw HPX;go_wp2_with fail;refine TZ.out.mono ?_
  rintro e w3 ⟨zB,yS,yT⟩;have RD:=yT.bU (HV.out.below bJ.out);have FP:=ab ((Mv.of bJ.out).trans yT);have Fk:=ab yS;have MV:=ab (lI.out.bU RD);have dD:=ab ((WW.out.below bJ.out).bU RD);have cI3:=bV (RD.ifc HCI.out) HCI.out;have p33:=MV.out.c3;have Xo:((j:Int)+1).toNat=j+1:=by omega
  have hwp:wrap64 ((j:Int)+1)=(j:Int)+1:=by unfold wrap64;omega
  rcases zB with ⟨hE,rfl⟩ | ⟨bs,m,ps,ls,cs,rfl,zu,lZ⟩
  ·have bM:Hid (lX S A db F w n (j+1) j bb nb y (fun k m=>m.join k nb) (nG A) w3∧Dv base A db F d w3∧Mv db F w w3):=⟨.inl ⟨hE,rfl⟩,Fk.out,FP.out⟩
   unfold nG at bM ⊢;clear yS yT RD hE TZ p3 cS lI;go_wp2;go_ret2;exact bM.out
  go_wp2_with fail;refine (Df tb bb _).mono ?_
  rintro e w2' ⟨rfl,rfl⟩;have QY:=ab zu;have JG:=ab lZ;have WO:=ab (S.fit lZ);have My:=ab (ch bs m ps ls cs w3 QY.out);have MZ:=ab (ch bb nb pb lb cb w3 dD.out);clear zu lZ yS yT RD;by_cases vw:m.us.length=0↔nb.us.length=0
  ·have Ib:=ab vw;have AR:decide (m.us.length=0)=decide (nb.us.length=0):=by
    rw [kG,decide_eq_true_eq,decide_eq_true_eq]
    first | exact vw | exact vw.symm
   rw [AR] at My;generalize decide (nb.us.length=0)=bk at *;clear vw AR;obtain ⟨k,z,my⟩:=zQ.out;have FQ:=ab my;have pV:cW k:=HH.out.fine.2.2.1 _ (cu my);obtain ⟨la2,lc2,nT,-,-,Cp⟩:=MV.out.bm;subst nT;have PZ:j<n.lk.length:=HI.out.2.2.2;obtain ⟨g2,o2,rfl,cK,-⟩:=Cp j PZ;have Zz:n.lk[j]=(k,z):=by
    have:=af PZ;rw [my] at this;exact (Option.some.inj this).symm
   rw [show (⟨[],n.f,n.lk,n.us.set (j+1) (.nd bb)⟩ : SN).lk[j]=(k,z) from Zz] at cK
   have cK2:w3.cell? ⟨g2,o2+j*2,none⟩=some (.string k):=by simpa using cK
   have p2:=MV.out.c2;clear cK;have Cw:(j:Int)<(n.lk.length:Int):=by omega
   have HJ:=ab (Au bs bb m nb ps ls cs pb lb cb k w3 QY.out dD.out WO.out.1 Ci.out WO.out.2.1 (by have:=XJ.out;unfold SN.min at this;split at this <;> omega) (by have:=Ib.out;first | exact this | exact this.symm) pV)
   have HWO:Hid (∀ W,Below w3.heap.size w3 W→Calls prog 127 #[.pointer (some ⟨b2,0,none⟩),.int .i64 (j:Int)] W fun e w'=>RF W ⟨[],n.f,B.cH n.lk j,C.cH (n.us.set (j+1) (.nd bb)) (j+1)⟩ e w'):=fun W hW=>wo A b2 _ _ _ _ j W (MV.out.below hW) PZ (by show (n.us.set (j+1) _).length=n.lk.length+1;rw [cB];exact HI.out.2.1) (Fk.out.below hW).zJ
   have fV:(B.cH n.lk j).length=n.lk.length - 1:=by unfold B.cH;rw [ae,ag,ao];omega
   have iT:(C.cH (n.us.set (j+1) (.nd bb)) (j+1)).length=n.us.length - 1:=by unfold C.cH;rw [ae,ag,ao,cB];have:=HI.out;omega
   have Cd:Hid (∀ W b5 p5 l5 c5 bj pj lj cj,Below w3.heap.size w3 W→dG W b5 ⟨[],n.f,B.cH n.lk j,C.cH (n.us.set (j+1) (.nd bb)) (j+1)⟩ p5 l5 c5→dG W bj ((fun k m=>m.join k nb) k m) pj lj cj→Calls prog 124 #[.pointer (some ⟨b5,0,none⟩),.int .i64 (j:Int),.pointer (some ⟨bj,0,none⟩)] W fun e w'=>∃ b',e = .returned (.pointer (some ⟨b',0,none⟩))∧mL W ⟨[],n.f,B.cH n.lk j,C.cH (n.us.set (j+1) (.nd bb)) (j+1)⟩ j bj ((fun k m=>m.join k nb) k m) (.returned (.pointer (some ⟨b',0,none⟩))) w'∧Below W.heap.size W w'):=fun W b5 p5 l5 c5 bj pj lj cj hW h5 hj=>by
    refine (s8 A b5 bj _ _ p5 l5 c5 pj lj cj j W h5 hj (by show j<(C.cH _ _).length;rw [iT];have:=HI.out;omega) (by show (C.cH _ _).length=(B.cH _ _).length+1;rw [fV,iT];have:=HI.out;omega) (by show (B.cH _ _).length≤3999;rw [fV];have:=HI.out;omega) (Ed WO.out.1 Ci.out (by have:=Ib.out;first | exact this | exact this.symm)) (Fk.out.below hW).zJ).mono fun e w' hh=>?_
    rcases hh with ⟨g1,b',p',l',c',rfl,g2,g3⟩ | ⟨g1,a,k,c,ba,bc,pa,la,ca,pc,lc,cc,g2,g3,g4,b',p',l',c',rfl,g5,g6⟩
    ·exact ⟨b',rfl,.inl ⟨g1,b',p',l',c',rfl,g2,g3⟩,g3⟩
    ·exact ⟨b',rfl,.inr ⟨g1,a,k,c,ba,bc,pa,la,ca,pc,lc,cc,g2,g3,g4,b',p',l',c',rfl,g5,g6⟩,g6⟩
   clear Cp Zz pV my zQ fV iT;go_wp2_with fail;refine My.out.mono ?_
   rintro e w3' ⟨rfl,rfl⟩;go_wp2_with fail;refine MZ.out.mono ?_
   rintro e w3' ⟨rfl,rfl⟩;clear My MZ;cases bk
   all_goals
    go_wp2_with fail;refine HJ.out.mono ?_
    rintro e w4 ⟨bj,pj,lj,cj,rfl,hj,eO⟩;have HJ4:=ab hj;have gr:=ab eO;clear hj eO cK2 p2;go_wp2_with fail;refine (HWO.out w4 gr.out).mono ?_
    rintro e w5 ⟨b5,p5,l5,c5,rfl,h5,mB⟩;have sW:=ab h5;have HJ5:=ab (HJ4.out.below mB);have jj:=ab (Below.next gr.out mB);clear h5 mB;go_wp2_with fail;refine (Cd.out w5 b5 p5 l5 c5 bj pj lj cj jj.out sW.out HJ5.out).mono ?_
    rintro e w6 ⟨b',rfl,zp,PU⟩;have bM:Hid (lX S A db F w n (j+1) j bb nb y (fun k m=>m.join k nb) (.returned (.tuple #[.pointer (some ⟨b',0,none⟩),.nilIface])) w6∧Dv base A db F d w6∧Mv db F w w6):=⟨.inr ⟨b',w5,m,k,z,bj,pj,lj,cj,rfl,FP.out.trans (Mv.of jj.out),FQ.out,S.na (cM.of jj.out) JG.out,Ib.out,HJ5.out,zp⟩,Fk.out.below (Below.next jj.out PU),FP.out.trans (Mv.of (Below.next jj.out PU))⟩
    clear zp PU;go_wp2;go_ret2;exact bM.out
  ·have hE:S.E:=MY.out.resolve_right fun h=>vw (h w3 m JG.out)
   have g8:w3.cell? ⟨8,0,none⟩=some (.iface 360 (.pointer (some (A 8)))):=Fk.out.g 8 (by decide)
   have bM:Hid (∀ k,lX S A db F w n (j+1) j bb nb y (fun k m=>m.join k nb) (.returned (.tuple #[.pointer none,.iface 360 (.pointer (some (A 8)))])) (w3.drewN k)∧Dv base A db F d (w3.drewN k)∧Mv db F w (w3.drewN k)):=fun k=>⟨.inl ⟨hE,rfl⟩,Fk.out.below (aB (Below.refl _ _) _),FP.out.trans (Mv.of (aB (Below.refl _ _) _))⟩
   have AR:decide (m.us.length=0)=!decide (nb.us.length=0):=by
    by_cases h1:m.us.length=0 <;> by_cases h2:nb.us.length=0 <;> simp_all
   rw [AR] at My;generalize decide (nb.us.length=0)=bk at *;clear vw AR hE;go_wp2_with fail;refine My.out.mono ?_
   rintro e w3' ⟨rfl,rfl⟩;go_wp2_with fail;refine MZ.out.mono ?_
   rintro e w3' ⟨rfl,rfl⟩;clear My MZ;cases bk
   all_goals
    go_wp2_with fail;go_quiet (fail)
    go_wp2;go_ret2;exact bM.out _
theorem Way.Nj{d:S.V.bq}{X:Type}{S:Sys d X}{Pk:SN→Nat→Prop}{w:World}:∀ {t:List (eT X)} {x z:X} {s:eT X},Way S Pk w x (t++[s]) z→Way S Pk w x t s.x∧RE S w s∧¬ s.n.us.length=0∧Pk s.n s.at'∧s.at'<s.n.us.length∧S.sub s.x s.at' z
 | [],_,_,_,⟨h1,h2,h3,h4,h5,z,h6,h7⟩=>by
  have h7:z=_:=h7;subst h7;exact ⟨h1.symm,h2,h3,h4,h5,h1▸h6⟩
 | _::_,_,_,_,⟨h1,h2,h3,h4,h5,z,h6,h7⟩=>by
  obtain ⟨g1,g2⟩:=Way.Nj h7;exact ⟨⟨h1,h2,h3,h4,h5,z,h6,g1⟩,g2⟩
def UpS{d:S.V.bq}{X:Type}(S:Sys d X)(A:Nat→Addr)(Fl:World→SN→X→Prop)(x:X)(e:Ending)(w':World):Prop :=
 (S.E∧e=nG A)∨∃ b' n' pv lv cv,e = .returned (.tuple #[.pointer (some ⟨b',0,none⟩),.nilIface])∧dG w' b' n' pv lv cv∧Fl w' n' x
theorem yt{base:Nat}{A:Nat→Addr}{db:Nat}{F:Nat→Prop}{d:S.V.bq}{X:Type}(S:Sys d X)(Pk:SN→Nat→Prop)(Fl:World→SN→X→Prop)(hfk:∀ W n x,Fl W n x→n.zn)(tb:Nat)(rv:Value)(a:Option Addr)(c:Nat)(l:List W.Lk)(ss:List (eT X))(x y:X)(pv:Value)(ps:List Pr)(w0 w:World)(hL:l=[]∧ss=[]∨∃ q,l=ss.map eT.lk++[q])(dF:ss.length≤64)(ho:oa w w0.heap.size (.slice a l.length c) l)(gA:Way S Pk w x ss y)(hp:gK w pv ps)(Xr:(∀ p ∈ ps,cP p=true)∧ps.length≤4000)(iB:∀ W,Fl W ⟨ps,0,[],[]⟩ y)(ht:B.ax w tb #[.pointer (some ⟨db,0,none⟩),rv] 100)(hv:Dv base A db F d w)(gi:Dv base A db F d w0)(hm:Mv db F w0 w)(zv:∀ (W:World) (s:eT X) (z:X) (bb:Nat) (nb:SN) (pb lb cb:Value),Dv base A db F d W→B.ax W tb #[.pointer (some ⟨db,0,none⟩),rv] 100→RE S W s→¬ s.n.us.length=0→Pk s.n s.at'→s.at'<s.n.us.length→S.sub s.x s.at' z→dG W bb nb pb lb cb→Fl W nb z→Calls prog 82 #[.pointer (some ⟨tb,0,none⟩),.agg #[.pointer (some ⟨s.b,0,none⟩),.int .i64 (s.at':Int)],.pointer (some ⟨bb,0,none⟩)] W fun e w'=>UpS S A Fl s.x e w'∧Dv base A db F d w'∧Mv db F W w'):Calls prog 47 #[.pointer (some ⟨tb,0,none⟩),.slice a l.length c,pv] w fun e w'=>(S.E∧e = .returned (.iface 360 (.pointer (some (A 8))))∧Dv base A db F d w'∧Mv db F w0 w'∧B.ax w' tb #[.pointer (some ⟨db,0,none⟩),rv] 100)∨∃ (W W2:World) (b:Nat) (n:SN) (pn ln cn u:Value),e = .returned .nilIface∧dG W b n pn ln cn∧Fl W n x∧oW W b n (.returned u) W2∧Dv base A db F d W2∧Mv db F w0 W2∧B.ax W2 tb #[.pointer (some ⟨db,0,none⟩),rv] 100∧w'=W2.setCell ⟨tb,1,none⟩ u:=by
 obtain ⟨xa,xc,zC⟩:=hp.form;subst zC;obtain ⟨P,hP⟩ : ∃ P,P=ps.length:=⟨_,rfl⟩;obtain ⟨L,Jn⟩ : ∃ L,L=l.length:=⟨_,rfl⟩;rw [← hP] at hp ⊢;rw [← Jn] at ho ⊢;have q0:=ai w (.cells #[.slice xa P xc,.int .i64 0,.slice none 0 0,.slice none 0 0] 155);have xr:=B.ax.new w #[.slice xa P xc,.int .i64 0,.slice none 0 0,.slice none 0 0] 155;have HR:Hid (dG (w.alloc (.cells #[.slice xa P xc,.int .i64 0,.slice none 0 0,.slice none 0 0] 155)) w.heap.size ⟨ps,0,[],[]⟩ (.slice xa P xc) (.slice none 0 0) (.slice none 0 0)):=⟨xr,hp.below q0,B.cV.nil _,(C.b7.nil _ 0).at,Xr.1,Xr.2,(fun p hp=>by simp at hp),by simp,by simp⟩
 have hlen:((L:Int) - 2=(ss.length:Int) - 1∧L=ss.length+1)∨(L=0∧ss=[]):=by
  rcases hL with ⟨h1,h2⟩ | ⟨q,h1⟩
  ·right;rw [Jn,h1];exact ⟨rfl,h2⟩
  ·left;rw [Jn,h1,ae,aA];exact ⟨by simp;omega,by simp⟩
 have kV:=ab hlen;have lf:=ab dF;have HL:=ab hL;have HO:=ab (ho.below q0);have HW:=ab (gA.bU (cM.of q0));have HT:=ab (ht.below q0);have HV:=ab (hv.below q0);have Fm:=ab gi;have HM:=ab (hm.trans (Mv.of q0));have M0:=ab iB;have iJ:=ab zv;have W6:=ab hfk;have yN:=ab Jn;have XD:(L:Int)≤65:=by
  rcases hlen with ⟨_,h⟩ | ⟨h,_⟩ <;> omega
 have Wm:(0:Int)≤(L:Int):=by omega
 clear hL dF ho gA hp Xr iB ht hv gi hm zv hfk Jn hP q0 xr hlen;go_enter func47,ntmps47;go_wp2;go_loopw [7,8] (fun nv iv wr=>∃ (s1 s2:List (eT X)) (z:X) (bb:Nat) (nb:SN) (pb lb cb:Value) (i:Int),nv = .pointer (some ⟨bb,0,none⟩)∧iv = .int .i64 i∧ss=s1++s2∧(i=(s1.length:Int) - 1∨i = -2∧ss=[])∧Way S Pk wr x s1 z∧dG wr bb nb pb lb cb∧Fl wr nb z∧oa wr w0.heap.size (.slice a L c) l∧Dv base A db F d wr∧Mv db F w0 wr∧B.ax wr tb #[.pointer (some ⟨db,0,none⟩),rv] 100) (fun _ iv _=>(intOf iv+1).toNat)
 case atStart =>
  refine ⟨ss,[],y,_,_,_,_,_,(L:Int) - 2,rfl,rfl,by simp,?_,HW.out,HR.out,M0.out _,HO.out,HV.out,HM.out,HT.out⟩
  rcases kV.out with ⟨h,_⟩ | ⟨h1,h2⟩
  ·exact .inl h
  ·right;subst h1;exact ⟨by omega,h2⟩
 case round =>
  obtain ⟨s1,s2,z,bb,nb,pb,lb,cb,i,rfl,rfl,FC,hi,gA,hs,iB,ho,hv,hm,ht⟩:=hrel;clear HW HR HO HV HM HT;rcases List.eq_nil_or_concat s1 with rfl | ⟨t,s,rfl⟩
  ·have yU:¬ (0:Int)≤i:=by
    rcases hi with h | ⟨h,_⟩
    ·simp at h;omega
    ·omega
   have hz:x=z:=gA;subst hz;have XL:=ab (Gj A bb nb pb lb cb wr hs (W6.out _ _ _ iB) hv.zJ);have HS:=ab hs;have HF:=ab iB;have mQ:=ab hv;have Fw:=ab hm;have yK:=ab ht;clear FC hi gA hs iB ho hv hm ht;go_wp2_with fail;refine XL.out.mono ?_
   rintro e w2 Xp;have aO:=Xp.1;obtain ⟨u,hu,O9⟩ : ∃ u,e = .returned u∧(u = .nilIface∨∃ t x,u = .iface t x):=by
    rcases Xp.2 with ⟨_,_,_,_,_,_,_,_,_,_,_,_,_,_,_,_,_,_,_,h,_⟩ | ⟨_,_,_,p,_,h⟩ | ⟨_,_,_,h⟩ | ⟨_,_,h⟩
    ·exact ⟨_,h,.inr (bz _)⟩
    ·exact ⟨_,h,.inr (bz _)⟩
    ·exact ⟨_,h,.inl rfl⟩
    ·exact ⟨_,h,.inr (bz _)⟩
   subst hu;have tJ:=yK.out.below aO;have k1:=tJ.c1;have k2:=tJ.free 1;have bM:Hid (dG wr bb nb pb lb cb∧Fl wr nb x∧oW wr bb nb (.returned u) w2∧Dv base A db F d w2∧Mv db F w0 w2∧B.ax w2 tb #[.pointer (some ⟨db,0,none⟩),rv] 100):=⟨HS.out,HF.out,Xp,mQ.out.below aO,Fw.out.trans (Mv.of aO),tJ⟩;clear Xp aO tJ XL;rcases O9 with rfl | ⟨ut,ux,rfl⟩
   ·go_wp2;go_ret;exact .inr ⟨wr,w2,bb,nb,pb,lb,cb,_,rfl,bM.out.1,bM.out.2.1,bM.out.2.2.1,bM.out.2.2.2.1,bM.out.2.2.2.2.1,bM.out.2.2.2.2.2,rfl⟩
   ·go_wp2;go_ret;exact .inr ⟨wr,w2,bb,nb,pb,lb,cb,_,rfl,bM.out.1,bM.out.2.1,bM.out.2.2.1,bM.out.2.2.2.1,bM.out.2.2.2.2.1,bM.out.2.2.2.2.2,rfl⟩
  ·have hii:i=(t.length:Int):=by
    rcases hi with h | ⟨_,h⟩
    ·rw [List.concat_eq_append,ae] at h;simp at h;omega
    ·rw [h] at FC;have:=congrArg List.length FC;simp at this
   subst hii;rw [List.concat_eq_append] at gA FC;obtain ⟨vS,cT,xV,vU,bP,lC⟩:=gA.Nj;have hq:l[t.length]?=some s.lk∧t.length<L:=by
    rcases HL.out with ⟨_,h2⟩ | ⟨q,h1⟩
    ·rw [h2] at FC;have:=congrArg List.length FC;simp at this
    ·refine ⟨?_,?_⟩
     ·rw [h1,FC];simp
     ·rw [yN.out,h1,FC];simp
   have hr:=ho.1.at;have zr:t.length<l.length:=by rw [← yN.out];exact hq.2
   have my:l[t.length]=s.lk:=by
    have:=af zr;rw [hq.1] at this;exact (Option.some.inj this).symm
   obtain ⟨g,o,rfl,c1,c2⟩:=W.cV.spot hr t.length zr;rw [my] at c1 c2;have UQ:wr.cell? ⟨g,o+t.length*2,none⟩=some (.pointer (some ⟨s.b,0,none⟩)):=c1;have Ww:wr.cell? ⟨g,o+t.length*2+1,none⟩=some (.int .i64 (s.at':Int)):=c2;have Q9:=ab (iJ.out wr s z bb nb pb lb cb hv ht cT xV vU bP lC hs iB);have yU:(0:Int)≤(t.length:Int):=by omega
   have Cr:(t.length:Int)<(L:Int):=by omega
   have nR:=ab ho;have mQ:=ab hv;have Fw:=ab hm;have yK:=ab ht;have rn:=ab vS;have HSP:=ab FC;clear FC hi gA hs iB ho hv hm ht cT xV vU bP lC hq hr zr my c1 c2 vS;go_wp2_with fail;refine Q9.out.mono ?_
   rintro e w1 ⟨Ur,dX,eo⟩;have aw:=eo.bU mQ.out;have wg:=ab (cG aw yK.out);have yL:=ab (Fw.out.trans eo);have oZ:=ab dX;rcases Ur with ⟨hE,rfl⟩ | ⟨b',n',Ku,Sz,cv',rfl,Ut,hf'⟩
   ·have bM:Hid (S.E∧Dv base A db F d w1∧Mv db F w0 w1∧B.ax w1 tb #[.pointer (some ⟨db,0,none⟩),rv] 100):=⟨hE,oZ.out,yL.out,wg.out⟩;unfold nG;clear hE dX eo aw Q9 UQ Ww;go_wp2;go_ret;exact .inl ⟨bM.out.1,rfl,bM.out.2⟩
   ·have zP:Hid (∃ (s1 s2:List (eT X)) (z:X) (bb:Nat) (nb:SN) (pb lb cb:Value) (i:Int),(.pointer (some ⟨b',0,none⟩):Value) = .pointer (some ⟨bb,0,none⟩)∧(.int .i64 ((t.length:Int) - 1):Value) = .int .i64 i∧ss=s1++s2∧(i=(s1.length:Int) - 1∨i = -2∧ss=[])∧Way S Pk w1 x s1 z∧dG w1 bb nb pb lb cb∧Fl w1 nb z∧oa w1 w0.heap.size (.slice (some ⟨g,o,none⟩) L c) l∧Dv base A db F d w1∧Mv db F w0 w1∧B.ax w1 tb #[.pointer (some ⟨db,0,none⟩),rv] 100):=⟨t,s::s2,s.x,b',n',Ku,Sz,cv',_,rfl,rfl,by rw [HSP.out];simp,.inl rfl,rn.out.bU aw,Ut,hf',nR.out.mv eo Fm.out.BZ,oZ.out,yL.out,wg.out⟩
    clear dX eo aw Q9 UQ Ww Ut hf';go_wp2;go_roundw
    case rel=>exact zP.out
    case measure=>simp [intOf]
def MG(w:World):Nat→C.Ch→Prop
 | _,.pg _=>True
 | 0,.nd _=>False
 | k+1,.nd b=>∃ n pv lv cv,dG w b n pv lv cv∧Fit n∧∀ p ∈ n.us,MG w k p
theorem MG.bU{w w':World}(ha:cM w w'):∀ {k:Nat} {p:C.Ch},MG w k p→MG w' k p
 | 0,.pg _,_=>trivial
 | _+1,.pg _,_=>trivial
 | _+1,.nd _,⟨n,pv,lv,cv,h1,h2,h3⟩=>⟨n,pv,lv,cv,h1.bU ha,h2,fun p hp=>MG.bU ha (h3 p hp)⟩
def Any(w:World)(p:C.Ch):Prop:=∃ k,MG w k p
theorem Any.bU{w w':World}{p:C.Ch}(h:Any w p)(ha:cM w w'):Any w' p:=by
 obtain ⟨k,h⟩:=h;exact ⟨k,h.bU ha⟩
theorem Any.pg(w:World)(id:Int):Any w (.pg id):=⟨0,trivial⟩
def aad(w:World)(n:SN):Prop:=Fit n∧∀ p ∈ n.us,Any w p
theorem SN.RW{n:SN}(h:n.us.length=0):n.sz=fL n.ps:=by unfold SN.sz;rw [if_pos h]
theorem SN.Ny{n:SN}(h:¬ n.us.length=0):n.sz=B.jL n.lk:=by unfold SN.sz;rw [if_neg h]
theorem Oc{d:S.V.bq}{id:Int}{p:PD}(h:cJ d id=some p)(w:World):aad w p.sn:=by
 obtain ⟨s,hs,hh⟩:=tp h;rcases hh with ⟨_,hd,rfl⟩ | ⟨_,hd,rfl⟩
 ·have hc:=oU hd.2.2;refine ⟨⟨.inl rfl,?_,.inl rfl⟩,fun q hq=>by simp [PD.sn] at hq⟩
  rw [SN.RW (by rfl)]
  exact hc.2.2.1
 ·have hc:=B.jV hd.2.2;refine ⟨⟨.inr ?_,?_,.inr ?_⟩,fun q hq=>?_⟩
  ·show (zj _ _).length=_
   rw [pA];rfl
  ·rw [SN.Ny (by show ¬ (zj _ _).length=0;rw [pA];omega)]
   exact hc.2.2.2.2.2.1
  ·show 1≤(B.A4 _).length
   exact List.length_pos_iff.2 hc.1
  ·obtain ⟨i,hi,rfl⟩:=aQ hq;obtain ⟨x,_,e⟩:=Bw _ _ i _ (af hi);have e:(PD.sn _).us[i] = .pg x:=e;rw [e];exact Any.pg w x
theorem Any.node {w : World} {b : Nat} (h : Any w (.nd b)) : ∃ n pv lv cv, dG w b n pv lv cv ∧ aad w n := by
  obtain ⟨k, h⟩ := h
  cases k with
  | zero => exact absurd h id
  | succ k =>
    obtain ⟨n, pv, lv, cv, h1, h2, h3⟩ := h
    exact ⟨n, pv, lv, cv, h1, h2, fun p hp => ⟨k, h3 p hp⟩⟩
def anyS(d:S.V.bq):Sys d Unit where
 K:=fun w p _=>Any w p
 N:=fun w n _=>aad w n
 E:=True
 sub:=fun _ _ _=>True
 rk:=fun _=>0
 ka:=fun ha h=>h.bU ha
 na:=fun ha h=>⟨h.1,fun p hp=>(h.2 p hp).bU ha⟩
 pS:=fun h hp=>⟨(),trivial,h.2 _ (cu hp)⟩
 fit:=fun h=>h.1
 gQ:=fun {_ id _} _=>by
  cases hp:cJ d id with
  | none=>exact .inl ⟨rfl,trivial⟩
  | some p=>exact .inr ⟨p,rfl,fun w'=>Oc hp w'⟩
 node:=fun h=>h.node
 Xh:=.inl trivial
theorem mL.below{w:World}{n:SN}{i bb:Nat}{nb:SN}{e:Ending}{w':World}(h:mL w n i bb nb e w'):Below w.heap.size w w':=by
 rcases h with ⟨_,_,_,_,_,_,_,h⟩ | ⟨_,_,_,_,_,_,_,_,_,_,_,_,_,_,_,_,_,_,_,_,_,h⟩
 ·exact h
 ·exact h
theorem Bg:B.jL []=6:=rfl
end T
end Go.Proofs.YtihmgigfkmofnaaGreatDoor
