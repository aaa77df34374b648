import Derived.Test.YtihmgigfkmofnaaGreatDoorG22
set_option maxHeartbeats 8000000
set_option maxRecDepth 100000
open Go.Proofs.Tryz
namespace Go.Proofs.YtihmgigfkmofnaaGreatDoor
namespace T
open Go.RowKit
theorem Dg(tb bb:Nat)(w:World):Calls prog 104 #[.pointer (some ⟨tb,0,none⟩),.iface 152 (.pointer (some ⟨bb,0,none⟩))] w fun e w'=>e = .returned (.tuple #[.pointer (some ⟨bb,0,none⟩),.nilIface])∧w=w':=by
 have a1:=fun W=>Jy (.pointer (some ⟨bb,0,none⟩)) W
 have a2:=fun W=>Qo (.pointer (some ⟨bb,0,none⟩)) W
 go_enter func104,ntmps104;go_wp2;go_ret2;exact ⟨rfl,rfl⟩
theorem Ap(ba bb:Nat)(na nb:SN)(pa la ca pb lb cb:Value)(key:ByteArray)(w:World)(ha:dM w ba na pa la ca)(hb:dM w bb nb pb lb cb)(Xc:na.zB)(Vy:nb.zB)(Yk:na.sz≤4072)(hsb:nb.sz≤4072)(hs:na.us.length=0↔nb.us.length=0)(hk:cQ key):Calls prog 126 #[.pointer (some ⟨ba,0,none⟩),.string key,.pointer (some ⟨bb,0,none⟩)] w fun e w'=>Ra w (na.join key nb) e w':=by
 unfold SN.join;unfold SN.sz at Yk hsb;by_cases h0:na.us.length=0
 ·rw [if_pos h0] at Yk;rw [if_pos (hs.1 h0)] at hsb;rw [if_pos h0];have:=ko na.ps;have:=ko nb.ps;exact KO ba bb na nb pa la ca pb lb cb key w ha hb h0 (by omega)
 ·rw [if_neg h0] at Yk;rw [if_neg (fun h=>h0 (hs.2 h))] at hsb
  rw [if_neg h0];have:=B.rr na.lk;have:=B.rr nb.lk;have e1:=Xc.resolve_left h0;have e2:=Vy.resolve_left (fun h=>h0 (hs.2 h))
  exact Sd ba bb na nb pa la ca pb lb cb key w ha hb h0 (by omega) (by omega) hk
theorem D6{na nb:SN}{key:ByteArray}(Xc:na.zB)(Vy:nb.zB)(hs:na.us.length=0↔nb.us.length=0):(na.join key nb).zB:=by
 unfold SN.join;by_cases h0:na.us.length=0
 ·rw [if_pos h0];exact .inl rfl
 ·rw [if_neg h0];have e1:=Xc.resolve_left h0;have e2:=Vy.resolve_left (fun h=>h0 (hs.2 h))
  right
  show (na.us++nb.us).length=(B.iQ na.lk key nb.f nb.lk).length+1
  unfold B.iQ;rw [ae,ae,List.length_cons];omega
def lq{d:S.V.bD}{X:Type}(S:Sys d X)(A:Nat→Addr)(db:Nat)(F:Nat→Prop)(w:World)(n:SN)(i l bb:Nat)(nb:SN)(y:X)(jn:ByteArray→SN→SN)(e:Ending)(w':World):Prop :=
 (S.E∧e=oO A)∨∃ (b':Nat) (w2:World) (m:SN) (k:ByteArray) (z:Int) (bj:Nat) (pj lj cj:Value),e = .returned (.tuple #[.pointer (some ⟨b',0,none⟩),.nilIface])∧Mv db F w w2∧n.lk[l]?=some (k,z)∧S.N w2 m y∧(m.us.length=0↔nb.us.length=0)∧dM w2 bj (jn k m) pj lj cj ∧
  mm w2 ⟨[],n.f,B.cB n.lk l,C.cB (n.us.set i (.nd bb)) (l+1)⟩ l bj (jn k m) (.returned (.pointer (some ⟨b',0,none⟩))) w'
theorem C8{base:Nat}{A:Nat→Addr}{db:Nat}{F:Nat→Prop}{d:S.V.bD}{X:Type}(S:Sys d X)(tb:Nat)(rv:Value)(b bb:Nat)(n nb:SN)(pv lv cv pb lb cb:Value)(y:X)(p:C.Ch)(w:World)(h:dM w b n pv lv cv)(hb:dM w bb nb pb lb cb)(hi:0<n.us.length)(hlen:n.us.length=n.lk.length+1)(dV:n.lk.length≤3999)(h1:0<n.lk.length)(gR:nb.zB)(zG:nb.sz<nb.min)(hp:n.us[1]?=some p)(hk:S.K w p y)(ht:B.au w tb #[.pointer (some ⟨db,0,none⟩),rv] 100)(hv:Dv base A db F d w)(Em:S.E∨∀ W m,S.N W m y→(m.us.length=0↔nb.us.length=0)):Calls prog 82 #[.pointer (some ⟨tb,0,none⟩),.agg #[.pointer (some ⟨b,0,none⟩),.int .i64 0],.pointer (some ⟨bb,0,none⟩)] w fun e w'=>lq S A db F w n 0 0 bb nb y (fun k m=>nb.join k m) e w'∧Dv base A db F d w'∧Mv db F w w':=by
 have q0:=ai w (.cells #[.pointer (some ⟨b,0,none⟩),.int .i64 0] 159);have x0:=B.au.new w #[.pointer (some ⟨b,0,none⟩),.int .i64 0] 159;generalize Cy:w.alloc (.cells #[.pointer (some ⟨b,0,none⟩),.int .i64 0] 159)=W0 at *;have Qw:=ab (mJ bb nb pb lb cb W0 (hb.below q0));rw [show decide (nb.sz<nb.min)=true by simp [zG]] at Qw
 have HH:=ab h;have Wv:=ab hb;have HI:Hid (0<n.us.length∧n.us.length=n.lk.length+1∧n.lk.length≤3999∧0<n.lk.length):=⟨hi,hlen,dV,h1⟩;have Cm:=ab gR;have Xm:=ab zG;have HP:=ab hp;have HK:=ab hk;have HT:=ab ht;have HV:=ab hv;have MG:=ab Em;have HQ:=ab q0;have HX:=ab x0;have Tt:Hid (∀ W,Below w.heap.size w W→Calls prog 125 #[.pointer (some ⟨b,0,none⟩),.int .i64 0,.iface 152 (.pointer (some ⟨bb,0,none⟩))] W fun e w'=>∃ b2 p2 l2 c2,e = .returned (.pointer (some ⟨b2,0,none⟩))∧dM w' b2 ⟨[],n.f,n.lk,n.us.set 0 (.nd bb)⟩ p2 l2 c2∧Below W.heap.size W w'):=fun W hW=>by
  have hh:=mI b n pv lv cv 0 (.nd bb) W (h.below hW) hi;rw [show ((0:Nat):Int)=0 by omega] at hh
  exact hh
 clear h hb hi hlen dV h1 gR zG hp hk ht hv Em q0 x0;go_enter func82,ntmps82;go_wp2_with fail;refine Qw.out.mono ?_
 rintro e w1 ⟨rfl,aN⟩;have bN:=ab (Below.next HQ.out aN);have k0:=(HX.out.below aN).c0;have k1:=(HX.out.below aN).c1;have zj:=ab (HX.out.below aN);clear aN Qw;go_wp2_with fail
 go_region_held3 (fun w'=>w'.cell? ⟨w.heap.size,0,none⟩=some (.pointer (some ⟨b,0,none⟩))∧w'.cell? ⟨w.heap.size,1,none⟩=some (.int .i64 0)) (go_keep)
  (first
   | (go_at_call 125;refine (Tt.out _ (by first | exact bN.out | exact B.aR bN.out)).mono ?_;rintro e w2 ⟨b2,p2,l2,c2,rfl,j8,aY⟩;have nJ:=ab j8;have bH:=ab (Below.next (B.aR bN.out) aY);have m0:=(zj.out.below (B.dL aY)).c0;have m1:=(zj.out.below (B.dL aY)).c1;clear j8 aY))
 all_goals
  have zQ:=dd.of bH.out;obtain ⟨ca,cc,vq,-,-,bE⟩:=nJ.out.kids;rw [C.a7,Nat.mul_one,cu] at vq;subst vq;obtain ⟨g,o,rfl,cI⟩:=bE 0 (C.Ch.nd bb).val (by unfold C.bg;rw [aL,List.getElem?_set_self HI.out.1];rfl)
  obtain ⟨g',o',Cv,cS⟩:=bE 1 p.val (by unfold C.bg;rw [aL,List.getElem?_set_ne (by omega),HP.out];rfl)
  cases Cv;have Tu:=ab (o8 S p y tb rv w2 (S.ka zQ HK.out) (dz zQ HT.out) (HV.out.below bH.out));have ZV:=ab (bJ p);have p3:=nJ.out.c3;have hI1:(0:Int)<(n.us.length:Int):=by have:=HI.out;omega
  have hI2:(0:Int)+1<(n.us.length:Int):=by have:=HI.out;omega
  have hI0:(0:Int)≤(0:Int):=by omega
  have hI4:(n.us.length:Int)≤4000:=by have:=HI.out;omega
  have hI3:(0:Int)≤(0:Int)+1:=by omega
  have CE:Hid (∃ k z,n.lk[0]?=some (k,z)):=⟨_,_,af HI.out.2.2.2⟩;have ZF:w2.cell? ⟨g,o,none⟩=some (.iface 152 (.pointer (some ⟨bb,0,none⟩))):=cI;have HCI:=ab ZF
  rw [show max (IntKind.i64.wrap (-1)) 0=0 by decide]
  clear bE zQ k0 k1 m0 m1 zj HX HQ Cy HK HP cI;obtain ⟨pt,px,iB⟩:=ZV.out;rw [iB] at Tu cS;clear iB ZV;go_wp2_with fail;refine (Dg tb bb _).mono ?_
  rintro e w2' ⟨rfl,rfl⟩;go_wp2_with fail;refine Tu.out.mono ?_
  rintro e w3 ⟨BO,si,qI⟩;have Q8:=qI.cx (HV.out.below bH.out);have QI:=ab ((Mv.of bH.out).trans qI);have Ma:=ab si;have QC:=ab (nJ.out.cx Q8);have dH:=ab ((Wv.out.below bH.out).cx Q8);clear ZF;rcases BO with ⟨hE,rfl⟩ | ⟨bs,m,ps,ls,cs,rfl,zG,lx⟩
  ·have b8:Hid (lq S A db F w n 0 0 bb nb y (fun k m=>nb.join k m) (oO A) w3∧Dv base A db F d w3∧Mv db F w w3):=⟨.inl ⟨hE,rfl⟩,Ma.out,QI.out⟩
   unfold oO at b8 ⊢;clear si qI Q8 hE Tu p3 cS nJ;go_wp2;go_ret2;exact b8.out
  have Qz:=ab zG;have JD:=ab lx;have Wq:=ab (S.fit lx);have Me:=ab (cd bb nb pb lb cb w3 dH.out);have MH:=ab (cd bs m ps ls cs w3 Qz.out);clear zG lx si qI Q8;by_cases ri:m.us.length=0↔nb.us.length=0
  ·have H7:=ab ri;have AO:decide (nb.us.length=0)=decide (m.us.length=0):=by
    rw [jZ,decide_eq_true_eq,decide_eq_true_eq]
    first | exact ri | exact ri.symm
   rw [AO] at Me;generalize decide (m.us.length=0)=bk at *;clear ri AO;obtain ⟨k,z,oC⟩:=CE.out;have JF:=ab oC;have pM:cQ k:=HH.out.fine.2.2.1 _ (cH oC);obtain ⟨la2,lc2,tH,-,-,Ct⟩:=QC.out.bg;subst tH;have Py:0<n.lk.length:=HI.out.2.2.2;obtain ⟨g2,o2,rfl,cK,-⟩:=Ct 0 Py;have Y1:n.lk[0]=(k,z):=by
    have:=af Py;rw [oC] at this;exact (Option.some.inj this).symm
   rw [show (⟨[],n.f,n.lk,n.us.set 0 (.nd bb)⟩ : SN).lk[0]=(k,z) from Y1] at cK
   have cK2:w3.cell? ⟨g2,o2,none⟩=some (.string k):=by simpa using cK
   have p2:=QC.out.c2;clear cK;have hL1:(0:Int)<(n.lk.length:Int):=by omega
   have HJ:=ab (Ap bb bs nb m pb lb cb ps ls cs k w3 dH.out Qz.out Cm.out Wq.out.1 (by have:=Xm.out;unfold SN.min at this;split at this <;> omega) Wq.out.2.1 (by have:=H7.out;first | exact this | exact this.symm) pM)
   have HWO:Hid (∀ W,Below w3.heap.size w3 W→Calls prog 127 #[.pointer (some ⟨b2,0,none⟩),.int .i64 (0:Int)] W fun e w'=>Ra W ⟨[],n.f,B.cB n.lk 0,C.cB (n.us.set 0 (.nd bb)) (0+1)⟩ e w'):=fun W hW=>wA A b2 _ _ _ _ 0 W (QC.out.below hW) Py (by show (n.us.set 0 _).length=n.lk.length+1;rw [cu];exact HI.out.2.1) (Ma.out.below hW).B0
   have eN:(B.cB n.lk 0).length=n.lk.length - 1:=by unfold B.cB;rw [ae,ag,ao];omega
   have iK:(C.cB (n.us.set 0 (.nd bb)) (0+1)).length=n.us.length - 1:=by unfold C.cB;rw [ae,ag,ao,cu];have:=HI.out;omega
   have ZL:Hid (∀ W b5 p5 l5 c5 bj pj lj cj,Below w3.heap.size w3 W→dM W b5 ⟨[],n.f,B.cB n.lk 0,C.cB (n.us.set 0 (.nd bb)) (0+1)⟩ p5 l5 c5→dM W bj ((fun k m=>nb.join k m) k m) pj lj cj→Calls prog 124 #[.pointer (some ⟨b5,0,none⟩),.int .i64 (0:Int),.pointer (some ⟨bj,0,none⟩)] W fun e w'=>∃ b',e = .returned (.pointer (some ⟨b',0,none⟩))∧mm W ⟨[],n.f,B.cB n.lk 0,C.cB (n.us.set 0 (.nd bb)) (0+1)⟩ 0 bj ((fun k m=>nb.join k m) k m) (.returned (.pointer (some ⟨b',0,none⟩))) w'∧Below W.heap.size W w'):=fun W b5 p5 l5 c5 bj pj lj cj hW h5 hj=>by
    refine (sY A b5 bj _ _ p5 l5 c5 pj lj cj 0 W h5 hj (by show 0<(C.cB _ _).length;rw [iK];have:=HI.out;omega) (by show (C.cB _ _).length=(B.cB _ _).length+1;rw [eN,iK];have:=HI.out;omega) (by show (B.cB _ _).length≤3999;rw [eN];have:=HI.out;omega) (D6 Cm.out Wq.out.1 (by have:=H7.out;first | exact this | exact this.symm)) (Ma.out.below hW).B0).mono fun e w' hh=>?_
    rcases hh with ⟨g1,b',p',l',c',rfl,g2,g3⟩ | ⟨g1,a,k,c,ba,bc,pa,la,ca,pc,lc,cc,g2,g3,g4,b',p',l',c',rfl,g5,g6⟩
    ·exact ⟨b',rfl,.inl ⟨g1,b',p',l',c',rfl,g2,g3⟩,g3⟩
    ·exact ⟨b',rfl,.inr ⟨g1,a,k,c,ba,bc,pa,la,ca,pc,lc,cc,g2,g3,g4,b',p',l',c',rfl,g5,g6⟩,g6⟩
   clear Ct Y1 pM oC CE eN iK;go_wp2_with fail;refine Me.out.mono ?_
   rintro e w3' ⟨rfl,rfl⟩;go_wp2_with fail;refine MH.out.mono ?_
   rintro e w3' ⟨rfl,rfl⟩;clear Me MH;cases bk
   all_goals
    go_wp2_with fail;refine HJ.out.mono ?_
    rintro e w4 ⟨bj,pj,lj,cj,rfl,hj,gH⟩;have HJ4:=ab hj;have gY:=ab gH;clear hj gH cK2 p2;go_wp2_with fail;refine (HWO.out w4 gY.out).mono ?_
    rintro e w5 ⟨b5,p5,l5,c5,rfl,h5,fk⟩;have sU:=ab h5;have HJ5:=ab (HJ4.out.below fk);have gu:=ab (Below.next gY.out fk);clear h5 fk;go_wp2_with fail;refine (ZL.out w5 b5 p5 l5 c5 bj pj lj cj gu.out sU.out HJ5.out).mono ?_
    rintro e w6 ⟨b',rfl,zD,yl⟩;have b8:Hid (lq S A db F w n 0 0 bb nb y (fun k m=>nb.join k m) (.returned (.tuple #[.pointer (some ⟨b',0,none⟩),.nilIface])) w6∧Dv base A db F d w6∧Mv db F w w6):=⟨.inr ⟨b',w5,m,k,z,bj,pj,lj,cj,rfl,QI.out.trans (Mv.of gu.out),JF.out,S.na (dd.of gu.out) JD.out,H7.out,HJ5.out,zD⟩,Ma.out.below (Below.next gu.out yl),QI.out.trans (Mv.of (Below.next gu.out yl))⟩
    clear zD yl;go_wp2;go_ret2;exact b8.out
  ·have hE:S.E:=MG.out.resolve_right fun h=>ri (h w3 m JD.out)
   have g8:w3.cell? ⟨8,0,none⟩=some (.iface 360 (.pointer (some (A 8)))):=Ma.out.g 8 (by decide)
   have b8:Hid (∀ k,lq S A db F w n 0 0 bb nb y (fun k m=>nb.join k m) (.returned (.tuple #[.pointer none,.iface 360 (.pointer (some (A 8)))])) (w3.drewN k)∧Dv base A db F d (w3.drewN k)∧Mv db F w (w3.drewN k)):=fun k=>⟨.inl ⟨hE,rfl⟩,Ma.out.below (aB (Below.refl _ _) _),QI.out.trans (Mv.of (aB (Below.refl _ _) _))⟩
   have AO:decide (nb.us.length=0)=!decide (m.us.length=0):=by
    by_cases h1:m.us.length=0 <;> by_cases h2:nb.us.length=0 <;> simp_all
   rw [AO] at Me;generalize decide (m.us.length=0)=bk at *;clear ri AO hE;go_wp2_with fail;refine Me.out.mono ?_
   rintro e w3' ⟨rfl,rfl⟩;go_wp2_with fail;refine MH.out.mono ?_
   rintro e w3' ⟨rfl,rfl⟩;clear Me MH;cases bk
   all_goals
    go_wp2_with fail;go_quiet (fail)
    go_wp2;go_ret2;exact b8.out _
theorem C9{base:Nat}{A:Nat→Addr}{db:Nat}{F:Nat→Prop}{d:S.V.bD}{X:Type}(S:Sys d X)(tb:Nat)(rv:Value)(b bb:Nat)(n nb:SN)(pv lv cv pb lb cb:Value)(j:Nat)(y:X)(p:C.Ch)(w:World)(h:dM w b n pv lv cv)(hb:dM w bb nb pb lb cb)(hi:(j+1)<n.us.length)(hlen:n.us.length=n.lk.length+1)(dV:n.lk.length≤3999)(h1:j<n.lk.length)(gR:nb.zB)(zG:nb.sz<nb.min)(hp:n.us[j]?=some p)(hk:S.K w p y)(ht:B.au w tb #[.pointer (some ⟨db,0,none⟩),rv] 100)(hv:Dv base A db F d w)(Em:S.E∨∀ W m,S.N W m y→(m.us.length=0↔nb.us.length=0)):Calls prog 82 #[.pointer (some ⟨tb,0,none⟩),.agg #[.pointer (some ⟨b,0,none⟩),.int .i64 ((j:Int)+1)],.pointer (some ⟨bb,0,none⟩)] w fun e w'=>lq S A db F w n (j+1) j bb nb y (fun k m=>m.join k nb) e w'∧Dv base A db F d w'∧Mv db F w w':=by
 have q0:=ai w (.cells #[.pointer (some ⟨b,0,none⟩),.int .i64 ((j:Int)+1)] 159);have x0:=B.au.new w #[.pointer (some ⟨b,0,none⟩),.int .i64 ((j:Int)+1)] 159;generalize Cy:w.alloc (.cells #[.pointer (some ⟨b,0,none⟩),.int .i64 ((j:Int)+1)] 159)=W0 at *;have Qw:=ab (mJ bb nb pb lb cb W0 (hb.below q0));rw [show decide (nb.sz<nb.min)=true by simp [zG]] at Qw
 have HH:=ab h;have Wv:=ab hb;have HI:Hid ((j+1)<n.us.length∧n.us.length=n.lk.length+1∧n.lk.length≤3999∧j<n.lk.length):=⟨hi,hlen,dV,h1⟩;have Cm:=ab gR;have Xm:=ab zG;have HP:=ab hp;have HK:=ab hk;have HT:=ab ht;have HV:=ab hv;have MG:=ab Em;have HQ:=ab q0;have HX:=ab x0;have Tt:Hid (∀ W,Below w.heap.size w W→Calls prog 125 #[.pointer (some ⟨b,0,none⟩),.int .i64 ((j:Int)+1),.iface 152 (.pointer (some ⟨bb,0,none⟩))] W fun e w'=>∃ b2 p2 l2 c2,e = .returned (.pointer (some ⟨b2,0,none⟩))∧dM w' b2 ⟨[],n.f,n.lk,n.us.set (j+1) (.nd bb)⟩ p2 l2 c2∧Below W.heap.size W w'):=fun W hW=>by
  have hh:=mI b n pv lv cv (j+1) (.nd bb) W (h.below hW) hi;rw [show (((j+1):Nat):Int)=((j:Int)+1) by omega] at hh
  exact hh
 clear h hb hi hlen dV h1 gR zG hp hk ht hv Em q0 x0;go_enter func82,ntmps82;go_wp2_with fail;refine Qw.out.mono ?_
 rintro e w1 ⟨rfl,aN⟩;have bN:=ab (Below.next HQ.out aN);have k0:=(HX.out.below aN).c0;have k1:=(HX.out.below aN).c1;have zj:=ab (HX.out.below aN);clear aN Qw;go_wp2_with fail;have Mu:¬ (0:Int) > (j:Int):=by omega
 go_region_held3 (fun w'=>w'.cell? ⟨w.heap.size,0,none⟩=some (.pointer (some ⟨b,0,none⟩))∧w'.cell? ⟨w.heap.size,1,none⟩=some (.int .i64 ((j:Int)+1))) (go_keep)
  (first
   | (go_at_call 125;refine (Tt.out _ (by first | exact bN.out | exact B.aR bN.out)).mono ?_;rintro e w2 ⟨b2,p2,l2,c2,rfl,j8,aY⟩;have nJ:=ab j8;have bH:=ab (Below.next (B.aR bN.out) aY);have m0:=(zj.out.below (B.dL aY)).c0;have m1:=(zj.out.below (B.dL aY)).c1;clear j8 aY))
 all_goals
  have zQ:=dd.of bH.out;obtain ⟨ca,cc,vq,-,-,bE⟩:=nJ.out.kids;rw [C.a7,Nat.mul_one,cu] at vq;subst vq;obtain ⟨g,o,rfl,cI⟩:=bE (j+1) (C.Ch.nd bb).val (by unfold C.bg;rw [aL,List.getElem?_set_self HI.out.1];rfl)
  obtain ⟨g',o',Cv,cS⟩:=bE j p.val (by unfold C.bg;rw [aL,List.getElem?_set_ne (by omega),HP.out];rfl)
  cases Cv;have Tu:=ab (o8 S p y tb rv w2 (S.ka zQ HK.out) (dz zQ HT.out) (HV.out.below bH.out));have ZV:=ab (bJ p);have p3:=nJ.out.c3;have hI1:(j:Int)<(n.us.length:Int):=by have:=HI.out;omega
  have hI2:(j:Int)+1<(n.us.length:Int):=by have:=HI.out;omega
  have hI0:(0:Int)≤(j:Int):=by omega
  have hI4:(n.us.length:Int)≤4000:=by have:=HI.out;omega
  have hI3:(0:Int)≤(j:Int)+1:=by omega
  have CE:Hid (∃ k z,n.lk[j]?=some (k,z)):=⟨_,_,af HI.out.2.2.2⟩;have ZF:w2.cell? ⟨g,o+(j+1),none⟩=some (.iface 152 (.pointer (some ⟨bb,0,none⟩))):=cI;have HCI:=ab ZF;clear ZF;have hwj:max (IntKind.i64.wrap (j:Int)) 0=(j:Int):=by rw [IntKind.wrap_i64];have:=HI.out;omega
  first | rw [hwj] | rw [show (j:Int)+1 - 1=(j:Int) by omega,hwj]
  clear bE zQ k0 k1 m0 m1 zj HX HQ Cy HK HP cI;obtain ⟨pt,px,iB⟩:=ZV.out;rw [iB] at Tu cS;clear iB ZV;go_wp2_with fail;refine Tu.out.mono ?_
  rintro e w3 ⟨BO,si,qI⟩;have Q8:=qI.cx (HV.out.below bH.out);have QI:=ab ((Mv.of bH.out).trans qI);have Ma:=ab si;have QC:=ab (nJ.out.cx Q8);have dH:=ab ((Wv.out.below bH.out).cx Q8);have cI3:=b9 (Q8.ifc HCI.out) HCI.out;have p33:=QC.out.c3;have WU:((j:Int)+1).toNat=j+1:=by omega
  have hwp:wrap64 ((j:Int)+1)=(j:Int)+1:=by unfold wrap64;omega
  rcases BO with ⟨hE,rfl⟩ | ⟨bs,m,ps,ls,cs,rfl,zG,lx⟩
  ·have b8:Hid (lq S A db F w n (j+1) j bb nb y (fun k m=>m.join k nb) (oO A) w3∧Dv base A db F d w3∧Mv db F w w3):=⟨.inl ⟨hE,rfl⟩,Ma.out,QI.out⟩
   unfold oO at b8 ⊢;clear si qI Q8 hE Tu p3 cS nJ;go_wp2;go_ret2;exact b8.out
  go_wp2_with fail;refine (Dg tb bb _).mono ?_
  rintro e w2' ⟨rfl,rfl⟩;have Qz:=ab zG;have JD:=ab lx;have Wq:=ab (S.fit lx);have Me:=ab (cd bs m ps ls cs w3 Qz.out);have MH:=ab (cd bb nb pb lb cb w3 dH.out);clear zG lx si qI Q8;by_cases ri:m.us.length=0↔nb.us.length=0
  ·have H7:=ab ri;have AO:decide (m.us.length=0)=decide (nb.us.length=0):=by
    rw [jZ,decide_eq_true_eq,decide_eq_true_eq]
    first | exact ri | exact ri.symm
   rw [AO] at Me;generalize decide (nb.us.length=0)=bk at *;clear ri AO;obtain ⟨k,z,oC⟩:=CE.out;have JF:=ab oC;have pM:cQ k:=HH.out.fine.2.2.1 _ (cH oC);obtain ⟨la2,lc2,tH,-,-,Ct⟩:=QC.out.bg;subst tH;have Py:j<n.lk.length:=HI.out.2.2.2;obtain ⟨g2,o2,rfl,cK,-⟩:=Ct j Py;have Y1:n.lk[j]=(k,z):=by
    have:=af Py;rw [oC] at this;exact (Option.some.inj this).symm
   rw [show (⟨[],n.f,n.lk,n.us.set (j+1) (.nd bb)⟩ : SN).lk[j]=(k,z) from Y1] at cK
   have cK2:w3.cell? ⟨g2,o2+j*2,none⟩=some (.string k):=by simpa using cK
   have p2:=QC.out.c2;clear cK;have hL1:(j:Int)<(n.lk.length:Int):=by omega
   have HJ:=ab (Ap bs bb m nb ps ls cs pb lb cb k w3 Qz.out dH.out Wq.out.1 Cm.out Wq.out.2.1 (by have:=Xm.out;unfold SN.min at this;split at this <;> omega) (by have:=H7.out;first | exact this | exact this.symm) pM)
   have HWO:Hid (∀ W,Below w3.heap.size w3 W→Calls prog 127 #[.pointer (some ⟨b2,0,none⟩),.int .i64 (j:Int)] W fun e w'=>Ra W ⟨[],n.f,B.cB n.lk j,C.cB (n.us.set (j+1) (.nd bb)) (j+1)⟩ e w'):=fun W hW=>wA A b2 _ _ _ _ j W (QC.out.below hW) Py (by show (n.us.set (j+1) _).length=n.lk.length+1;rw [cu];exact HI.out.2.1) (Ma.out.below hW).B0
   have eN:(B.cB n.lk j).length=n.lk.length - 1:=by unfold B.cB;rw [ae,ag,ao];omega
   have iK:(C.cB (n.us.set (j+1) (.nd bb)) (j+1)).length=n.us.length - 1:=by unfold C.cB;rw [ae,ag,ao,cu];have:=HI.out;omega
   have ZL:Hid (∀ W b5 p5 l5 c5 bj pj lj cj,Below w3.heap.size w3 W→dM W b5 ⟨[],n.f,B.cB n.lk j,C.cB (n.us.set (j+1) (.nd bb)) (j+1)⟩ p5 l5 c5→dM W bj ((fun k m=>m.join k nb) k m) pj lj cj→Calls prog 124 #[.pointer (some ⟨b5,0,none⟩),.int .i64 (j:Int),.pointer (some ⟨bj,0,none⟩)] W fun e w'=>∃ b',e = .returned (.pointer (some ⟨b',0,none⟩))∧mm W ⟨[],n.f,B.cB n.lk j,C.cB (n.us.set (j+1) (.nd bb)) (j+1)⟩ j bj ((fun k m=>m.join k nb) k m) (.returned (.pointer (some ⟨b',0,none⟩))) w'∧Below W.heap.size W w'):=fun W b5 p5 l5 c5 bj pj lj cj hW h5 hj=>by
    refine (sY A b5 bj _ _ p5 l5 c5 pj lj cj j W h5 hj (by show j<(C.cB _ _).length;rw [iK];have:=HI.out;omega) (by show (C.cB _ _).length=(B.cB _ _).length+1;rw [eN,iK];have:=HI.out;omega) (by show (B.cB _ _).length≤3999;rw [eN];have:=HI.out;omega) (D6 Wq.out.1 Cm.out (by have:=H7.out;first | exact this | exact this.symm)) (Ma.out.below hW).B0).mono fun e w' hh=>?_
    rcases hh with ⟨g1,b',p',l',c',rfl,g2,g3⟩ | ⟨g1,a,k,c,ba,bc,pa,la,ca,pc,lc,cc,g2,g3,g4,b',p',l',c',rfl,g5,g6⟩
    ·exact ⟨b',rfl,.inl ⟨g1,b',p',l',c',rfl,g2,g3⟩,g3⟩
    ·exact ⟨b',rfl,.inr ⟨g1,a,k,c,ba,bc,pa,la,ca,pc,lc,cc,g2,g3,g4,b',p',l',c',rfl,g5,g6⟩,g6⟩
   clear Ct Y1 pM oC CE eN iK;go_wp2_with fail;refine Me.out.mono ?_
   rintro e w3' ⟨rfl,rfl⟩;go_wp2_with fail;refine MH.out.mono ?_
   rintro e w3' ⟨rfl,rfl⟩;clear Me MH;cases bk
   all_goals
    go_wp2_with fail;refine HJ.out.mono ?_
    rintro e w4 ⟨bj,pj,lj,cj,rfl,hj,gH⟩;have HJ4:=ab hj;have gY:=ab gH;clear hj gH cK2 p2;go_wp2_with fail;refine (HWO.out w4 gY.out).mono ?_
    rintro e w5 ⟨b5,p5,l5,c5,rfl,h5,fk⟩;have sU:=ab h5;have HJ5:=ab (HJ4.out.below fk);have gu:=ab (Below.next gY.out fk);clear h5 fk;go_wp2_with fail;refine (ZL.out w5 b5 p5 l5 c5 bj pj lj cj gu.out sU.out HJ5.out).mono ?_
    rintro e w6 ⟨b',rfl,zD,yl⟩;have b8:Hid (lq S A db F w n (j+1) j bb nb y (fun k m=>m.join k nb) (.returned (.tuple #[.pointer (some ⟨b',0,none⟩),.nilIface])) w6∧Dv base A db F d w6∧Mv db F w w6):=⟨.inr ⟨b',w5,m,k,z,bj,pj,lj,cj,rfl,QI.out.trans (Mv.of gu.out),JF.out,S.na (dd.of gu.out) JD.out,H7.out,HJ5.out,zD⟩,Ma.out.below (Below.next gu.out yl),QI.out.trans (Mv.of (Below.next gu.out yl))⟩
    clear zD yl;go_wp2;go_ret2;exact b8.out
  ·have hE:S.E:=MG.out.resolve_right fun h=>ri (h w3 m JD.out)
   have g8:w3.cell? ⟨8,0,none⟩=some (.iface 360 (.pointer (some (A 8)))):=Ma.out.g 8 (by decide)
   have b8:Hid (∀ k,lq S A db F w n (j+1) j bb nb y (fun k m=>m.join k nb) (.returned (.tuple #[.pointer none,.iface 360 (.pointer (some (A 8)))])) (w3.drewN k)∧Dv base A db F d (w3.drewN k)∧Mv db F w (w3.drewN k)):=fun k=>⟨.inl ⟨hE,rfl⟩,Ma.out.below (aB (Below.refl _ _) _),QI.out.trans (Mv.of (aB (Below.refl _ _) _))⟩
   have AO:decide (m.us.length=0)=!decide (nb.us.length=0):=by
    by_cases h1:m.us.length=0 <;> by_cases h2:nb.us.length=0 <;> simp_all
   rw [AO] at Me;generalize decide (nb.us.length=0)=bk at *;clear ri AO hE;go_wp2_with fail;refine Me.out.mono ?_
   rintro e w3' ⟨rfl,rfl⟩;go_wp2_with fail;refine MH.out.mono ?_
   rintro e w3' ⟨rfl,rfl⟩;clear Me MH;cases bk
   all_goals
    go_wp2_with fail;go_quiet (fail)
    go_wp2;go_ret2;exact b8.out _
theorem Way.MX{d:S.V.bD}{X:Type}{S:Sys d X}{Pk:SN→Nat→Prop}{w:World}:∀ {t:List (kT X)} {x z:X} {s:kT X},Way S Pk w x (t++[s]) z→Way S Pk w x t s.x∧Tn S w s∧¬ s.n.us.length=0∧Pk s.n s.at'∧s.at'<s.n.us.length∧S.sub s.x s.at' z
 | [],_,_,_,⟨h1,h2,h3,h4,h5,z,h6,h7⟩=>by
  have h7:z=_:=h7;subst h7;exact ⟨h1.symm,h2,h3,h4,h5,h1▸h6⟩
 | _::_,_,_,_,⟨h1,h2,h3,h4,h5,z,h6,h7⟩=>by
  obtain ⟨g1,g2⟩:=Way.MX h7;exact ⟨⟨h1,h2,h3,h4,h5,z,h6,g1⟩,g2⟩
def UpS{d:S.V.bD}{X:Type}(S:Sys d X)(A:Nat→Addr)(Fl:World→SN→X→Prop)(x:X)(e:Ending)(w':World):Prop :=
 (S.E∧e=oO A)∨∃ b' n' pv lv cv,e = .returned (.tuple #[.pointer (some ⟨b',0,none⟩),.nilIface])∧dM w' b' n' pv lv cv∧Fl w' n' x
theorem yx{base:Nat}{A:Nat→Addr}{db:Nat}{F:Nat→Prop}{d:S.V.bD}{X:Type}(S:Sys d X)(Pk:SN→Nat→Prop)(Fl:World→SN→X→Prop)(hfk:∀ W n x,Fl W n x→n.zB)(tb:Nat)(rv:Value)(a:Option Addr)(c:Nat)(l:List W.Lk)(ss:List (kT X))(x y:X)(pv:Value)(ps:List Pr)(w0 w:World)(hL:l=[]∧ss=[]∨∃ q,l=ss.map kT.lk++[q])(dB:ss.length≤64)(ho:sP w w0.heap.size (.slice a l.length c) l)(kt:Way S Pk w x ss y)(hp:gZ w pv ps)(WY:(∀ p ∈ ps,cF p=true)∧ps.length≤4000)(kU:∀ W,Fl W ⟨ps,0,[],[]⟩ y)(ht:B.au w tb #[.pointer (some ⟨db,0,none⟩),rv] 100)(hv:Dv base A db F d w)(il:Dv base A db F d w0)(hm:Mv db F w0 w)(zH:∀ (W:World) (s:kT X) (z:X) (bb:Nat) (nb:SN) (pb lb cb:Value),Dv base A db F d W→B.au W tb #[.pointer (some ⟨db,0,none⟩),rv] 100→Tn S W s→¬ s.n.us.length=0→Pk s.n s.at'→s.at'<s.n.us.length→S.sub s.x s.at' z→dM W bb nb pb lb cb→Fl W nb z→Calls prog 82 #[.pointer (some ⟨tb,0,none⟩),.agg #[.pointer (some ⟨s.b,0,none⟩),.int .i64 (s.at':Int)],.pointer (some ⟨bb,0,none⟩)] W fun e w'=>UpS S A Fl s.x e w'∧Dv base A db F d w'∧Mv db F W w'):Calls prog 47 #[.pointer (some ⟨tb,0,none⟩),.slice a l.length c,pv] w fun e w'=>(S.E∧e = .returned (.iface 360 (.pointer (some (A 8))))∧Dv base A db F d w'∧Mv db F w0 w'∧B.au w' tb #[.pointer (some ⟨db,0,none⟩),rv] 100)∨∃ (W W2:World) (b:Nat) (n:SN) (pn ln cn u:Value),e = .returned .nilIface∧dM W b n pn ln cn∧Fl W n x∧oP W b n (.returned u) W2∧Dv base A db F d W2∧Mv db F w0 W2∧B.au W2 tb #[.pointer (some ⟨db,0,none⟩),rv] 100∧w'=W2.setCell ⟨tb,1,none⟩ u:=by
 obtain ⟨xa,xc,KR⟩:=hp.form;subst KR;obtain ⟨P,hP⟩ : ∃ P,P=ps.length:=⟨_,rfl⟩;obtain ⟨L,Jl⟩ : ∃ L,L=l.length:=⟨_,rfl⟩;rw [← hP] at hp ⊢;rw [← Jl] at ho ⊢;have q0:=ai w (.cells #[.slice xa P xc,.int .i64 0,.slice none 0 0,.slice none 0 0] 155);have xr:=B.au.new w #[.slice xa P xc,.int .i64 0,.slice none 0 0,.slice none 0 0] 155;have HR:Hid (dM (w.alloc (.cells #[.slice xa P xc,.int .i64 0,.slice none 0 0,.slice none 0 0] 155)) w.heap.size ⟨ps,0,[],[]⟩ (.slice xa P xc) (.slice none 0 0) (.slice none 0 0)):=⟨xr,hp.below q0,B.dm.nil _,(C.bQ.nil _ 0).at,WY.1,WY.2,(fun p hp=>by simp at hp),by simp,by simp⟩
 have hlen:((L:Int) - 2=(ss.length:Int) - 1∧L=ss.length+1)∨(L=0∧ss=[]):=by
  rcases hL with ⟨h1,h2⟩ | ⟨q,h1⟩
  ·right;rw [Jl,h1];exact ⟨rfl,h2⟩
  ·left;rw [Jl,h1,ae,az];exact ⟨by simp;omega,by simp⟩
 have fL:=ab hlen;have mG:=ab dB;have HL:=ab hL;have HO:=ab (ho.below q0);have HW:=ab (kt.cx (dd.of q0));have HT:=ab (ht.below q0);have HV:=ab (hv.below q0);have MD:=ab il;have HM:=ab (hm.trans (Mv.of q0));have MI:=ab kU;have iw:=ab zH;have WC:=ab hfk;have yW:=ab Jl;have Zp:(L:Int)≤65:=by
  rcases hlen with ⟨_,h⟩ | ⟨h,_⟩ <;> omega
 have Xi:(0:Int)≤(L:Int):=by omega
 clear hL dB ho kt hp WY kU ht hv il hm zH hfk Jl hP q0 xr hlen;go_enter func47,ntmps47;go_wp2;go_loopw [7,8] (fun nv iv wr=>∃ (s1 s2:List (kT X)) (z:X) (bb:Nat) (nb:SN) (pb lb cb:Value) (i:Int),nv = .pointer (some ⟨bb,0,none⟩)∧iv = .int .i64 i∧ss=s1++s2∧(i=(s1.length:Int) - 1∨i = -2∧ss=[])∧Way S Pk wr x s1 z∧dM wr bb nb pb lb cb∧Fl wr nb z∧sP wr w0.heap.size (.slice a L c) l∧Dv base A db F d wr∧Mv db F w0 wr∧B.au wr tb #[.pointer (some ⟨db,0,none⟩),rv] 100) (fun _ iv _=>(intOf iv+1).toNat)
 case atStart =>
  refine ⟨ss,[],y,_,_,_,_,_,(L:Int) - 2,rfl,rfl,by simp,?_,HW.out,HR.out,MI.out _,HO.out,HV.out,HM.out,HT.out⟩
  rcases fL.out with ⟨h,_⟩ | ⟨h1,h2⟩
  ·exact .inl h
  ·right;subst h1;exact ⟨by omega,h2⟩
 case round =>
  obtain ⟨s1,s2,z,bb,nb,pb,lb,cb,i,rfl,rfl,Fv,hi,kt,hs,kU,ho,hv,hm,ht⟩:=hrel;clear HW HR HO HV HM HT;rcases List.eq_nil_or_concat s1 with rfl | ⟨t,s,rfl⟩
  ·have AM:¬ (0:Int)≤i:=by
    rcases hi with h | ⟨h,_⟩
    ·simp at h;omega
    ·omega
   have hz:x=z:=kt;subst hz;have Xn:=ab (Gc A bb nb pb lb cb wr hs (WC.out _ _ _ kU) hv.B0);have HS:=ab hs;have HF:=ab kU;have qY:=ab hv;have QJ:=ab hm;have Fa:=ab ht;clear Fv hi kt hs kU ho hv hm ht;go_wp2_with fail;refine Xn.out.mono ?_
   rintro e w2 WW;have aY:=WW.1;obtain ⟨u,hu,ON⟩ : ∃ u,e = .returned u∧(u = .nilIface∨∃ t x,u = .iface t x):=by
    rcases WW.2 with ⟨_,_,_,_,_,_,_,_,_,_,_,_,_,_,_,_,_,_,_,h,_⟩ | ⟨_,_,_,p,_,h⟩ | ⟨_,_,_,h⟩ | ⟨_,_,h⟩
    ·exact ⟨_,h,.inr (bJ _)⟩
    ·exact ⟨_,h,.inr (bJ _)⟩
    ·exact ⟨_,h,.inl rfl⟩
    ·exact ⟨_,h,.inr (bJ _)⟩
   subst hu;have vU:=Fa.out.below aY;have k1:=vU.c1;have k2:=vU.free 1;have b8:Hid (dM wr bb nb pb lb cb∧Fl wr nb x∧oP wr bb nb (.returned u) w2∧Dv base A db F d w2∧Mv db F w0 w2∧B.au w2 tb #[.pointer (some ⟨db,0,none⟩),rv] 100):=⟨HS.out,HF.out,WW,qY.out.below aY,QJ.out.trans (Mv.of aY),vU⟩;clear WW aY vU Xn;rcases ON with rfl | ⟨ut,ux,rfl⟩
   ·go_wp2;go_ret;exact .inr ⟨wr,w2,bb,nb,pb,lb,cb,_,rfl,b8.out.1,b8.out.2.1,b8.out.2.2.1,b8.out.2.2.2.1,b8.out.2.2.2.2.1,b8.out.2.2.2.2.2,rfl⟩
   ·go_wp2;go_ret;exact .inr ⟨wr,w2,bb,nb,pb,lb,cb,_,rfl,b8.out.1,b8.out.2.1,b8.out.2.2.1,b8.out.2.2.2.1,b8.out.2.2.2.2.1,b8.out.2.2.2.2.2,rfl⟩
  ·have hii:i=(t.length:Int):=by
    rcases hi with h | ⟨_,h⟩
    ·rw [List.concat_eq_append,ae] at h;simp at h;omega
    ·rw [h] at Fv;have:=congrArg List.length Fv;simp at this
   subst hii;rw [List.concat_eq_append] at kt Fv;obtain ⟨vT,cC,Eh,ze,bX,mR⟩:=kt.MX;have hq:l[t.length]?=some s.lk∧t.length<L:=by
    rcases HL.out with ⟨_,h2⟩ | ⟨q,h1⟩
    ·rw [h2] at Fv;have:=congrArg List.length Fv;simp at this
    ·refine ⟨?_,?_⟩
     ·rw [h1,Fv];simp
     ·rw [yW.out,h1,Fv];simp
   have hr:=ho.1.at;have zF:t.length<l.length:=by rw [← yW.out];exact hq.2
   have oC:l[t.length]=s.lk:=by
    have:=af zF;rw [hq.1] at this;exact (Option.some.inj this).symm
   obtain ⟨g,o,rfl,c1,c2⟩:=W.dm.spot hr t.length zF;rw [oC] at c1 c2;have Ut:wr.cell? ⟨g,o+t.length*2,none⟩=some (.pointer (some ⟨s.b,0,none⟩)):=c1;have c2':wr.cell? ⟨g,o+t.length*2+1,none⟩=some (.int .i64 (s.at':Int)):=c2;have QP:=ab (iw.out wr s z bb nb pb lb cb hv ht cC Eh ze bX mR hs kU);have AM:(0:Int)≤(t.length:Int):=by omega
   have Cu:(t.length:Int)<(L:Int):=by omega
   have pH:=ab ho;have qY:=ab hv;have QJ:=ab hm;have Fa:=ab ht;have L9:=ab vT;have Ci:=ab Fv;clear Fv hi kt hs kU ho hv hm ht cC Eh ze bX mR hq hr zF oC c1 c2 vT;go_wp2_with fail;refine QP.out.mono ?_
   rintro e w1 ⟨TZ,eH,fI⟩;have aw:=fI.cx qY.out;have Ba:=ab (dz aw Fa.out);have JE:=ab (QJ.out.trans fI);have wi:=ab eH;rcases TZ with ⟨hE,rfl⟩ | ⟨b',n',QS,U3,cv',rfl,WV,hf'⟩
   ·have b8:Hid (S.E∧Dv base A db F d w1∧Mv db F w0 w1∧B.au w1 tb #[.pointer (some ⟨db,0,none⟩),rv] 100):=⟨hE,wi.out,JE.out,Ba.out⟩;unfold oO;clear hE eH fI aw QP Ut c2';go_wp2;go_ret;exact .inl ⟨b8.out.1,rfl,b8.out.2⟩
   ·have Hw:Hid (∃ (s1 s2:List (kT X)) (z:X) (bb:Nat) (nb:SN) (pb lb cb:Value) (i:Int),(.pointer (some ⟨b',0,none⟩):Value) = .pointer (some ⟨bb,0,none⟩)∧(.int .i64 ((t.length:Int) - 1):Value) = .int .i64 i∧ss=s1++s2∧(i=(s1.length:Int) - 1∨i = -2∧ss=[])∧Way S Pk w1 x s1 z∧dM w1 bb nb pb lb cb∧Fl w1 nb z∧sP w1 w0.heap.size (.slice (some ⟨g,o,none⟩) L c) l∧Dv base A db F d w1∧Mv db F w0 w1∧B.au w1 tb #[.pointer (some ⟨db,0,none⟩),rv] 100):=⟨t,s::s2,s.x,b',n',QS,U3,cv',_,rfl,rfl,by rw [Ci.out];simp,.inl rfl,L9.out.cx aw,WV,hf',pH.out.mv fI MD.out.LC,wi.out,JE.out,Ba.out⟩
    clear eH fI aw QP Ut c2' WV hf';go_wp2;go_roundw
    case rel=>exact Hw.out
    case measure=>simp [intOf]
def Mn(w:World):Nat→C.Ch→Prop
 | _,.pg _=>True
 | 0,.nd _=>False
 | k+1,.nd b=>∃ n pv lv cv,dM w b n pv lv cv∧Fit n∧∀ p ∈ n.us,Mn w k p
theorem Mn.cx{w w':World}(ha:dd w w'):∀ {k:Nat} {p:C.Ch},Mn w k p→Mn w' k p
 | 0,.pg _,_=>trivial
 | _+1,.pg _,_=>trivial
 | _+1,.nd _,⟨n,pv,lv,cv,h1,h2,h3⟩=>⟨n,pv,lv,cv,h1.cx ha,h2,fun p hp=>Mn.cx ha (h3 p hp)⟩
def Any(w:World)(p:C.Ch):Prop:=∃ k,Mn w k p
theorem Any.cx{w w':World}{p:C.Ch}(h:Any w p)(ha:dd w w'):Any w' p:=by
 obtain ⟨k,h⟩:=h;exact ⟨k,h.cx ha⟩
theorem Any.pg(w:World)(id:Int):Any w (.pg id):=⟨0,trivial⟩
theorem SN.TN{n:SN}(h:¬ n.us.length=0):n.sz=B.jw n.lk:=by unfold SN.sz;rw [if_neg h]
theorem mm.below{w:World}{n:SN}{i bb:Nat}{nb:SN}{e:Ending}{w':World}(h:mm w n i bb nb e w'):Below w.heap.size w w':=by
 rcases h with ⟨_,_,_,_,_,_,_,h⟩ | ⟨_,_,_,_,_,_,_,_,_,_,_,_,_,_,_,_,_,_,_,_,_,h⟩
 ·exact h
 ·exact h
theorem Bi:B.jw []=6:=rfl
end T
end Go.Proofs.YtihmgigfkmofnaaGreatDoor
