import Derived.Test.YtihmgigfkmofnaaGreatDoorG21
set_option maxHeartbeats 8000000
set_option maxRecDepth 100000
open Go.Proofs.Tryz
namespace Go.Proofs.YtihmgigfkmofnaaGreatDoor
namespace T
open Go.RowKit
theorem Dj(tb bb:Nat)(w:World):Calls prog 104 #[.pointer (some ⟨tb,0,none⟩),.iface 152 (.pointer (some ⟨bb,0,none⟩))] w fun e w'=>e = .returned (.tuple #[.pointer (some ⟨bb,0,none⟩),.nilIface])∧w=w':=by
 have a1:=fun W=>JH (.pointer (some ⟨bb,0,none⟩)) W
 have a2:=fun W=>Q5 (.pointer (some ⟨bb,0,none⟩)) W
 go_enter func104,ntmps104;go_wp2;go_ret2;exact ⟨rfl,rfl⟩
theorem Aw(ba bb:Nat)(na nb:SN)(pa la ca pb lb cb:Value)(key:ByteArray)(w:World)(ha:dQ w ba na pa la ca)(hb:dQ w bb nb pb lb cb)(X6:na.zo)(WH:nb.zo)(Zw:na.sz≤4072)(hsb:nb.sz≤4072)(hs:na.us.length=0↔nb.us.length=0)(hk:cP key):Calls prog 126 #[.pointer (some ⟨ba,0,none⟩),.string key,.pointer (some ⟨bb,0,none⟩)] w fun e w'=>RX w (na.join key nb) e w':=by
 unfold SN.join;unfold SN.sz at Zw hsb;by_cases h0:na.us.length=0
 ·rw [if_pos h0] at Zw;rw [if_pos (hs.1 h0)] at hsb;rw [if_pos h0];have:=iE na.ps;have:=iE nb.ps;exact Le ba bb na nb pa la ca pb lb cb key w ha hb h0 (by omega)
 ·rw [if_neg h0] at Zw;rw [if_neg (fun h=>h0 (hs.2 h))] at hsb
  rw [if_neg h0];have:=B.q9 na.lk;have:=B.q9 nb.lk;have e1:=X6.resolve_left h0;have e2:=WH.resolve_left (fun h=>h0 (hs.2 h))
  exact Tb ba bb na nb pa la ca pb lb cb key w ha hb h0 (by omega) (by omega) hk
theorem Ee{na nb:SN}{key:ByteArray}(X6:na.zo)(WH:nb.zo)(hs:na.us.length=0↔nb.us.length=0):(na.join key nb).zo:=by
 unfold SN.join;by_cases h0:na.us.length=0
 ·rw [if_pos h0];exact .inl rfl
 ·rw [if_neg h0];have e1:=X6.resolve_left h0;have e2:=WH.resolve_left (fun h=>h0 (hs.2 h))
  right
  show (na.us++nb.us).length=(B.iU na.lk key nb.f nb.lk).length+1
  unfold B.iU;rw [ae,ae,List.length_cons];omega
def lU{d:S.V.bw}{X:Type}(S:Sys d X)(A:Nat→Addr)(db:Nat)(F:Nat→Prop)(w:World)(n:SN)(i l bb:Nat)(nb:SN)(y:X)(jn:ByteArray→SN→SN)(e:Ending)(w':World):Prop :=
 (S.E∧e=qP A)∨∃ (b':Nat) (w2:World) (m:SN) (k:ByteArray) (z:Int) (bj:Nat) (pj lj cj:Value),e = .returned (.tuple #[.pointer (some ⟨b',0,none⟩),.nilIface])∧Mv db F w w2∧n.lk[l]?=some (k,z)∧S.N w2 m y∧(m.us.length=0↔nb.us.length=0)∧dQ w2 bj (jn k m) pj lj cj ∧
  mJ w2 ⟨[],n.f,B.cA n.lk l,C.cA (n.us.set i (.nd bb)) (l+1)⟩ l bj (jn k m) (.returned (.pointer (some ⟨b',0,none⟩))) w'
theorem Db{base:Nat}{A:Nat→Addr}{db:Nat}{F:Nat→Prop}{d:S.V.bw}{X:Type}(S:Sys d X)(tb:Nat)(rv:Value)(b bb:Nat)(n nb:SN)(pv lv cv pb lb cb:Value)(y:X)(p:C.Ch)(w:World)(h:dQ w b n pv lv cv)(hb:dQ w bb nb pb lb cb)(hi:0<n.us.length)(hlen:n.us.length=n.lk.length+1)(eh:n.lk.length≤3999)(h1:0<n.lk.length)(gT:nb.zo)(zv:nb.sz<nb.min)(hp:n.us[1]?=some p)(hk:S.K w p y)(ht:B.au w tb #[.pointer (some ⟨db,0,none⟩),rv] 100)(hv:Dv base A db F d w)(Ew:S.E∨∀ W m,S.N W m y→(m.us.length=0↔nb.us.length=0)):Calls prog 82 #[.pointer (some ⟨tb,0,none⟩),.agg #[.pointer (some ⟨b,0,none⟩),.int .i64 0],.pointer (some ⟨bb,0,none⟩)] w fun e w'=>lU S A db F w n 0 0 bb nb y (fun k m=>nb.join k m) e w'∧Dv base A db F d w'∧Mv db F w w':=by
 have q0:=ai w (.cells #[.pointer (some ⟨b,0,none⟩),.int .i64 0] 159);have x0:=B.au.new w #[.pointer (some ⟨b,0,none⟩),.int .i64 0] 159;generalize Cw:w.alloc (.cells #[.pointer (some ⟨b,0,none⟩),.int .i64 0] 159)=W0 at *;have Rj:=ab (mZ bb nb pb lb cb W0 (hb.below q0));rw [show decide (nb.sz<nb.min)=true by simp [zv]] at Rj
 have HH:=ab h;have XG:=ab hb;have HI:Hid (0<n.us.length∧n.us.length=n.lk.length+1∧n.lk.length≤3999∧0<n.lk.length):=⟨hi,hlen,eh,h1⟩;have Cj:=ab gT;have Nc:=ab zv;have HP:=ab hp;have HK:=ab hk;have HT:=ab ht;have HV:=ab hv;have Nk:=ab Ew;have HQ:=ab q0;have HX:=ab x0;have Ur:Hid (∀ W,Below w.heap.size w W→Calls prog 125 #[.pointer (some ⟨b,0,none⟩),.int .i64 0,.iface 152 (.pointer (some ⟨bb,0,none⟩))] W fun e w'=>∃ b2 p2 l2 c2,e = .returned (.pointer (some ⟨b2,0,none⟩))∧dQ w' b2 ⟨[],n.f,n.lk,n.us.set 0 (.nd bb)⟩ p2 l2 c2∧Below W.heap.size W w'):=fun W hW=>by
  have hh:=mX b n pv lv cv 0 (.nd bb) W (h.below hW) hi;rw [show ((0:Nat):Int)=0 by omega] at hh
  exact hh
 clear h hb hi hlen eh h1 gT zv hp hk ht hv Ew q0 x0;go_enter func82,ntmps82;go_wp2_with fail;refine Rj.out.mono ?_
 rintro e w1 ⟨rfl,aM⟩;have bN:=ab (Below.next HQ.out aM);have k0:=(HX.out.below aM).c0;have k1:=(HX.out.below aM).c1;have zL:=ab (HX.out.below aM);clear aM Rj;go_wp2_with fail
 go_region_held3 (fun w'=>w'.cell? ⟨w.heap.size,0,none⟩=some (.pointer (some ⟨b,0,none⟩))∧w'.cell? ⟨w.heap.size,1,none⟩=some (.int .i64 0)) (go_keep)
  (first
   | (go_at_call 125;refine (Ur.out _ (by first | exact bN.out | exact B.aK bN.out)).mono ?_;rintro e w2 ⟨b2,p2,l2,c2,rfl,jv,aS⟩;have lD:=ab jv;have bG:=ab (Below.next (B.aK bN.out) aS);have m0:=(zL.out.below (B.du aS)).c0;have m1:=(zL.out.below (B.du aS)).c1;clear jv aS))
 all_goals
  have JG:=cW.of bG.out;obtain ⟨ca,cc,sC,-,-,bm⟩:=lD.out.kids;rw [C.aT,Nat.mul_one,cx] at sC;subst sC;obtain ⟨g,o,rfl,cI⟩:=bm 0 (C.Ch.nd bb).val (by unfold C.bh;rw [aL,List.getElem?_set_self HI.out.1];rfl)
  obtain ⟨g',o',vT,cS⟩:=bm 1 p.val (by unfold C.bh;rw [aL,List.getElem?_set_ne (by omega),HP.out];rfl)
  cases vT;have Us:=ab (oZ S p y tb rv w2 (S.ka JG HK.out) (ed JG HT.out) (HV.out.below bG.out));have HPX:=ab (bP p);have p3:=lD.out.c3;have hI1:(0:Int)<(n.us.length:Int):=by have:=HI.out;omega
  have hI2:(0:Int)+1<(n.us.length:Int):=by have:=HI.out;omega
  have hI0:(0:Int)≤(0:Int):=by omega
  have hI4:(n.us.length:Int)≤4000:=by have:=HI.out;omega
  have hI3:(0:Int)≤(0:Int)+1:=by omega
  have zP:Hid (∃ k z,n.lk[0]?=some (k,z)):=⟨_,_,af HI.out.2.2.2⟩;have cI2:w2.cell? ⟨g,o,none⟩=some (.iface 152 (.pointer (some ⟨bb,0,none⟩))):=cI;have HCI:=ab cI2
  rw [show max (IntKind.i64.wrap (-1)) 0=0 by decide]
  clear bm JG k0 k1 m0 m1 zL HX HQ Cw HK HP cI;obtain ⟨pt,px,iV⟩:=HPX.out;rw [iV] at Us cS;clear iV HPX;go_wp2_with fail;refine (Dj tb bb _).mono ?_
  rintro e w2' ⟨rfl,rfl⟩;go_wp2_with fail;refine Us.out.mono ?_
  rintro e w3 ⟨Ei,yV,sA⟩;have RV:=sA.cH (HV.out.below bG.out);have CC:=ab ((Mv.of bG.out).trans sA);have Fq:=ab yV;have Nf:=ab (lD.out.cH RV);have eG:=ab ((XG.out.below bG.out).cH RV);clear cI2;rcases Ei with ⟨hE,rfl⟩ | ⟨bs,m,ps,ls,cs,rfl,zv,lX⟩
  ·have ch:Hid (lU S A db F w n 0 0 bb nb y (fun k m=>nb.join k m) (qP A) w3∧Dv base A db F d w3∧Mv db F w w3):=⟨.inl ⟨hE,rfl⟩,Fq.out,CC.out⟩
   unfold qP at ch ⊢;clear yV sA RV hE Us p3 cS lD;go_wp2;go_ret2;exact ch.out
  have Rk:=ab zv;have JQ:=ab lX;have Xx:=ab (S.fit lX);have MK:=ab (cB bb nb pb lb cb w3 eG.out);have Nl:=ab (cB bs m ps ls cs w3 Rk.out);clear zv lX yV sA RV;by_cases p8:m.us.length=0↔nb.us.length=0
  ·have Ij:=ab p8;have AU:decide (nb.us.length=0)=decide (m.us.length=0):=by
    rw [kB,decide_eq_true_eq,decide_eq_true_eq]
    first | exact p8 | exact p8.symm
   rw [AU] at MK;generalize decide (m.us.length=0)=bk at *;clear p8 AU;obtain ⟨k,z,my⟩:=zP.out;have FP:=ab my;have oG:cP k:=HH.out.fine.2.2.1 _ (cG my);obtain ⟨la2,lc2,pN,-,-,Cq⟩:=Nf.out.bh;subst pN;have Qg:0<n.lk.length:=HI.out.2.2.2;obtain ⟨g2,o2,rfl,cK,-⟩:=Cq 0 Qg;have hek:n.lk[0]=(k,z):=by
    have:=af Qg;rw [my] at this;exact (Option.some.inj this).symm
   rw [show (⟨[],n.f,n.lk,n.us.set 0 (.nd bb)⟩ : SN).lk[0]=(k,z) from hek] at cK
   have cK2:w3.cell? ⟨g2,o2,none⟩=some (.string k):=by simpa using cK
   have p2:=Nf.out.c2;clear cK;have Cx:(0:Int)<(n.lk.length:Int):=by omega
   have HJ:=ab (Aw bb bs nb m pb lb cb ps ls cs k w3 eG.out Rk.out Cj.out Xx.out.1 (by have:=Nc.out;unfold SN.min at this;split at this <;> omega) Xx.out.2.1 (by have:=Ij.out;first | exact this | exact this.symm) oG)
   have HWO:Hid (∀ W,Below w3.heap.size w3 W→Calls prog 127 #[.pointer (some ⟨b2,0,none⟩),.int .i64 (0:Int)] W fun e w'=>RX W ⟨[],n.f,B.cA n.lk 0,C.cA (n.us.set 0 (.nd bb)) (0+1)⟩ e w'):=fun W hW=>wz A b2 _ _ _ _ 0 W (Nf.out.below hW) Qg (by show (n.us.set 0 _).length=n.lk.length+1;rw [cx];exact HI.out.2.1) (Fq.out.below hW).zG
   have fU:(B.cA n.lk 0).length=n.lk.length - 1:=by unfold B.cA;rw [ae,ag,ao];omega
   have iF:(C.cA (n.us.set 0 (.nd bb)) (0+1)).length=n.us.length - 1:=by unfold C.cA;rw [ae,ag,ao,cx];have:=HI.out;omega
   have Fp:Hid (∀ W b5 p5 l5 c5 bj pj lj cj,Below w3.heap.size w3 W→dQ W b5 ⟨[],n.f,B.cA n.lk 0,C.cA (n.us.set 0 (.nd bb)) (0+1)⟩ p5 l5 c5→dQ W bj ((fun k m=>nb.join k m) k m) pj lj cj→Calls prog 124 #[.pointer (some ⟨b5,0,none⟩),.int .i64 (0:Int),.pointer (some ⟨bj,0,none⟩)] W fun e w'=>∃ b',e = .returned (.pointer (some ⟨b',0,none⟩))∧mJ W ⟨[],n.f,B.cA n.lk 0,C.cA (n.us.set 0 (.nd bb)) (0+1)⟩ 0 bj ((fun k m=>nb.join k m) k m) (.returned (.pointer (some ⟨b',0,none⟩))) w'∧Below W.heap.size W w'):=fun W b5 p5 l5 c5 bj pj lj cj hW h5 hj=>by
    refine (sN A b5 bj _ _ p5 l5 c5 pj lj cj 0 W h5 hj (by show 0<(C.cA _ _).length;rw [iF];have:=HI.out;omega) (by show (C.cA _ _).length=(B.cA _ _).length+1;rw [fU,iF];have:=HI.out;omega) (by show (B.cA _ _).length≤3999;rw [fU];have:=HI.out;omega) (Ee Cj.out Xx.out.1 (by have:=Ij.out;first | exact this | exact this.symm)) (Fq.out.below hW).zG).mono fun e w' hh=>?_
    rcases hh with ⟨g1,b',p',l',c',rfl,g2,g3⟩ | ⟨g1,a,k,c,ba,bc,pa,la,ca,pc,lc,cc,g2,g3,g4,b',p',l',c',rfl,g5,g6⟩
    ·exact ⟨b',rfl,.inl ⟨g1,b',p',l',c',rfl,g2,g3⟩,g3⟩
    ·exact ⟨b',rfl,.inr ⟨g1,a,k,c,ba,bc,pa,la,ca,pc,lc,cc,g2,g3,g4,b',p',l',c',rfl,g5,g6⟩,g6⟩
   clear Cq hek oG my zP fU iF;go_wp2_with fail;refine MK.out.mono ?_
   rintro e w3' ⟨rfl,rfl⟩;go_wp2_with fail;refine Nl.out.mono ?_
   rintro e w3' ⟨rfl,rfl⟩;clear MK Nl;cases bk
   all_goals
    go_wp2_with fail;refine HJ.out.mono ?_
    rintro e w4 ⟨bj,pj,lj,cj,rfl,hj,fW⟩;have HJ4:=ab hj;have iY:=ab fW;clear hj fW cK2 p2;go_wp2_with fail;refine (HWO.out w4 iY.out).mono ?_
    rintro e w5 ⟨b5,p5,l5,c5,rfl,h5,lH⟩;have sG:=ab h5;have HJ5:=ab (HJ4.out.below lH);have iu:=ab (Below.next iY.out lH);clear h5 lH;go_wp2_with fail;refine (Fp.out w5 b5 p5 l5 c5 bj pj lj cj iu.out sG.out HJ5.out).mono ?_
    rintro e w6 ⟨b',rfl,zq,Qd⟩;have ch:Hid (lU S A db F w n 0 0 bb nb y (fun k m=>nb.join k m) (.returned (.tuple #[.pointer (some ⟨b',0,none⟩),.nilIface])) w6∧Dv base A db F d w6∧Mv db F w w6):=⟨.inr ⟨b',w5,m,k,z,bj,pj,lj,cj,rfl,CC.out.trans (Mv.of iu.out),FP.out,S.na (cW.of iu.out) JQ.out,Ij.out,HJ5.out,zq⟩,Fq.out.below (Below.next iu.out Qd),CC.out.trans (Mv.of (Below.next iu.out Qd))⟩
    clear zq Qd;go_wp2;go_ret2;exact ch.out
  ·have hE:S.E:=Nk.out.resolve_right fun h=>p8 (h w3 m JQ.out)
   have g8:w3.cell? ⟨8,0,none⟩=some (.iface 360 (.pointer (some (A 8)))):=Fq.out.g 8 (by decide)
   have ch:Hid (∀ k,lU S A db F w n 0 0 bb nb y (fun k m=>nb.join k m) (.returned (.tuple #[.pointer none,.iface 360 (.pointer (some (A 8)))])) (w3.drewN k)∧Dv base A db F d (w3.drewN k)∧Mv db F w (w3.drewN k)):=fun k=>⟨.inl ⟨hE,rfl⟩,Fq.out.below (aA (Below.refl _ _) _),CC.out.trans (Mv.of (aA (Below.refl _ _) _))⟩
   have AU:decide (nb.us.length=0)=!decide (m.us.length=0):=by
    by_cases h1:m.us.length=0 <;> by_cases h2:nb.us.length=0 <;> simp_all
   rw [AU] at MK;generalize decide (m.us.length=0)=bk at *;clear p8 AU hE;go_wp2_with fail;refine MK.out.mono ?_
   rintro e w3' ⟨rfl,rfl⟩;go_wp2_with fail;refine Nl.out.mono ?_
   rintro e w3' ⟨rfl,rfl⟩;clear MK Nl;cases bk
   all_goals
    go_wp2_with fail;go_quiet (fail)
    go_wp2;go_ret2;exact ch.out _
theorem Dc{base:Nat}{A:Nat→Addr}{db:Nat}{F:Nat→Prop}{d:S.V.bw}{X:Type}(S:Sys d X)(tb:Nat)(rv:Value)(b bb:Nat)(n nb:SN)(pv lv cv pb lb cb:Value)(j:Nat)(y:X)(p:C.Ch)(w:World)(h:dQ w b n pv lv cv)(hb:dQ w bb nb pb lb cb)(hi:(j+1)<n.us.length)(hlen:n.us.length=n.lk.length+1)(eh:n.lk.length≤3999)(h1:j<n.lk.length)(gT:nb.zo)(zv:nb.sz<nb.min)(hp:n.us[j]?=some p)(hk:S.K w p y)(ht:B.au w tb #[.pointer (some ⟨db,0,none⟩),rv] 100)(hv:Dv base A db F d w)(Ew:S.E∨∀ W m,S.N W m y→(m.us.length=0↔nb.us.length=0)):Calls prog 82 #[.pointer (some ⟨tb,0,none⟩),.agg #[.pointer (some ⟨b,0,none⟩),.int .i64 ((j:Int)+1)],.pointer (some ⟨bb,0,none⟩)] w fun e w'=>lU S A db F w n (j+1) j bb nb y (fun k m=>m.join k nb) e w'∧Dv base A db F d w'∧Mv db F w w':=by
 have q0:=ai w (.cells #[.pointer (some ⟨b,0,none⟩),.int .i64 ((j:Int)+1)] 159);have x0:=B.au.new w #[.pointer (some ⟨b,0,none⟩),.int .i64 ((j:Int)+1)] 159;generalize Cw:w.alloc (.cells #[.pointer (some ⟨b,0,none⟩),.int .i64 ((j:Int)+1)] 159)=W0 at *;have Rj:=ab (mZ bb nb pb lb cb W0 (hb.below q0));rw [show decide (nb.sz<nb.min)=true by simp [zv]] at Rj
 have HH:=ab h;have XG:=ab hb;have HI:Hid ((j+1)<n.us.length∧n.us.length=n.lk.length+1∧n.lk.length≤3999∧j<n.lk.length):=⟨hi,hlen,eh,h1⟩;have Cj:=ab gT;have Nc:=ab zv;have HP:=ab hp;have HK:=ab hk;have HT:=ab ht;have HV:=ab hv;have Nk:=ab Ew;have HQ:=ab q0;have HX:=ab x0;have Ur:Hid (∀ W,Below w.heap.size w W→Calls prog 125 #[.pointer (some ⟨b,0,none⟩),.int .i64 ((j:Int)+1),.iface 152 (.pointer (some ⟨bb,0,none⟩))] W fun e w'=>∃ b2 p2 l2 c2,e = .returned (.pointer (some ⟨b2,0,none⟩))∧dQ w' b2 ⟨[],n.f,n.lk,n.us.set (j+1) (.nd bb)⟩ p2 l2 c2∧Below W.heap.size W w'):=fun W hW=>by
  have hh:=mX b n pv lv cv (j+1) (.nd bb) W (h.below hW) hi;rw [show (((j+1):Nat):Int)=((j:Int)+1) by omega] at hh
  exact hh
 clear h hb hi hlen eh h1 gT zv hp hk ht hv Ew q0 x0;go_enter func82,ntmps82;go_wp2_with fail;refine Rj.out.mono ?_
 rintro e w1 ⟨rfl,aM⟩;have bN:=ab (Below.next HQ.out aM);have k0:=(HX.out.below aM).c0;have k1:=(HX.out.below aM).c1;have zL:=ab (HX.out.below aM);clear aM Rj;go_wp2_with fail;have Lp:¬ (0:Int) > (j:Int):=by omega
 go_region_held3 (fun w'=>w'.cell? ⟨w.heap.size,0,none⟩=some (.pointer (some ⟨b,0,none⟩))∧w'.cell? ⟨w.heap.size,1,none⟩=some (.int .i64 ((j:Int)+1))) (go_keep)
  (first
   | (go_at_call 125;refine (Ur.out _ (by first | exact bN.out | exact B.aK bN.out)).mono ?_;rintro e w2 ⟨b2,p2,l2,c2,rfl,jv,aS⟩;have lD:=ab jv;have bG:=ab (Below.next (B.aK bN.out) aS);have m0:=(zL.out.below (B.du aS)).c0;have m1:=(zL.out.below (B.du aS)).c1;clear jv aS))
 all_goals
  have JG:=cW.of bG.out;obtain ⟨ca,cc,sC,-,-,bm⟩:=lD.out.kids;rw [C.aT,Nat.mul_one,cx] at sC;subst sC;obtain ⟨g,o,rfl,cI⟩:=bm (j+1) (C.Ch.nd bb).val (by unfold C.bh;rw [aL,List.getElem?_set_self HI.out.1];rfl)
  obtain ⟨g',o',vT,cS⟩:=bm j p.val (by unfold C.bh;rw [aL,List.getElem?_set_ne (by omega),HP.out];rfl)
  cases vT;have Us:=ab (oZ S p y tb rv w2 (S.ka JG HK.out) (ed JG HT.out) (HV.out.below bG.out));have HPX:=ab (bP p);have p3:=lD.out.c3;have hI1:(j:Int)<(n.us.length:Int):=by have:=HI.out;omega
  have hI2:(j:Int)+1<(n.us.length:Int):=by have:=HI.out;omega
  have hI0:(0:Int)≤(j:Int):=by omega
  have hI4:(n.us.length:Int)≤4000:=by have:=HI.out;omega
  have hI3:(0:Int)≤(j:Int)+1:=by omega
  have zP:Hid (∃ k z,n.lk[j]?=some (k,z)):=⟨_,_,af HI.out.2.2.2⟩;have cI2:w2.cell? ⟨g,o+(j+1),none⟩=some (.iface 152 (.pointer (some ⟨bb,0,none⟩))):=cI;have HCI:=ab cI2;clear cI2;have hwj:max (IntKind.i64.wrap (j:Int)) 0=(j:Int):=by rw [IntKind.wrap_i64];have:=HI.out;omega
  first | rw [hwj] | rw [show (j:Int)+1 - 1=(j:Int) by omega,hwj]
  clear bm JG k0 k1 m0 m1 zL HX HQ Cw HK HP cI;obtain ⟨pt,px,iV⟩:=HPX.out;rw [iV] at Us cS;clear iV HPX;go_wp2_with fail;refine Us.out.mono ?_
  rintro e w3 ⟨Ei,yV,sA⟩;have RV:=sA.cH (HV.out.below bG.out);have CC:=ab ((Mv.of bG.out).trans sA);have Fq:=ab yV;have Nf:=ab (lD.out.cH RV);have eG:=ab ((XG.out.below bG.out).cH RV);have cI3:=bL (RV.ifc HCI.out) HCI.out;have p33:=Nf.out.c3;have XX:((j:Int)+1).toNat=j+1:=by omega
  have hwp:wrap64 ((j:Int)+1)=(j:Int)+1:=by unfold wrap64;omega
  rcases Ei with ⟨hE,rfl⟩ | ⟨bs,m,ps,ls,cs,rfl,zv,lX⟩
  ·have ch:Hid (lU S A db F w n (j+1) j bb nb y (fun k m=>m.join k nb) (qP A) w3∧Dv base A db F d w3∧Mv db F w w3):=⟨.inl ⟨hE,rfl⟩,Fq.out,CC.out⟩
   unfold qP at ch ⊢;clear yV sA RV hE Us p3 cS lD;go_wp2;go_ret2;exact ch.out
  go_wp2_with fail;refine (Dj tb bb _).mono ?_
  rintro e w2' ⟨rfl,rfl⟩;have Rk:=ab zv;have JQ:=ab lX;have Xx:=ab (S.fit lX);have MK:=ab (cB bs m ps ls cs w3 Rk.out);have Nl:=ab (cB bb nb pb lb cb w3 eG.out);clear zv lX yV sA RV;by_cases p8:m.us.length=0↔nb.us.length=0
  ·have Ij:=ab p8;have AU:decide (m.us.length=0)=decide (nb.us.length=0):=by
    rw [kB,decide_eq_true_eq,decide_eq_true_eq]
    first | exact p8 | exact p8.symm
   rw [AU] at MK;generalize decide (nb.us.length=0)=bk at *;clear p8 AU;obtain ⟨k,z,my⟩:=zP.out;have FP:=ab my;have oG:cP k:=HH.out.fine.2.2.1 _ (cG my);obtain ⟨la2,lc2,pN,-,-,Cq⟩:=Nf.out.bh;subst pN;have Qg:j<n.lk.length:=HI.out.2.2.2;obtain ⟨g2,o2,rfl,cK,-⟩:=Cq j Qg;have hek:n.lk[j]=(k,z):=by
    have:=af Qg;rw [my] at this;exact (Option.some.inj this).symm
   rw [show (⟨[],n.f,n.lk,n.us.set (j+1) (.nd bb)⟩ : SN).lk[j]=(k,z) from hek] at cK
   have cK2:w3.cell? ⟨g2,o2+j*2,none⟩=some (.string k):=by simpa using cK
   have p2:=Nf.out.c2;clear cK;have Cx:(j:Int)<(n.lk.length:Int):=by omega
   have HJ:=ab (Aw bs bb m nb ps ls cs pb lb cb k w3 Rk.out eG.out Xx.out.1 Cj.out Xx.out.2.1 (by have:=Nc.out;unfold SN.min at this;split at this <;> omega) (by have:=Ij.out;first | exact this | exact this.symm) oG)
   have HWO:Hid (∀ W,Below w3.heap.size w3 W→Calls prog 127 #[.pointer (some ⟨b2,0,none⟩),.int .i64 (j:Int)] W fun e w'=>RX W ⟨[],n.f,B.cA n.lk j,C.cA (n.us.set (j+1) (.nd bb)) (j+1)⟩ e w'):=fun W hW=>wz A b2 _ _ _ _ j W (Nf.out.below hW) Qg (by show (n.us.set (j+1) _).length=n.lk.length+1;rw [cx];exact HI.out.2.1) (Fq.out.below hW).zG
   have fU:(B.cA n.lk j).length=n.lk.length - 1:=by unfold B.cA;rw [ae,ag,ao];omega
   have iF:(C.cA (n.us.set (j+1) (.nd bb)) (j+1)).length=n.us.length - 1:=by unfold C.cA;rw [ae,ag,ao,cx];have:=HI.out;omega
   have Fp:Hid (∀ W b5 p5 l5 c5 bj pj lj cj,Below w3.heap.size w3 W→dQ W b5 ⟨[],n.f,B.cA n.lk j,C.cA (n.us.set (j+1) (.nd bb)) (j+1)⟩ p5 l5 c5→dQ W bj ((fun k m=>m.join k nb) k m) pj lj cj→Calls prog 124 #[.pointer (some ⟨b5,0,none⟩),.int .i64 (j:Int),.pointer (some ⟨bj,0,none⟩)] W fun e w'=>∃ b',e = .returned (.pointer (some ⟨b',0,none⟩))∧mJ W ⟨[],n.f,B.cA n.lk j,C.cA (n.us.set (j+1) (.nd bb)) (j+1)⟩ j bj ((fun k m=>m.join k nb) k m) (.returned (.pointer (some ⟨b',0,none⟩))) w'∧Below W.heap.size W w'):=fun W b5 p5 l5 c5 bj pj lj cj hW h5 hj=>by
    refine (sN A b5 bj _ _ p5 l5 c5 pj lj cj j W h5 hj (by show j<(C.cA _ _).length;rw [iF];have:=HI.out;omega) (by show (C.cA _ _).length=(B.cA _ _).length+1;rw [fU,iF];have:=HI.out;omega) (by show (B.cA _ _).length≤3999;rw [fU];have:=HI.out;omega) (Ee Xx.out.1 Cj.out (by have:=Ij.out;first | exact this | exact this.symm)) (Fq.out.below hW).zG).mono fun e w' hh=>?_
    rcases hh with ⟨g1,b',p',l',c',rfl,g2,g3⟩ | ⟨g1,a,k,c,ba,bc,pa,la,ca,pc,lc,cc,g2,g3,g4,b',p',l',c',rfl,g5,g6⟩
    ·exact ⟨b',rfl,.inl ⟨g1,b',p',l',c',rfl,g2,g3⟩,g3⟩
    ·exact ⟨b',rfl,.inr ⟨g1,a,k,c,ba,bc,pa,la,ca,pc,lc,cc,g2,g3,g4,b',p',l',c',rfl,g5,g6⟩,g6⟩
   clear Cq hek oG my zP fU iF;go_wp2_with fail;refine MK.out.mono ?_
   rintro e w3' ⟨rfl,rfl⟩;go_wp2_with fail;refine Nl.out.mono ?_
   rintro e w3' ⟨rfl,rfl⟩;clear MK Nl;cases bk
   all_goals
    go_wp2_with fail;refine HJ.out.mono ?_
    rintro e w4 ⟨bj,pj,lj,cj,rfl,hj,fW⟩;have HJ4:=ab hj;have iY:=ab fW;clear hj fW cK2 p2;go_wp2_with fail;refine (HWO.out w4 iY.out).mono ?_
    rintro e w5 ⟨b5,p5,l5,c5,rfl,h5,lH⟩;have sG:=ab h5;have HJ5:=ab (HJ4.out.below lH);have iu:=ab (Below.next iY.out lH);clear h5 lH;go_wp2_with fail;refine (Fp.out w5 b5 p5 l5 c5 bj pj lj cj iu.out sG.out HJ5.out).mono ?_
    rintro e w6 ⟨b',rfl,zq,Qd⟩;have ch:Hid (lU S A db F w n (j+1) j bb nb y (fun k m=>m.join k nb) (.returned (.tuple #[.pointer (some ⟨b',0,none⟩),.nilIface])) w6∧Dv base A db F d w6∧Mv db F w w6):=⟨.inr ⟨b',w5,m,k,z,bj,pj,lj,cj,rfl,CC.out.trans (Mv.of iu.out),FP.out,S.na (cW.of iu.out) JQ.out,Ij.out,HJ5.out,zq⟩,Fq.out.below (Below.next iu.out Qd),CC.out.trans (Mv.of (Below.next iu.out Qd))⟩
    clear zq Qd;go_wp2;go_ret2;exact ch.out
  ·have hE:S.E:=Nk.out.resolve_right fun h=>p8 (h w3 m JQ.out)
   have g8:w3.cell? ⟨8,0,none⟩=some (.iface 360 (.pointer (some (A 8)))):=Fq.out.g 8 (by decide)
   have ch:Hid (∀ k,lU S A db F w n (j+1) j bb nb y (fun k m=>m.join k nb) (.returned (.tuple #[.pointer none,.iface 360 (.pointer (some (A 8)))])) (w3.drewN k)∧Dv base A db F d (w3.drewN k)∧Mv db F w (w3.drewN k)):=fun k=>⟨.inl ⟨hE,rfl⟩,Fq.out.below (aA (Below.refl _ _) _),CC.out.trans (Mv.of (aA (Below.refl _ _) _))⟩
   have AU:decide (m.us.length=0)=!decide (nb.us.length=0):=by
    by_cases h1:m.us.length=0 <;> by_cases h2:nb.us.length=0 <;> simp_all
   rw [AU] at MK;generalize decide (nb.us.length=0)=bk at *;clear p8 AU hE;go_wp2_with fail;refine MK.out.mono ?_
   rintro e w3' ⟨rfl,rfl⟩;go_wp2_with fail;refine Nl.out.mono ?_
   rintro e w3' ⟨rfl,rfl⟩;clear MK Nl;cases bk
   all_goals
    go_wp2_with fail;go_quiet (fail)
    go_wp2;go_ret2;exact ch.out _
theorem Way.NA{d:S.V.bw}{X:Type}{S:Sys d X}{Pk:SN→Nat→Prop}{w:World}:∀ {t:List (gD X)} {x z:X} {s:gD X},Way S Pk w x (t++[s]) z→Way S Pk w x t s.x∧RW S w s∧¬ s.n.us.length=0∧Pk s.n s.at'∧s.at'<s.n.us.length∧S.sub s.x s.at' z
 | [],_,_,_,⟨h1,h2,h3,h4,h5,z,h6,h7⟩=>by
  have h7:z=_:=h7;subst h7;exact ⟨h1.symm,h2,h3,h4,h5,h1▸h6⟩
 | _::_,_,_,_,⟨h1,h2,h3,h4,h5,z,h6,h7⟩=>by
  obtain ⟨g1,g2⟩:=Way.NA h7;exact ⟨⟨h1,h2,h3,h4,h5,z,h6,g1⟩,g2⟩
def UpS{d:S.V.bw}{X:Type}(S:Sys d X)(A:Nat→Addr)(Fl:World→SN→X→Prop)(x:X)(e:Ending)(w':World):Prop :=
 (S.E∧e=qP A)∨∃ b' n' pv lv cv,e = .returned (.tuple #[.pointer (some ⟨b',0,none⟩),.nilIface])∧dQ w' b' n' pv lv cv∧Fl w' n' x
theorem yA{base:Nat}{A:Nat→Addr}{db:Nat}{F:Nat→Prop}{d:S.V.bw}{X:Type}(S:Sys d X)(Pk:SN→Nat→Prop)(Fl:World→SN→X→Prop)(hfk:∀ W n x,Fl W n x→n.zo)(tb:Nat)(rv:Value)(a:Option Addr)(c:Nat)(l:List W.Lk)(ss:List (gD X))(x y:X)(pv:Value)(ps:List Pr)(w0 w:World)(hL:l=[]∧ss=[]∨∃ q,l=ss.map gD.lk++[q])(dE:ss.length≤64)(ho:tQ w w0.heap.size (.slice a l.length c) l)(jl:Way S Pk w x ss y)(hp:gM w pv ps)(X1:(∀ p ∈ ps,cN p=true)∧ps.length≤4000)(gU:∀ W,Fl W ⟨ps,0,[],[]⟩ y)(ht:B.au w tb #[.pointer (some ⟨db,0,none⟩),rv] 100)(hv:Dv base A db F d w)(iL:Dv base A db F d w0)(hm:Mv db F w0 w)(zy:∀ (W:World) (s:gD X) (z:X) (bb:Nat) (nb:SN) (pb lb cb:Value),Dv base A db F d W→B.au W tb #[.pointer (some ⟨db,0,none⟩),rv] 100→RW S W s→¬ s.n.us.length=0→Pk s.n s.at'→s.at'<s.n.us.length→S.sub s.x s.at' z→dQ W bb nb pb lb cb→Fl W nb z→Calls prog 82 #[.pointer (some ⟨tb,0,none⟩),.agg #[.pointer (some ⟨s.b,0,none⟩),.int .i64 (s.at':Int)],.pointer (some ⟨bb,0,none⟩)] W fun e w'=>UpS S A Fl s.x e w'∧Dv base A db F d w'∧Mv db F W w'):Calls prog 47 #[.pointer (some ⟨tb,0,none⟩),.slice a l.length c,pv] w fun e w'=>(S.E∧e = .returned (.iface 360 (.pointer (some (A 8))))∧Dv base A db F d w'∧Mv db F w0 w'∧B.au w' tb #[.pointer (some ⟨db,0,none⟩),rv] 100)∨∃ (W W2:World) (b:Nat) (n:SN) (pn ln cn u:Value),e = .returned .nilIface∧dQ W b n pn ln cn∧Fl W n x∧oQ W b n (.returned u) W2∧Dv base A db F d W2∧Mv db F w0 W2∧B.au W2 tb #[.pointer (some ⟨db,0,none⟩),rv] 100∧w'=W2.setCell ⟨tb,1,none⟩ u:=by
 obtain ⟨xa,xc,BN⟩:=hp.form;subst BN;obtain ⟨P,hP⟩ : ∃ P,P=ps.length:=⟨_,rfl⟩;obtain ⟨L,Jv⟩ : ∃ L,L=l.length:=⟨_,rfl⟩;rw [← hP] at hp ⊢;rw [← Jv] at ho ⊢;have q0:=ai w (.cells #[.slice xa P xc,.int .i64 0,.slice none 0 0,.slice none 0 0] 155);have xr:=B.au.new w #[.slice xa P xc,.int .i64 0,.slice none 0 0,.slice none 0 0] 155;have HR:Hid (dQ (w.alloc (.cells #[.slice xa P xc,.int .i64 0,.slice none 0 0,.slice none 0 0] 155)) w.heap.size ⟨ps,0,[],[]⟩ (.slice xa P xc) (.slice none 0 0) (.slice none 0 0)):=⟨xr,hp.below q0,B.di.nil _,(C.b7.nil _ 0).at,X1.1,X1.2,(fun p hp=>by simp at hp),by simp,by simp⟩
 have hlen:((L:Int) - 2=(ss.length:Int) - 1∧L=ss.length+1)∨(L=0∧ss=[]):=by
  rcases hL with ⟨h1,h2⟩ | ⟨q,h1⟩
  ·right;rw [Jv,h1];exact ⟨rfl,h2⟩
  ·left;rw [Jv,h1,ae,az];exact ⟨by simp;omega,by simp⟩
 have kQ:=ab hlen;have mW:=ab dE;have HL:=ab hL;have HO:=ab (ho.below q0);have HW:=ab (jl.cH (cW.of q0));have HT:=ab (ht.below q0);have HV:=ab (hv.below q0);have Ri:=ab iL;have HM:=ab (hm.trans (Mv.of q0));have CD:=ab gU;have iC:=ab zy;have XK:=ab hfk;have sI:=ab Jv;have hLs:(L:Int)≤65:=by
  rcases hlen with ⟨_,h⟩ | ⟨h,_⟩ <;> omega
 have hL0:(0:Int)≤(L:Int):=by omega
 clear hL dE ho jl hp X1 gU ht hv iL hm zy hfk Jv hP q0 xr hlen;go_enter func47,ntmps47;go_wp2;go_loopw [7,8] (fun nv iv wr=>∃ (s1 s2:List (gD X)) (z:X) (bb:Nat) (nb:SN) (pb lb cb:Value) (i:Int),nv = .pointer (some ⟨bb,0,none⟩)∧iv = .int .i64 i∧ss=s1++s2∧(i=(s1.length:Int) - 1∨i = -2∧ss=[])∧Way S Pk wr x s1 z∧dQ wr bb nb pb lb cb∧Fl wr nb z∧tQ wr w0.heap.size (.slice a L c) l∧Dv base A db F d wr∧Mv db F w0 wr∧B.au wr tb #[.pointer (some ⟨db,0,none⟩),rv] 100) (fun _ iv _=>(intOf iv+1).toNat)
 case atStart =>
  refine ⟨ss,[],y,_,_,_,_,_,(L:Int) - 2,rfl,rfl,by simp,?_,HW.out,HR.out,CD.out _,HO.out,HV.out,HM.out,HT.out⟩
  rcases kQ.out with ⟨h,_⟩ | ⟨h1,h2⟩
  ·exact .inl h
  ·right;subst h1;exact ⟨by omega,h2⟩
 case round =>
  obtain ⟨s1,s2,z,bb,nb,pb,lb,cb,i,rfl,rfl,FF,hi,jl,hs,gU,ho,hv,hm,ht⟩:=hrel;clear HW HR HO HV HM HT;rcases List.eq_nil_or_concat s1 with rfl | ⟨t,s,rfl⟩
  ·have yW:¬ (0:Int)≤i:=by
    rcases hi with h | ⟨h,_⟩
    ·simp at h;omega
    ·omega
   have hz:x=z:=jl;subst hz;have Ym:=ab (Gl A bb nb pb lb cb wr hs (XK.out _ _ _ gU) hv.zG);have HS:=ab hs;have HF:=ab gU;have tU:=ab hv;have Rq:=ab hm;have Ig:=ab ht;clear FF hi jl hs gU ho hv hm ht;go_wp2_with fail;refine Ym.out.mono ?_
   rintro e w2 XY;have aS:=XY.1;obtain ⟨u,hu,Pw⟩ : ∃ u,e = .returned u∧(u = .nilIface∨∃ t x,u = .iface t x):=by
    rcases XY.2 with ⟨_,_,_,_,_,_,_,_,_,_,_,_,_,_,_,_,_,_,_,h,_⟩ | ⟨_,_,_,p,_,h⟩ | ⟨_,_,_,h⟩ | ⟨_,_,h⟩
    ·exact ⟨_,h,.inr (bP _)⟩
    ·exact ⟨_,h,.inr (bP _)⟩
    ·exact ⟨_,h,.inl rfl⟩
    ·exact ⟨_,h,.inr (bP _)⟩
   subst hu;have tk:=Ig.out.below aS;have k1:=tk.c1;have k2:=tk.free 1;have ch:Hid (dQ wr bb nb pb lb cb∧Fl wr nb x∧oQ wr bb nb (.returned u) w2∧Dv base A db F d w2∧Mv db F w0 w2∧B.au w2 tb #[.pointer (some ⟨db,0,none⟩),rv] 100):=⟨HS.out,HF.out,XY,tU.out.below aS,Rq.out.trans (Mv.of aS),tk⟩;clear XY aS tk Ym;rcases Pw with rfl | ⟨ut,ux,rfl⟩
   ·go_wp2;go_ret;exact .inr ⟨wr,w2,bb,nb,pb,lb,cb,_,rfl,ch.out.1,ch.out.2.1,ch.out.2.2.1,ch.out.2.2.2.1,ch.out.2.2.2.2.1,ch.out.2.2.2.2.2,rfl⟩
   ·go_wp2;go_ret;exact .inr ⟨wr,w2,bb,nb,pb,lb,cb,_,rfl,ch.out.1,ch.out.2.1,ch.out.2.2.1,ch.out.2.2.2.1,ch.out.2.2.2.2.1,ch.out.2.2.2.2.2,rfl⟩
  ·have hii:i=(t.length:Int):=by
    rcases hi with h | ⟨_,h⟩
    ·rw [List.concat_eq_append,ae] at h;simp at h;omega
    ·rw [h] at FF;have:=congrArg List.length FF;simp at this
   subst hii;rw [List.concat_eq_append] at jl FF;obtain ⟨vR,cO,yf,Co,bK,oD⟩:=jl.NA;have hq:l[t.length]?=some s.lk∧t.length<L:=by
    rcases HL.out with ⟨_,h2⟩ | ⟨q,h1⟩
    ·rw [h2] at FF;have:=congrArg List.length FF;simp at this
    ·refine ⟨?_,?_⟩
     ·rw [h1,FF];simp
     ·rw [sI.out,h1,FF];simp
   have hr:=ho.1.at;have zu:t.length<l.length:=by rw [← sI.out];exact hq.2
   have my:l[t.length]=s.lk:=by
    have:=af zu;rw [hq.1] at this;exact (Option.some.inj this).symm
   obtain ⟨g,o,rfl,c1,c2⟩:=W.di.spot hr t.length zu;rw [my] at c1 c2;have Vn:wr.cell? ⟨g,o+t.length*2,none⟩=some (.pointer (some ⟨s.b,0,none⟩)):=c1;have Xk:wr.cell? ⟨g,o+t.length*2+1,none⟩=some (.int .i64 (s.at':Int)):=c2;have Rv:=ab (iC.out wr s z bb nb pb lb cb hv ht cO yf Co bK oD hs gU);have yW:(0:Int)≤(t.length:Int):=by omega
   have Cs:(t.length:Int)<(L:Int):=by omega
   have qV:=ab ho;have tU:=ab hv;have Rq:=ab hm;have Ig:=ab ht;have we:=ab vR;have HSP:=ab FF;clear FF hi jl hs gU ho hv hm ht cO yf Co bK oD hq hr zu my c1 c2 vR;go_wp2_with fail;refine Rv.out.mono ?_
   rintro e w1 ⟨UX,fP,fs⟩;have aw:=fs.cH tU.out;have Ba:=ab (ed aw Ig.out);have vw:=ab (Rq.out.trans fs);have tT:=ab fP;rcases UX with ⟨hE,rfl⟩ | ⟨b',n',Kz,SV,cv',rfl,UZ,hf'⟩
   ·have ch:Hid (S.E∧Dv base A db F d w1∧Mv db F w0 w1∧B.au w1 tb #[.pointer (some ⟨db,0,none⟩),rv] 100):=⟨hE,tT.out,vw.out,Ba.out⟩;unfold qP;clear hE fP fs aw Rv Vn Xk;go_wp2;go_ret;exact .inl ⟨ch.out.1,rfl,ch.out.2⟩
   ·have Ut:Hid (∃ (s1 s2:List (gD X)) (z:X) (bb:Nat) (nb:SN) (pb lb cb:Value) (i:Int),(.pointer (some ⟨b',0,none⟩):Value) = .pointer (some ⟨bb,0,none⟩)∧(.int .i64 ((t.length:Int) - 1):Value) = .int .i64 i∧ss=s1++s2∧(i=(s1.length:Int) - 1∨i = -2∧ss=[])∧Way S Pk w1 x s1 z∧dQ w1 bb nb pb lb cb∧Fl w1 nb z∧tQ w1 w0.heap.size (.slice (some ⟨g,o,none⟩) L c) l∧Dv base A db F d w1∧Mv db F w0 w1∧B.au w1 tb #[.pointer (some ⟨db,0,none⟩),rv] 100):=⟨t,s::s2,s.x,b',n',Kz,SV,cv',_,rfl,rfl,by rw [HSP.out];simp,.inl rfl,we.out.cH aw,UZ,hf',qV.out.mv fs Ri.out.Hr,tT.out,vw.out,Ba.out⟩
    clear fP fs aw Rv Vn Xk UZ hf';go_wp2;go_roundw
    case rel=>exact Ut.out
    case measure=>simp [intOf]
def MS(w:World):Nat→C.Ch→Prop
 | _,.pg _=>True
 | 0,.nd _=>False
 | k+1,.nd b=>∃ n pv lv cv,dQ w b n pv lv cv∧Fit n∧∀ p ∈ n.us,MS w k p
theorem MS.cH{w w':World}(ha:cW w w'):∀ {k:Nat} {p:C.Ch},MS w k p→MS w' k p
 | 0,.pg _,_=>trivial
 | _+1,.pg _,_=>trivial
 | _+1,.nd _,⟨n,pv,lv,cv,h1,h2,h3⟩=>⟨n,pv,lv,cv,h1.cH ha,h2,fun p hp=>MS.cH ha (h3 p hp)⟩
def Any(w:World)(p:C.Ch):Prop:=∃ k,MS w k p
theorem Any.cH{w w':World}{p:C.Ch}(h:Any w p)(ha:cW w w'):Any w' p:=by
 obtain ⟨k,h⟩:=h;exact ⟨k,h.cH ha⟩
theorem Any.pg(w:World)(id:Int):Any w (.pg id):=⟨0,trivial⟩
theorem SN.UM{n:SN}(h:¬ n.us.length=0):n.sz=B.jT n.lk:=by unfold SN.sz;rw [if_neg h]
theorem mJ.below{w:World}{n:SN}{i bb:Nat}{nb:SN}{e:Ending}{w':World}(h:mJ w n i bb nb e w'):Below w.heap.size w w':=by
 rcases h with ⟨_,_,_,_,_,_,_,h⟩ | ⟨_,_,_,_,_,_,_,_,_,_,_,_,_,_,_,_,_,_,_,_,_,h⟩
 ·exact h
 ·exact h
end T
end Go.Proofs.YtihmgigfkmofnaaGreatDoor
