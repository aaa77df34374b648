import Derived.Test.YtihmgigfkmofnaaGreatDoorG07
import Derived.Deep.DeepCutAuto
set_option maxHeartbeats 16000000
set_option maxRecDepth 20000
open Go.Proofs.Tryz
namespace Go.Proofs.YtihmgigfkmofnaaGreatDoor
namespace B
open Go.RowKit
theorem _root_.Go.Proofs.YtihmgigfkmofnaaGreatDoor.Ij.V5{l:List Int}{i:Nat}(h:Ij 3 (jc l) l i 0):1≤i∧i+2≤l.length:=by
 rcases h with ⟨_,_,h⟩ | ⟨_,_,_,h⟩ | ⟨h1,_,h2,_⟩
 ·omega
 ·omega
 ·have:=h2.1;omega
theorem lS{A:Nat→Addr}{ev:Value}(h:yK A ev 0):ev = .nilIface:=by
 rcases h with ⟨h,_⟩ | ⟨_,h⟩ | ⟨_,h⟩ | ⟨_,h⟩ | ⟨_,h⟩
 ·exact h
 all_goals omega
theorem tl{A:Nat→Addr}{ev:Value}{c:Nat}(h:yK A ev c)(hc:c≠0):∃ k,ev = .iface 360 (.pointer (some (A k))):=by
 rcases h with ⟨_,h⟩ | ⟨h,_⟩ | ⟨h,_⟩ | ⟨h,_⟩ | ⟨h,_⟩
 ·omega
 all_goals exact ⟨_,h⟩
def aaw(A:Nat→Addr)(base:Nat)(f:Int)(l:List Lk)(e:Ending)(w:World):Prop :=
 ∃ (i c:Nat) (key:ByteArray) (f1 f2:Int) (u1 u2 ev:Value),e = .returned (.tuple #[.agg #[.int .i64 f1,u1],.string key,.agg #[.int .i64 f2,u2],ev])∧Ij 3 (jc (lI l)) (lI l) i c∧yK A ev c ∧
  ((c=0∧(∃ h:i<l.length,f1=f∧key=l[i].1∧f2=l[i].2)∧bQ w base u1 (l.take i)∧bQ w base u2 (l.drop (i+1))∧∀ k,u1.ownBlock=some k→u2.ownBlock≠some k)∨(c≠0∧f1=0∧key=⟨#[]⟩∧f2=0∧u1 = .slice none 0 0∧u2 = .slice none 0 0))
theorem Ql(A:Nat→Addr)(f:Int)(v:Value)(l:List Lk)(w:World)(cC:Uz l)(hm:l.length≤5864062014805)(hr:dm w v l)(hE:jG A w):Calls prog 170 #[.agg #[.int .i64 f,v]] w fun e w'=>aaw A w.heap.size f l e w'∧Below w.heap.size w w':=by
 obtain ⟨a1,c1,hv⟩:=hr.form;subst hv;have du:=hr.cap;obtain ⟨n,hn⟩ : ∃ n,n=l.length:=⟨_,rfl⟩;rw [← hn] at hr hm du ⊢;have q1:=ai w (.cells #[.int .i64 f,.slice a1 n c1] 150);have x1:=au.new w #[.int .i64 f,.slice a1 n c1] 150;have s1:(w.alloc (.cells #[.int .i64 f,.slice a1 n c1] 150)).heap.size=w.heap.size+1:=by simp
 generalize lf:w.alloc (.cells #[.int .i64 f,.slice a1 n c1] 150)=W1 at *;have q2:=ai W1 (.cells #[.int .i64 0,.slice none 0 0] 150);have x2:=au.new W1 #[.int .i64 0,.slice none 0 0] 150;have s2:(W1.alloc (.cells #[.int .i64 0,.slice none 0 0] 150)).heap.size=W1.heap.size+1:=by simp
 generalize K3:W1.alloc (.cells #[.int .i64 0,.slice none 0 0] 150)=W2 at *;have q3:=ai W2 (.cells #[.int .i64 0,.slice none 0 0] 150);have x3:=au.new W2 #[.int .i64 0,.slice none 0 0] 150;have s3:(W2.alloc (.cells #[.int .i64 0,.slice none 0 0] 150)).heap.size=W2.heap.size+1:=by simp
 generalize SO:W2.alloc (.cells #[.int .i64 0,.slice none 0 0] 150)=W3 at *;have hq:=Below.next q1 (Below.next q2 q3);have zj:=ab ((x1.below q2).below q3);have vf:=ab (x2.below q3);have L8:=ab x3;have HQ:=ab hq;have HR:=ab (hr.below hq);have HE:=ab (hE.below hq);have HN:=ab hn;have HS:=ab (Hn _ l W3 cC (by omega) (hr.below hq))
 have gM:Hid (W3.heap.size=w.heap.size+3∧W2.heap.size=w.heap.size+2∧W1.heap.size=w.heap.size+1):=by show _∧_∧_;omega
 have p1:=zj.out.c1;have QA:Hid ((lI l).length≤17592186044416):=by show _≤_;rw [rq];omega
 clear q1 q2 q3 x1 x2 x3 s1 s2 s3 hr hE cC hn hq;go_enter func170,ntmps170;go_wp2_with fail;refine HS.out.mono ?_
 rintro e w1 ⟨u,rfl,hint,aN⟩;have HC:=ab (Kn A u (lI l) w1 QA.out hint (HE.out.below aN).1);have bN:=ab aN;clear hint aN HS p1;go_wp2_with fail;refine HC.out.mono ?_
 rintro e w2 ⟨hv,aY⟩;obtain ⟨i,c,ev,rfl,zK,fy⟩:=hv.num;have bH:=ab (Below.next bN.out aY);have Mg:=ab zK;have kh:=ab fy;clear hv aY HC bN;have vS:=vf.out.below bH.out;have GN:=L8.out.below bH.out;have sM:=zj.out.below bH.out;by_cases hc:c=0
 ·subst hc;have Es:=lS fy;subst Es;obtain ⟨Cu,sj⟩:=zK.V5;rw [rq,← HN.out] at sj;have Mw:i<l.length:=by have:=HN.out;omega
  have iK:=HR.out.below bH.out;obtain ⟨g,o,rfl,d1,d2⟩:=iK.spot i Mw;have j0:(0:Int)≤(i:Int):=by omega
  have j1:(i:Int)<(n:Int):=by omega
  obtain ⟨p,hp⟩ : ∃ p,p=l[i]:=⟨_,rfl⟩;rw [← hp] at d1 d2;have p1:=sM.c1;have HI:Hid (∃ h:i<l.length,p=l[i]):=⟨Mw,hp⟩;have hi3:i≤n:=by omega
  have vj:=fun W=>XK W (some ⟨g,o,none⟩) n c1 i (by omega)
  obtain ⟨q,hq⟩ : ∃ q,q=i+1:=⟨_,rfl⟩;obtain ⟨a2,Ss,qD⟩:=iK.drop (m:=q) (by omega)
  have HQI:=ab hq;have vT:IntKind.i64.wrap ((i:Int)+1)=(q:Int):=by rw [IntKind.wrap_i64];omega
  have hqn:(q:Int)≤(n:Int):=by omega
  have T7:(0:Int)≤(q:Int):=by omega
  have T5:=iK.take (m:=i) (by omega)
  have QD:=ab Ss;have HRT:=ab T5;have UJ:=ab sM;have HH2:=ab vS;have HH3:=ab GN;clear hp hq iK Ss T5 zK fy sM vS GN Mw Cu sj;go_wp2_with fail;have q4:=ai w2 (.cells #[.string p.1,.int .i64 p.2] 179);have x4:=au.new w2 #[.string p.1,.int .i64 p.2] 179;have s4:(w2.alloc (.cells #[.string p.1,.int .i64 p.2] 179)).heap.size=w2.heap.size+1:=by simp
  generalize w2.alloc (.cells #[.string p.1,.int .i64 p.2] 179)=W4 at *;have Cz:=ab x4;have Mc:=ab q4;have y1:=UJ.out.below q4;have k0:=y1.c0;have k1:=y1.c1;have q5:=ai W4 (.cells #[.int .i64 0,.slice none 0 0] 150);have x5:=au.new W4 #[.int .i64 0,.slice none 0 0] 150;have s5:(W4.alloc (.cells #[.int .i64 0,.slice none 0 0] 150)).heap.size=W4.heap.size+1:=by simp
  generalize hW5:W4.alloc (.cells #[.int .i64 0,.slice none 0 0] 150)=W5 at *;have zS:=ab x5;have Fc:=ab q5;have z0:=(y1.below q5).c0;have z1:=(y1.below q5).c1;have sU:Hid (W4.heap.size=w2.heap.size+1∧W5.heap.size=W4.heap.size+1∧w.heap.size+3≤w2.heap.size):=by show _∧_∧_;have:=gM.out;have:=bH.out.size;omega
  have b1:¬ w.heap.size=W4.heap.size:=by have:=sU.out;omega
  have b2:¬ W4.heap.size=w.heap.size:=by have:=sU.out;omega
  have Ri:Hid (∀ W,Below W4.heap.size W4 W→Calls prog 209 #[.slice (some ⟨g,o,none⟩) i c1] W fun e w'=>∃ ua uc,e = .returned (.slice ua i uc)∧bQ w' W.heap.size (.slice ua i uc) (l.take i)∧Below W.heap.size W w'):=fun W h=>by
   have bX:(l.take i).length=i:=by rw [ag];have:=HN.out;omega
   refine (eM _ (l.take i) W (by rw [bX];omega) ((HRT.out.below q4).below h)).mono ?_
   rintro e w' ⟨u,rfl,ho,hb⟩;obtain ⟨ua,uc,hu⟩:=ho.form;rw [bX] at hu;subst hu;exact ⟨ua,uc,rfl,ho,hb⟩
  clear d1 d2 p1 q4 x4 y1 q5 x5 s4 s5;go_region_held3 (fun w'=>w'.cell? ⟨w.heap.size,0,none⟩=some (.int .i64 f)∧w'.cell? ⟨w.heap.size,1,none⟩=some (.slice (some ⟨g,o,none⟩) n c1)) (go_keep)
   (first
    | (go_at_call 209;refine (Ri.out _ ?_).mono ?_;(first | exact (Below.refl _ _).drew | exact Fc.out.drew);rintro e w5 ⟨ua,uc,rfl,ho,hb⟩;have Z0:=ab ho;have gu:=ab hb;have m0:w5.cell? ⟨w.heap.size,0,none⟩=some (.int .i64 f):=(by first | exact (((UJ.out.below Mc.out).below Fc.out).drew.below hb).c0 | exact ((UJ.out.below Mc.out).drew.below hb).c0);have m1:w5.cell? ⟨w.heap.size,1,none⟩=some (.slice (some ⟨g,o,none⟩) n c1):=(by first | exact (((UJ.out.below Mc.out).below Fc.out).drew.below hb).c1 | exact ((UJ.out.below Mc.out).drew.below hb).c1);try (have m2:=(zS.out.drew.below hb).c0;have m3:=(zS.out.drew.below hb).c1;have m4:=(zS.out.drew.below hb).free 0;have m5:=(zS.out.drew.below hb).free 1);have m6:=World.new_ne w5 _ m0;clear ho hb))
  all_goals first
   | (have hx:=au.new w5 #[.int .i64 f,.slice ua i uc] 150
      have hq:=ai w5 (.cells #[.int .i64 f,.slice ua i uc] 150);have tI:Below W4.heap.size W4 (w5.alloc (.cells #[.int .i64 f,.slice ua i uc] 150)):=Below.next (dL gu.out) hq;have oA:bQ (w5.alloc (.cells #[.int .i64 f,.slice ua i uc] 150)) W4.heap.size (.slice ua i uc) (l.take i):=Z0.out.below hq;have GR:W4.heap.size≤w5.heap.size:=gu.out.size;generalize w5.alloc (.cells #[.int .i64 f,.slice ua i uc] 150)=W7 at *;obtain ⟨B9,Pz⟩ : ∃ B,B=w5.heap.size:=⟨_,rfl⟩;rw [← Pz] at hx GR ⊢;have aao:=ab GR;clear hq)
   | (have hx:=((zS.out.drew.below gu.out).two (.int .i64 f) (.slice ua i uc))
      have tI:Below W4.heap.size W4 ((w5.setCell ⟨W4.heap.size,0,none⟩ (.int .i64 f)).setCell ⟨W4.heap.size,1,none⟩ (.slice ua i uc)):=bP (Below.next Fc.out (dL gu.out)) (aj _);have oA:bQ ((w5.setCell ⟨W4.heap.size,0,none⟩ (.int .i64 f)).setCell ⟨W4.heap.size,1,none⟩ (.slice ua i uc)) W4.heap.size (.slice ua i uc) (l.take i):=(Z0.out.ti (g:=W4.heap.size) (by have:=sU.out;show W4.heap.size<W5.heap.size;omega) (.int .i64 f) (.slice ua i uc)).mono (by have:=sU.out;show W4.heap.size≤W5.heap.size;omega)
      generalize (w5.setCell ⟨W4.heap.size,0,none⟩ (.int .i64 f)).setCell ⟨W4.heap.size,1,none⟩ (.slice ua i uc)=W7 at *;obtain ⟨B9,Pz⟩ : ∃ B,B=W4.heap.size:=⟨_,rfl⟩;rw [← Pz] at hx ⊢;have aao:Hid (W4.heap.size≤B9):=(by rw [Pz];exact aj _))
  all_goals
   have HX7:=ab hx;have Ib:=ab tI;have HO7:=ab oA;clear hx tI oA Pz
  all_goals
   try clear GR
   try clear m2 m3 m4 m5
   try clear m6
   clear m0 m1 Ri b1 b2 z0 z1 k0 k1 vj Z0 gu zS Fc hW5 sU;have d1:=((Cz.out).below Ib.out).c0;have d2:=((Cz.out).below Ib.out).c1;have y1:=((UJ.out.below Mc.out).below Ib.out);have k1:=y1.c1;have q5:=ai W7 (.cells #[.int .i64 0,.slice none 0 0] 150);have x5:=au.new W7 #[.int .i64 0,.slice none 0 0] 150;have s5:(W7.alloc (.cells #[.int .i64 0,.slice none 0 0] 150)).heap.size=W7.heap.size+1:=by simp
   generalize hW8:W7.alloc (.cells #[.int .i64 0,.slice none 0 0] 150)=W8 at *;have Xl:=ab x5;have ZT:=ab q5;have z0:=(((Cz.out).below Ib.out).below q5).c1;have z1:=(y1.below q5).c1;have Wh:Hid (W8.heap.size=W7.heap.size+1∧w.heap.size+3≤w2.heap.size∧w2.heap.size<W7.heap.size):=by show _∧_∧_;have:=gM.out;have:=bH.out.size;have:=(Cz.out.below Ib.out).lt;omega
   have b1:¬ w.heap.size=W7.heap.size:=by have:=Wh.out;omega
   have b2:¬ W7.heap.size=w.heap.size:=by have:=Wh.out;omega
   have b3:¬ w2.heap.size=W7.heap.size:=by have:=Wh.out;omega
   have b4:¬ W7.heap.size=w2.heap.size:=by have:=Wh.out;omega
   have MJ:Hid (∀ W,Below W7.heap.size W7 W→Calls prog 209 #[.slice a2 (n - q) (c1 - q)] W fun e w'=>∃ va vc,e = .returned (.slice va (n - q) vc)∧bQ w' W.heap.size (.slice va (n - q) vc) (l.drop q)∧Below W.heap.size W w'):=fun W h=>by
    have bX:(l.drop q).length=n - q:=by rw [ao];have:=HN.out;have:=HQI.out;omega
    refine (eM _ (l.drop q) W (by rw [bX];omega) (((QD.out.below Mc.out).below Ib.out).below h)).mono ?_
    rintro e w' ⟨u,rfl,ho,hb⟩;obtain ⟨ua,uc,hu⟩:=ho.form;rw [bX] at hu;subst hu;exact ⟨ua,uc,rfl,ho,hb⟩
   generalize n - q=nr at *;generalize c1 - q=cr at *;clear q5 x5 y1 s5;go_wp2_with fail;go_region_held3 (fun w'=>w'.cell? ⟨w2.heap.size,1,none⟩=some (.int .i64 p.2)∧w'.cell? ⟨w.heap.size,1,none⟩=some (.slice (some ⟨g,o,none⟩) n c1)) (go_keep)
    (first
     | (go_at_call 209;refine (MJ.out _ ?_).mono ?_;(first | exact (Below.refl _ _).drew | exact ZT.out.drew);rintro e w8 ⟨va,vc,rfl,ho,hb⟩;have HO8:=ab ho;have HB8:=ab hb;have m0:w8.cell? ⟨w2.heap.size,1,none⟩=some (.int .i64 p.2):=(by first | exact (((Cz.out.below Ib.out).below ZT.out).drew.below hb).c1 | exact ((Cz.out.below Ib.out).drew.below hb).c1);have m1:w8.cell? ⟨w.heap.size,1,none⟩=some (.slice (some ⟨g,o,none⟩) n c1):=(by first | exact ((((UJ.out.below Mc.out).below Ib.out).below ZT.out).drew.below hb).c1 | exact (((UJ.out.below Mc.out).below Ib.out).drew.below hb).c1);try (have m2:=(Xl.out.drew.below hb).c0;have m3:=(Xl.out.drew.below hb).c1;have m4:=(Xl.out.drew.below hb).free 0;have m5:=(Xl.out.drew.below hb).free 1);have m6:=World.new_ne w8 _ m0;have m7:=World.new_ne w8 _ m1;clear ho hb))
  all_goals first
   | (have hx:=au.new w8 #[.int .i64 p.2,.slice va nr vc] 150
      have hq:=ai w8 (.cells #[.int .i64 p.2,.slice va nr vc] 150);have tI:Below W7.heap.size W7 (w8.alloc (.cells #[.int .i64 p.2,.slice va nr vc] 150)):=Below.next (dL HB8.out) hq;have oA:bQ (w8.alloc (.cells #[.int .i64 p.2,.slice va nr vc] 150)) W7.heap.size (.slice va nr vc) (l.drop q):=HO8.out.below hq;have GR:W7.heap.size≤w8.heap.size:=HB8.out.size;generalize w8.alloc (.cells #[.int .i64 p.2,.slice va nr vc] 150)=W9 at *;obtain ⟨TH,Pz⟩ : ∃ B,B=w8.heap.size:=⟨_,rfl⟩;rw [← Pz] at hx GR ⊢;have aan:=ab GR;clear hq)
   | (have hx:=((Xl.out.drew.below HB8.out).two (.int .i64 p.2) (.slice va nr vc))
      have tI:Below W7.heap.size W7 ((w8.setCell ⟨W7.heap.size,0,none⟩ (.int .i64 p.2)).setCell ⟨W7.heap.size,1,none⟩ (.slice va nr vc)):=bP (Below.next ZT.out (dL HB8.out)) (aj _);have oA:bQ ((w8.setCell ⟨W7.heap.size,0,none⟩ (.int .i64 p.2)).setCell ⟨W7.heap.size,1,none⟩ (.slice va nr vc)) W7.heap.size (.slice va nr vc) (l.drop q):=(HO8.out.ti (g:=W7.heap.size) (by have:=Wh.out;show W7.heap.size<W8.heap.size;omega) (.int .i64 p.2) (.slice va nr vc)).mono (by have:=Wh.out;show W7.heap.size≤W8.heap.size;omega)
      generalize (w8.setCell ⟨W7.heap.size,0,none⟩ (.int .i64 p.2)).setCell ⟨W7.heap.size,1,none⟩ (.slice va nr vc)=W9 at *;obtain ⟨TH,Pz⟩ : ∃ B,B=W7.heap.size:=⟨_,rfl⟩;rw [← Pz] at hx ⊢;have aan:Hid (W7.heap.size≤TH):=(by rw [Pz];exact aj _))
  all_goals
   have HX9:=ab hx;have Xx:=ab tI;have HO9:=ab oA;clear hx tI oA Pz
  all_goals
   try clear GR
   try clear m2 m3 m4 m5
   try clear m6 m7
   clear m0 m1 MJ b1 b2 b3 b4 z0 z1 k1 d1 d2 qD HO8 HB8 Xl ZT hW8;have y9:=HX7.out.below Xx.out;have y8:=(Cz.out.below Ib.out).below Xx.out;have y1:=(((HH2.out.below Mc.out).below Ib.out).below Xx.out);have y2:=(((HH3.out.below Mc.out).below Ib.out).below Xx.out);have e1:=y9.c0;have e2:=y9.c1;have e3:=y8.c0;have e4:=HX9.out.c0;have e5:=HX9.out.c1;have e6:=y1.c0;have e7:=y1.c1;have e8:=y2.c0;have e9:=y2.c1;have f1:=y1.free 0;have f2:=y1.free 1;have f3:=y2.free 0;have f4:=y2.free 1;have mG:Hid (W1.heap.size=w.heap.size+1∧W2.heap.size=w.heap.size+2∧w.heap.size+3≤w2.heap.size∧w.heap.size+3≤B9∧w.heap.size+3≤TH∧w.heap.size+3≤W4.heap.size∧w.heap.size+3≤W7.heap.size):=by
    have h1:=gM.out;have h2:=aao.out;have h3:=aan.out;have h4:=Mc.out.size;have h5:=Ib.out.size;have h6:=Wh.out;exact ⟨h1.2.2,h1.2.1,h6.2.1,by omega,by omega,by omega,by omega⟩
   have g1:¬ B9=W1.heap.size:=by have:=mG.out;omega
   have g2:¬ W1.heap.size=B9:=by have:=mG.out;omega
   have g3:¬ B9=W2.heap.size:=by have:=mG.out;omega
   have g4:¬ W2.heap.size=B9:=by have:=mG.out;omega
   have g5:¬ TH=W1.heap.size:=by have:=mG.out;omega
   have g6:¬ W1.heap.size=TH:=by have:=mG.out;omega
   have g7:¬ TH=W2.heap.size:=by have:=mG.out;omega
   have g8:¬ W2.heap.size=TH:=by have:=mG.out;omega
   have g9:¬ w2.heap.size=W1.heap.size:=by have:=mG.out;omega
   have g10:¬ W1.heap.size=w2.heap.size:=by have:=mG.out;omega
   have g11:¬ w2.heap.size=W2.heap.size:=by have:=mG.out;omega
   have g12:¬ W2.heap.size=w2.heap.size:=by have:=mG.out;omega
   have g13:¬ W1.heap.size=W2.heap.size:=by have:=mG.out;omega
   have g14:¬ W2.heap.size=W1.heap.size:=by have:=mG.out;omega
   have HY1:=ab y1;have HY2:=ab y2;clear y9 y8 y1 y2;go_wp2_with fail;go_region_held3 (fun w'=>w'.cell? ⟨B9,0,none⟩=some (.int .i64 f)∧w'.cell? ⟨B9,1,none⟩=some (.slice ua i uc)∧w'.cell? ⟨w2.heap.size,0,none⟩=some (.string p.1)∧w'.cell? ⟨TH,0,none⟩=some (.int .i64 p.2)∧w'.cell? ⟨TH,1,none⟩=some (.slice va nr vc)) (go_keep) (fail)
  all_goals
   have r2:au (((((W9.setCell ⟨W1.heap.size,0,none⟩ (.int .i64 f)).setCell ⟨W1.heap.size,1,none⟩ (.slice ua i uc)).setCell ⟨W2.heap.size,0,none⟩ (.int .i64 p.2)).setCell ⟨W2.heap.size,1,none⟩ (.slice va nr vc))) W1.heap.size #[.int .i64 f,.slice ua i uc] 150:=((HY1.out.two _ _).other g13 _).other g13 _;have r3:au (((((W9.setCell ⟨W1.heap.size,0,none⟩ (.int .i64 f)).setCell ⟨W1.heap.size,1,none⟩ (.slice ua i uc)).setCell ⟨W2.heap.size,0,none⟩ (.int .i64 p.2)).setCell ⟨W2.heap.size,1,none⟩ (.slice va nr vc))) W2.heap.size #[.int .i64 p.2,.slice va nr vc] 150:=((HY2.out.other g14 _).other g14 _).two _ _;clear e1 e2 e3 e4 e5 e6 e7 e8 e9 f1 f2 f3 f4;go_wp2_with fail;have o1:=((HO7.out.below Xx.out).ti (g:=W1.heap.size) (by have:=mG.out;omega) (.int .i64 f) (.slice ua i uc)).ti (g:=W2.heap.size) (by have:=mG.out;omega) (.int .i64 p.2) (.slice va nr vc)
   have o2:=(HO9.out.ti (g:=W1.heap.size) (by have:=mG.out;omega) (.int .i64 f) (.slice ua i uc)).ti (g:=W2.heap.size) (by have:=mG.out;omega) (.int .i64 p.2) (.slice va nr vc)
   refine bodyPost_ret (pW rfl _ _ W1.heap.size W2.heap.size 150 150 _ _ (0,0) (0,0) _ _ rfl rfl r2.drew r3.drew underlying150 underlying150 rfl rfl (by kernel_rfl) (by kernel_rfl)) rfl ⟨⟨i,0,p.1,f,p.2,.slice ua i uc,.slice va nr vc,_,rfl,Mg.out,kh.out,.inl ⟨rfl,?_,?_,?_,?_⟩⟩,?_⟩
   ·obtain ⟨h,he⟩:=HI.out;exact ⟨h,rfl,by rw [he],by rw [he]⟩
   ·exact (o1.mono (by have:=mG.out;omega)).drew
   ·rw [← HQI.out];exact (o2.mono (by have:=mG.out;omega)).drew
   ·intro k h1 h2;have a1:=HO7.out.dy k h1;have a2:=HO9.out.dy k h2;omega
   ·exact aR (bP (bP (Below.next HQ.out (Below.next bH.out (Below.next Mc.out (Below.next Ib.out Xx.out)))) (by have:=mG.out;omega)) (by have:=mG.out;omega))
 ·obtain ⟨k,rfl⟩:=tl fy hc;have GW:=fun W=>fe (some (A k)) W
  have HCZ:=ab hc;have r1:=vS.c0;have r2:=vS.c1;have r3:=GN.c0;have r4:=GN.c1;have z1:=vS.free 0;have z2:=vS.free 1;have z3:=GN.free 0;have z4:=GN.free 1;have b1:¬ W1.heap.size=W2.heap.size:=by have:=gM.out;omega
  have b2:¬ W2.heap.size=W1.heap.size:=by have:=gM.out;omega
  have ac5:=ab vS;have ac4:=ab GN;clear zK fy hc sM vS GN;go_wp2_with fail;have e2:au (((((w2.setCell ⟨W1.heap.size,0,none⟩ (.int .i64 0)).setCell ⟨W1.heap.size,1,none⟩ (.slice none 0 0)).setCell ⟨W2.heap.size,0,none⟩ (.int .i64 0)).setCell ⟨W2.heap.size,1,none⟩ (.slice none 0 0))) W1.heap.size #[.int .i64 0,.slice none 0 0] 150:=((ac5.out.two _ _).other b1 _).other b1 _;have e3:au (((((w2.setCell ⟨W1.heap.size,0,none⟩ (.int .i64 0)).setCell ⟨W1.heap.size,1,none⟩ (.slice none 0 0)).setCell ⟨W2.heap.size,0,none⟩ (.int .i64 0)).setCell ⟨W2.heap.size,1,none⟩ (.slice none 0 0))) W2.heap.size #[.int .i64 0,.slice none 0 0] 150:=((ac4.out.other b2 _).other b2 _).two _ _;refine bodyPost_ret (pW rfl _ _ W1.heap.size W2.heap.size 150 150 _ _ (0,0) (0,0) _ _ rfl rfl e2 e3 underlying150 underlying150 rfl rfl (by kernel_rfl) (by kernel_rfl)) rfl ⟨⟨i,c,_,0,0,_,_,_,rfl,Mg.out,kh.out,.inr ⟨HCZ.out,rfl,rfl,rfl,rfl,rfl⟩⟩,?_⟩
  exact bP (bP (Below.next HQ.out bH.out) (by have:=gM.out;omega)) (by have:=gM.out;omega)
end B
namespace T
open Go.RowKit
theorem Nb(l:List B.Lk):iM (l.map (·.1))=B.lI l:=by
 simp [iM,B.lI,B.yZ]
theorem RZ(A:Nat→Addr)(b:Nat)(n:SN)(pv lv cv:Value)(w:World)(h:dM w b n pv lv cv)(h0:¬ n.us.length=0)(hlen:n.us.length=n.lk.length+1)(h3:3≤n.lk.length)(hE:jG A w):Calls prog 129 #[.pointer (some ⟨b,0,none⟩)] w fun e w'=>∃ (i:Nat) (k:ByteArray) (f2:Int),di (jc (iM (n.lk.map (·.1)))) ((iM (n.lk.map (·.1))).length - 2) i∧(∃ x,n.lk[i]?=some (k,x))∧yL w ⟨[],n.f,n.lk.take i,n.us.take (i+1)⟩ k ⟨[],f2,n.lk.drop (i+1),n.us.drop (i+1)⟩ e w':=by
 have HL:=ab (cd b n pv lv cv w h);rw [show decide (n.us.length=0)=false by simp [h0]] at HL
 have yX:Hid (Calls prog 170 #[.agg #[.int .i64 n.f,lv]] w fun e w'=>∃ (i:Nat) (k:ByteArray) (f2:Int) (mA sL:Option Addr) (mz lH:Nat),e = .returned (.tuple #[.agg #[.int .i64 n.f,.slice mA i mz],.string k,.agg #[.int .i64 f2,.slice sL (n.lk.length - (i+1)) lH],.nilIface])∧di (jc (iM (n.lk.map (·.1)))) ((iM (n.lk.map (·.1))).length - 2) i∧(∃ x,n.lk[i]?=some (k,x))∧(1≤i∧i+2≤n.lk.length)∧B.dm w' (.slice mA i mz) (n.lk.take i)∧B.dm w' (.slice sL (n.lk.length - (i+1)) lH) (n.lk.drop (i+1))∧Below w.heap.size w w'):=by
  refine (B.Ql A n.f lv n.lk w h.uz (by have:=h.fine.2.2.2.1;omega) h.bg hE).mono fun e w' hh=>?_
  obtain ⟨⟨i,cc,key,f1,f2,u1,u2,ev,h1,zK,fy,fG⟩,hb⟩:=hh;have O7:(B.lI n.lk).length=n.lk.length:=by simp [B.lI]
  have Ph:ik (B.lI n.lk):=fun j hj=>by
   have lW:j<n.lk.length:=by rw [← O7];exact hj
   have:=h.fine.2.2.1 n.lk[j] (aH lW);unfold cQ at this;simp only [B.lI,cO];unfold B.yZ;omega
  rcases zK with ⟨g1,_,_⟩ | ⟨_,g1,_⟩ | ⟨_,_,oF,yi⟩
  ·rw [O7] at g1;omega
  ·exact absurd Ph g1
  ·subst yi;rcases fG with ⟨_,⟨hi,rfl,rfl,rfl⟩,o1,o2,_⟩ | ⟨ey,_⟩
   ·have Es:=lS fy;subst Es;have KU:=oF.1;rw [O7] at KU;obtain ⟨a1,c1,e1⟩:=o1.form;obtain ⟨a2,c2,e2⟩:=o2.form;subst e1 e2;have l1:(n.lk.take i).length=i:=by rw [ag];omega
    have l2:(n.lk.drop (i+1)).length=n.lk.length - (i+1):=by rw [ao]
    have p1:=o1.at;have p2:=o2.at;rw [l1] at h1 p1;rw [l2] at h1 p2;refine ⟨i,_,_,a1,a2,c1,c2,h1,?_,⟨_,af hi⟩,⟨by omega,by omega⟩,p1,p2,hb⟩
    rw [Nb];exact oF
   ·exact absurd rfl ey
 have p1:=h.c1;have p2:=h.c2;have HH:=ab h;have fL:=ab hlen;obtain ⟨ca,cc,yh⟩:=h.kids.form;subst yh;have du:n.us.length≤cc:=by
  obtain ⟨_,_,he,hle,_⟩:=h.kids;simp only [Value.slice.injEq] at he;obtain ⟨-,-,rfl⟩:=he;rw [C.eb] at hle;exact hle
 obtain ⟨m,hm⟩ : ∃ m,m=n.us.length:=⟨_,rfl⟩;have Hm:=ab hm;have adR:=ab du;clear hm du;clear h h0 hE h3 hlen;go_enter func129,ntmps129;go_wp2_with fail;refine HL.out.mono ?_
 rintro e w1 ⟨rfl,rfl⟩;clear HL;go_wp2_with fail;refine yX.out.mono ?_
 rintro e w2 ⟨I,k,f2,mA,sL,mz,lH,rfl,oF,hkx,KU,eN,iK,aY⟩;obtain ⟨M,hM⟩ : ∃ M,M=n.lk.length - (I+1):=⟨_,rfl⟩;rw [← hM] at iK ⊢;have Fi:=ab hM;clear hM;have qa:=ai w2 (.cells #[.int .i64 n.f,.slice mA I mz] 150);have qb:=ai (w2.alloc (.cells #[.int .i64 n.f,.slice mA I mz] 150)) (.cells #[.int .i64 f2,.slice sL M lH] 150);have xa:=(B.au.new w2 #[.int .i64 n.f,.slice mA I mz] 150).below qb;have xb:=B.au.new (w2.alloc (.cells #[.int .i64 n.f,.slice mA I mz] 150)) #[.int .i64 f2,.slice sL M lH] 150;have sb:(w2.alloc (.cells #[.int .i64 n.f,.slice mA I mz] 150)).heap.size=w2.heap.size+1:=by simp
 rw [sb] at xb;have pS:=ab xa;have Wb:=ab xb;have gY:=ab (Below.next (Below.next aY qa) qb);have nK:=ab ((eN.below qa).below qb);have oR:=ab ((iK.below qa).below qb);have Bc:=ab oF;have HKX:=ab hkx;have MH:=ab KU;clear yX p1 p2 oF hkx KU eN iK aY qa qb xa xb sb;obtain ⟨H,hH⟩ : ∃ H,H=I+1:=⟨_,rfl⟩;obtain ⟨K,hK⟩ : ∃ K,K=m - H:=⟨_,rfl⟩;have hwH:IntKind.i64.wrap ((I:Int)+1)=(H:Int):=by have:=MH.out;have:=HH.out.fine.2.2.2.1;rw [IntKind.wrap_i64];omega
 have HHM:Hid (H≤m∧1≤K):=by
  have h1:=MH.out;have h2:=fL.out;have h3:=Hm.out;exact ⟨by omega,by omega⟩
 have HHI:=ab hH;have MF:=ab hK;clear hH hK;go_upto_region 6 with fail
 have hH:=HHI.out;have hK:=MF.out;have hM:=Fi.out;have hm:=Hm.out;have hHm:=HHM.out;have du:=adR.out;generalize (w2.alloc (.cells #[.int .i64 n.f,.slice mA I mz] 150)).alloc (.cells #[.int .i64 f2,.slice sL M lH] 150)=W4 at *;obtain ⟨kb,Vy⟩ : ∃ x,x=w2.heap.size+1:=⟨_,rfl⟩;obtain ⟨ka,Xc⟩ : ∃ x,x=w2.heap.size:=⟨_,rfl⟩;rw [← Vy] at Wb ⊢;rw [← Xc] at pS ⊢;clear Vy Xc;have uH:C.dm W4 (.slice ca n.us.length cc) n.us:=(HH.out.below gY.out).kids;obtain ⟨da,VF,qD⟩:=uH.drop (m:=H) (by omega)
 have mC:=uH.take (m:=H) (by omega)
 have vj:=fun W=>C.XL W ca n.us.length cc H (by omega)
 have XV:(n.us.take H).length=H:=by rw [ag];omega
 have XW:(n.us.drop H).length=K:=by rw [ao];omega
 have hmK:n.us.length - H=K:=by omega
 rw [hmK] at VF qD;have Ri:Hid (∀ W,Below W4.heap.size W4 W→Calls prog 164 #[.slice ca H cc] W fun e w'=>∃ (g c:Nat),e = .returned (.slice (some ⟨g,0,none⟩) H c)∧C.dm w' (.slice (some ⟨g,0,none⟩) H c) (n.us.take H)∧Below W.heap.size W w'):=fun W hW=>by
  refine (C.eM _ (n.us.take H) W (by rw [XV];have:=HH.out.fine.2.2.2.2;omega) (mC.below hW)).mono fun e w' ⟨u,h1,h2,h3⟩=>?_
  obtain ⟨g,c,hu,_,_⟩:=sq h2 (by rw [XV];omega)
  subst hu;rw [XV] at h1 h2;exact ⟨g,c,h1,h2.at,h3⟩
 have MJ:Hid (∀ W,Below W4.heap.size W4 W→Calls prog 164 #[.slice da K (cc - H)] W fun e w'=>∃ (g c:Nat),e = .returned (.slice (some ⟨g,0,none⟩) K c)∧C.dm w' (.slice (some ⟨g,0,none⟩) K c) (n.us.drop H)∧Below W.heap.size W w'):=fun W hW=>by
  refine (C.eM _ (n.us.drop H) W (by rw [XW];have:=HH.out.fine.2.2.2.2;omega) (VF.below hW)).mono fun e w' ⟨u,h1,h2,h3⟩=>?_
  obtain ⟨g,c,hu,_,_⟩:=sq h2 (by rw [XW];omega)
  subst hu;rw [XW] at h1 h2;exact ⟨g,c,h1,h2.at,h3⟩
 have sJ:Hid ((∀ p ∈ n.lk.take I,cQ p.1)∧(n.lk.take I).length≤4000∧(n.us.take H).length≤4001∧(∀ p ∈ n.lk.drop H,cQ p.1)∧(n.lk.drop H).length≤4000∧(n.us.drop H).length≤4001):=by
  have hf:=HH.out.fine;exact ⟨fun p hp=>hf.2.2.1 p (bF hp),by rw [ag];omega,by rw [XV];omega,fun p hp=>hf.2.2.1 p (bG hp),by rw [ao];omega,by rw [XW];omega⟩
 rw [← hH] at oR;have k3:=(HH.out.below gY.out).c3;have kA0:=pS.out.c0;have kA1:=pS.out.c1;have kB0:=Wb.out.c0;have kB1:=Wb.out.c1;have QB:Hid (∀ W,Below W4.heap.size W4 W→(W.cell? ⟨b,3,none⟩=some (.slice ca n.us.length cc)∧W.cell? ⟨ka,0,none⟩=some (.int .i64 n.f)∧W.cell? ⟨ka,1,none⟩=some (.slice mA I mz)∧W.cell? ⟨kb,0,none⟩=some (.int .i64 f2)∧W.cell? ⟨kb,1,none⟩=some (.slice sL M lH))∧¬ b=W.heap.size∧¬ ka=W.heap.size∧¬ kb=W.heap.size):=fun W hW=>⟨⟨(HH.out.below (Below.next gY.out hW)).c3,(pS.out.below hW).c0,(pS.out.below hW).c1,(Wb.out.below hW).c0,(Wb.out.below hW).c1⟩,by have:=(HH.out.below gY.out).row.lt;have:=hW.size;omega,by have:=pS.out.lt;have:=hW.size;omega,by have:=Wb.out.lt;have:=hW.size;omega⟩
 have hHI:(H:Int)≤(cc:Int):=by omega
 have hH0:(0:Int)≤(H:Int):=by omega
 clear hH hK hM hHm du VF mC XV XW uH hmK hm;go_region_held3 (fun w'=>w'.cell? ⟨b,3,none⟩=some (.slice ca n.us.length cc)∧w'.cell? ⟨ka,0,none⟩=some (.int .i64 n.f)∧w'.cell? ⟨ka,1,none⟩=some (.slice mA I mz)∧w'.cell? ⟨kb,0,none⟩=some (.int .i64 f2)∧w'.cell? ⟨kb,1,none⟩=some (.slice sL M lH)) (go_keep)
  (first
   | (go_at_call_of 164 (Value.slice ca H cc);refine (Ri.out _ ?_).mono ?_;(first | exact sI.out | exact Below.next sI.out (ai w6 (.cells #[.slice none 0 0,.int .i64 f2,.slice sL M lH,.slice (some ⟨g6,0,none⟩) K c6] 155)) | exact (Below.refl _ _).drew);rintro e w5 ⟨g5,c5,rfl,ho,hb⟩;have tX:Hid (Below W4.heap.size W4 w5):=(by first | exact Below.next sI.out hb | exact Below.next (Below.next sI.out (ai w6 (.cells #[.slice none 0 0,.int .i64 f2,.slice sL M lH,.slice (some ⟨g6,0,none⟩) K c6] 155))) hb | exact B.dL hb);have tZ:=ab ho;(try (have Wu:=ab (Wu.out.below hb)));(try (have Wu:=ab ((Wu.out.below (ai w6 (.cells #[.slice none 0 0,.int .i64 f2,.slice sL M lH,.slice (some ⟨g6,0,none⟩) K c6] 155))).below hb)));(try (have HXO:=ab ((B.au.new w6 #[.slice none 0 0,.int .i64 f2,.slice sL M lH,.slice (some ⟨g6,0,none⟩) K c6] 155).below hb)));obtain ⟨⟨m1,m2,m3,m4,m5⟩,m6,m7,m8⟩:=QB.out _ tX.out;clear ho hb)
   | (go_at_call_of 164 (Value.slice da K (cc - H));refine (MJ.out _ ?_).mono ?_;(first | exact tX.out | exact Below.next tX.out (ai w5 (.cells #[.slice none 0 0,.int .i64 n.f,.slice mA I mz,.slice (some ⟨g5,0,none⟩) H c5] 155)) | exact (Below.refl _ _).drew);rintro e w6 ⟨g6,c6,rfl,ho,hb⟩;have sI:Hid (Below W4.heap.size W4 w6):=(by first | exact Below.next tX.out hb | exact Below.next (Below.next tX.out (ai w5 (.cells #[.slice none 0 0,.int .i64 n.f,.slice mA I mz,.slice (some ⟨g5,0,none⟩) H c5] 155))) hb | exact B.dL hb);have Wu:=ab ho;(try (have tZ:=ab (tZ.out.below hb)));(try (have tZ:=ab ((tZ.out.below (ai w5 (.cells #[.slice none 0 0,.int .i64 n.f,.slice mA I mz,.slice (some ⟨g5,0,none⟩) H c5] 155))).below hb)));(try (have HXO:=ab ((B.au.new w5 #[.slice none 0 0,.int .i64 n.f,.slice mA I mz,.slice (some ⟨g5,0,none⟩) H c5] 155).below hb)));obtain ⟨⟨m1,m2,m3,m4,m5⟩,m6,m7,m8⟩:=QB.out _ sI.out;clear ho hb))
 all_goals first
  | (have qb:=ai w6 (.cells #[.slice none 0 0,.int .i64 f2,.slice sL M lH,.slice (some ⟨g6,0,none⟩) K c6] 155)
     have gI:Hid (yL w ⟨[],n.f,n.lk.take I,n.us.take H⟩ k ⟨[],f2,n.lk.drop H,n.us.drop H⟩ (.returned (.tuple #[.pointer (some ⟨w5.heap.size,0,none⟩),.string k,.pointer (some ⟨w6.heap.size,0,none⟩)])) (w6.alloc (.cells #[.slice none 0 0,.int .i64 f2,.slice sL M lH,.slice (some ⟨g6,0,none⟩) K c6] 155))):=⟨_,_,_,_,_,_,_,_,rfl,⟨HXO.out.below qb,gZ.nil _,(nK.out.below sI.out).below qb,tZ.out.below qb,(fun p hp=>by simp at hp),by simp,sJ.out.1,sJ.out.2.1,sJ.out.2.2.1⟩,⟨B.au.new w6 #[.slice none 0 0,.int .i64 f2,.slice sL M lH,.slice (some ⟨g6,0,none⟩) K c6] 155,gZ.nil _,(oR.out.below sI.out).below qb,Wu.out.below qb,(fun p hp=>by simp at hp),by simp,sJ.out.2.2.2.1,sJ.out.2.2.2.2.1,sJ.out.2.2.2.2.2⟩,Below.next (Below.next gY.out sI.out) qb⟩
     clear qb HXO;go_wp2;go_ret3;exact ⟨I,k,f2,Bc.out,HKX.out,by rw [← HHI.out];first | exact gI.out | exact gI.out.drew⟩)
  | (have qa:=ai w6 (.cells #[.slice none 0 0,.int .i64 n.f,.slice mA I mz,.slice (some ⟨g5,0,none⟩) H c5] 155)
     have qb:=ai (w6.alloc (.cells #[.slice none 0 0,.int .i64 n.f,.slice mA I mz,.slice (some ⟨g5,0,none⟩) H c5] 155)) (.cells #[.slice none 0 0,.int .i64 f2,.slice sL M lH,.slice (some ⟨g6,0,none⟩) K c6] 155);have xa:=(B.au.new w6 #[.slice none 0 0,.int .i64 n.f,.slice mA I mz,.slice (some ⟨g5,0,none⟩) H c5] 155).below qb;have xb:=B.au.new (w6.alloc (.cells #[.slice none 0 0,.int .i64 n.f,.slice mA I mz,.slice (some ⟨g5,0,none⟩) H c5] 155)) #[.slice none 0 0,.int .i64 f2,.slice sL M lH,.slice (some ⟨g6,0,none⟩) K c6] 155;have sa:(w6.alloc (.cells #[.slice none 0 0,.int .i64 n.f,.slice mA I mz,.slice (some ⟨g5,0,none⟩) H c5] 155)).heap.size=w6.heap.size+1:=by simp
     rw [sa] at xb;have gI:Hid (yL w ⟨[],n.f,n.lk.take I,n.us.take H⟩ k ⟨[],f2,n.lk.drop H,n.us.drop H⟩ (.returned (.tuple #[.pointer (some ⟨w6.heap.size,0,none⟩),.string k,.pointer (some ⟨w6.heap.size+1,0,none⟩)])) ((w6.alloc (.cells #[.slice none 0 0,.int .i64 n.f,.slice mA I mz,.slice (some ⟨g5,0,none⟩) H c5] 155)).alloc (.cells #[.slice none 0 0,.int .i64 f2,.slice sL M lH,.slice (some ⟨g6,0,none⟩) K c6] 155))):=⟨_,_,_,_,_,_,_,_,rfl,⟨xa,gZ.nil _,((nK.out.below sI.out).below qa).below qb,(tZ.out.below qa).below qb,(fun p hp=>by simp at hp),by simp,sJ.out.1,sJ.out.2.1,sJ.out.2.2.1⟩,⟨xb,gZ.nil _,((oR.out.below sI.out).below qa).below qb,(Wu.out.below qa).below qb,(fun p hp=>by simp at hp),by simp,sJ.out.2.2.2.1,sJ.out.2.2.2.2.1,sJ.out.2.2.2.2.2⟩,Below.next (Below.next (Below.next gY.out sI.out) qa) qb⟩
     clear qa qb xa xb sa;go_wp2;go_ret3;exact ⟨I,k,f2,Bc.out,HKX.out,by rw [← HHI.out];first | exact gI.out | exact gI.out.drew⟩)
  | (have qa:=ai w6 (.cells #[.slice none 0 0,.int .i64 f2,.slice sL M lH,.slice (some ⟨g6,0,none⟩) K c6] 155)
     have qb:=ai (w6.alloc (.cells #[.slice none 0 0,.int .i64 f2,.slice sL M lH,.slice (some ⟨g6,0,none⟩) K c6] 155)) (.cells #[.slice none 0 0,.int .i64 n.f,.slice mA I mz,.slice (some ⟨g5,0,none⟩) H c5] 155);have xa:=(B.au.new w6 #[.slice none 0 0,.int .i64 f2,.slice sL M lH,.slice (some ⟨g6,0,none⟩) K c6] 155).below qb;have xb:=B.au.new (w6.alloc (.cells #[.slice none 0 0,.int .i64 f2,.slice sL M lH,.slice (some ⟨g6,0,none⟩) K c6] 155)) #[.slice none 0 0,.int .i64 n.f,.slice mA I mz,.slice (some ⟨g5,0,none⟩) H c5] 155;have sa:(w6.alloc (.cells #[.slice none 0 0,.int .i64 f2,.slice sL M lH,.slice (some ⟨g6,0,none⟩) K c6] 155)).heap.size=w6.heap.size+1:=by simp
     rw [sa] at xb;have gI:Hid (yL w ⟨[],n.f,n.lk.take I,n.us.take H⟩ k ⟨[],f2,n.lk.drop H,n.us.drop H⟩ (.returned (.tuple #[.pointer (some ⟨w6.heap.size+1,0,none⟩),.string k,.pointer (some ⟨w6.heap.size,0,none⟩)])) ((w6.alloc (.cells #[.slice none 0 0,.int .i64 f2,.slice sL M lH,.slice (some ⟨g6,0,none⟩) K c6] 155)).alloc (.cells #[.slice none 0 0,.int .i64 n.f,.slice mA I mz,.slice (some ⟨g5,0,none⟩) H c5] 155))):=⟨_,_,_,_,_,_,_,_,rfl,⟨xb,gZ.nil _,((nK.out.below sI.out).below qa).below qb,(tZ.out.below qa).below qb,(fun p hp=>by simp at hp),by simp,sJ.out.1,sJ.out.2.1,sJ.out.2.2.1⟩,⟨xa,gZ.nil _,((oR.out.below sI.out).below qa).below qb,(Wu.out.below qa).below qb,(fun p hp=>by simp at hp),by simp,sJ.out.2.2.2.1,sJ.out.2.2.2.2.1,sJ.out.2.2.2.2.2⟩,Below.next (Below.next (Below.next gY.out sI.out) qa) qb⟩
     clear qa qb xa xb sa;go_wp2;go_ret3;exact ⟨I,k,f2,Bc.out,HKX.out,by rw [← HHI.out];first | exact gI.out | exact gI.out.drew⟩)
def SN.zB(n:SN):Prop:=n.us.length=0∨n.us.length=n.lk.length+1
def Mm(n a:SN)(k:ByteArray)(b:SN):Prop :=
 (n.us.length=0∧∃ (i:Nat) (v:ByteArray),di (jd (nC n.ps)) ((nC n.ps).length - 1) i∧n.ps[i]?=some (k,v)∧a=⟨n.ps.take i,0,[],[]⟩∧b=⟨n.ps.drop i,0,[],[]⟩) ∨
 (¬ n.us.length=0∧∃ (i:Nat) (f2:Int) (x:Int),di (jc (iM (n.lk.map (·.1)))) ((iM (n.lk.map (·.1))).length - 2) i∧n.lk[i]?=some (k,x)∧a=⟨[],n.f,n.lk.take i,n.us.take (i+1)⟩∧b=⟨[],f2,n.lk.drop (i+1),n.us.drop (i+1)⟩)
theorem DE(A:Nat→Addr)(b:Nat)(n:SN)(pv lv cv:Value)(w:World)(h:dM w b n pv lv cv)(hk:n.zB)(hb:4072<n.sz)(hE:jG A w):Calls prog 129 #[.pointer (some ⟨b,0,none⟩)] w fun e w'=>∃ a k c,Mm n a k c∧yL w a k c e w':=by
 unfold SN.sz at hb;by_cases h0:n.us.length=0
 ·rw [if_pos h0] at hb;have h2:=vC h.fine.1;refine (Ky A b n pv lv cv w h h0 (by omega) hE).mono fun e w' hh=>?_
  obtain ⟨i,k,v,h1,h2,h3⟩:=hh;exact ⟨_,k,_,.inl ⟨h0,i,v,h1,h2,rfl,rfl⟩,h3⟩
 ·rw [if_neg h0] at hb;have h2:=Nc h.fine.2.2.1;have hlen:n.us.length=n.lk.length+1:=hk.resolve_left h0;refine (RZ A b n pv lv cv w h h0 hlen (by omega) hE).mono fun e w' hh=>?_
  obtain ⟨i,k,f2,h1,⟨x,h2⟩,h3⟩:=hh;exact ⟨_,k,_,.inr ⟨h0,i,f2,x,h1,h2,rfl,rfl⟩,h3⟩
def mm(w:World)(n:SN)(i bb:Nat)(nb:SN)(e:Ending)(w':World):Prop :=
 (¬ 4072<nb.sz∧Ra w ⟨[],n.f,n.lk,n.us.set i (.nd bb)⟩ e w') ∨
 (4072<nb.sz∧∃ (a:SN) (k:ByteArray) (c:SN) (ba bc:Nat) (pa la ca pc lc cc:Value),Mm nb a k c∧dM w' ba a pa la ca∧dM w' bc c pc lc cc∧Ra w ⟨[],n.f,B.dD n.lk i (k,0),C.dD (n.us.set i (.nd ba)) (i+1) (.nd bc)⟩ e w')
theorem Mm.key{n a c:SN}{k:ByteArray}(h:Mm n a k c)(h1:∀ p ∈ n.ps,cF p=true)(h2:∀ p ∈ n.lk,cQ p.1):cQ k:=by
 rcases h with ⟨_,i,v,_,h3,_⟩ | ⟨_,i,_,x,_,h3,_⟩
 ·have:=eu (h1 _ (cH h3));exact ⟨this.1,this.2.1⟩
 ·exact h2 _ (cH h3)
theorem sY(A:Nat→Addr)(b bb:Nat)(n nb:SN)(pv lv cv pb lb cb:Value)(i:Nat)(w:World)(h:dM w b n pv lv cv)(hb:dM w bb nb pb lb cb)(hi:i<n.us.length)(hlen:n.us.length=n.lk.length+1)(dV:n.lk.length≤3999)(gR:nb.zB)(hE:jG A w):Calls prog 124 #[.pointer (some ⟨b,0,none⟩),.int .i64 (i:Int),.pointer (some ⟨bb,0,none⟩)] w fun e w'=>mm w n i bb nb e w':=by
 have CC:=ab (qj bb nb pb lb cb w hb);have HH:=ab h;have Wv:=ab hb;have HE:=ab hE;have Tz:Hid (i<n.us.length∧n.us.length=n.lk.length+1∧n.lk.length≤3999):=⟨hi,hlen,dV⟩;clear h hb hE hi hlen dV;by_cases fU:4072<nb.sz
 ·rw [show decide (4072<nb.sz)=true by simp [fU]] at CC
  have q9:=ab fU;have Cm:=ab gR;clear fU gR;go_enter func124,ntmps124;go_wp2_with fail;refine CC.out.mono ?_
  rintro e w1 ⟨rfl,aN⟩;have bN:=ab aN;have yX:=ab (DE A bb nb pb lb cb w1 (Wv.out.below aN) Cm.out q9.out (HE.out.below aN));clear aN CC;go_wp2_with fail;refine yX.out.mono ?_
  rintro e w2 ⟨a,k,c,hcut,ba,bc,pa,la,ca,pc,lc,cc,rfl,ha,hc,aY⟩;have bH:=ab (Below.next bN.out aY);have HA:=ab ha;have HC:=ab hc;have FI:=ab hcut;have Tt:=ab (mI b n pv lv cv i (.nd ba) w2 (HH.out.below bH.out) Tz.out.1);clear ha hc hcut aY yX bN;go_wp2_with fail;refine Tt.out.mono ?_
  rintro e w3 ⟨b3,p3,l3,c3,rfl,h3,b6⟩;have dH:=ab (Below.next bH.out b6);have HWL:=ab (JO A b3 _ p3 l3 c3 i k (.nd bc) w3 h3 (by have:=Tz.out;show i≤n.lk.length;omega) (by have:=Tz.out;show (n.us.set i _).length=n.lk.length+1;rw [cu];omega) Tz.out.2.2 (FI.out.key Wv.out.fine.1 Wv.out.fine.2.2.1) (HE.out.below dH.out))
  have HA3:=ab (HA.out.below b6);have HC3:=ab (HC.out.below b6);clear h3 b6 Tt HA HC bH;go_wp2_with fail;refine HWL.out.mono ?_
  rintro e w4 ⟨b4,p4,l4,c4,rfl,h4,gH⟩;have b8:Hid (mm w n i bb nb (.returned (.pointer (some ⟨b4,0,none⟩))) w4):=.inr ⟨q9.out,a,k,c,ba,bc,pa,la,ca,pc,lc,cc,FI.out,HA3.out.below gH,HC3.out.below gH,b4,p4,l4,c4,rfl,h4,Below.next dH.out gH⟩;clear h4 gH HWL HA3 HC3;go_wp2;go_ret;exact b8.out
 ·rw [show decide (4072<nb.sz)=false by simp [fU]] at CC
  have q9:=ab fU;clear fU gR;go_enter func124,ntmps124;go_wp2_with fail;refine CC.out.mono ?_
  rintro e w1 ⟨rfl,aN⟩;have bN:=ab aN;have Tt:=ab (mI b n pv lv cv i (.nd bb) w1 (HH.out.below aN) Tz.out.1);clear aN CC;go_wp2_with fail;refine Tt.out.mono ?_
  rintro e w3 ⟨b3,p3,l3,c3,rfl,h3,b6⟩;have b8:Hid (mm w n i bb nb (.returned (.pointer (some ⟨b3,0,none⟩))) w3):=.inl ⟨q9.out,b3,p3,l3,c3,rfl,h3,Below.next bN.out b6⟩;clear h3 b6 Tt;go_wp2;go_ret;exact b8.out
end T
end Go.Proofs.YtihmgigfkmofnaaGreatDoor
