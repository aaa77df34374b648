import Derived.Test.YtihmgigfkmofnaaGreatDoorG07
import Derived.Deep.DeepCutAuto
set_option maxHeartbeats 16000000
set_option maxRecDepth 20000
open Go.Proofs.Tryz
namespace Go.Proofs.YtihmgigfkmofnaaGreatDoor
namespace B
open Go.RowKit
theorem _root_.Go.Proofs.YtihmgigfkmofnaaGreatDoor.Il.Wx{l:List Int}{i:Nat}(h:Il 3 (ju l) l i 0):1≤i∧i+2≤l.length:=by
 rcases h with ⟨_,_,h⟩ | ⟨_,_,_,h⟩ | ⟨h1,_,h2,_⟩
 ·omega
 ·omega
 ·have:=h2.1;omega
theorem mr{A:Nat→Addr}{ev:Value}(h:yF A ev 0):ev = .nilIface:=by
 rcases h with ⟨h,_⟩ | ⟨_,h⟩ | ⟨_,h⟩ | ⟨_,h⟩ | ⟨_,h⟩
 ·exact h
 all_goals omega
theorem tu{A:Nat→Addr}{ev:Value}{c:Nat}(h:yF A ev c)(hc:c≠0):∃ k,ev = .iface 360 (.pointer (some (A k))):=by
 rcases h with ⟨_,h⟩ | ⟨h,_⟩ | ⟨h,_⟩ | ⟨h,_⟩ | ⟨h,_⟩
 ·omega
 all_goals exact ⟨_,h⟩
def aa7(A:Nat→Addr)(base:Nat)(f:Int)(l:List Lk)(e:Ending)(w:World):Prop :=
 ∃ (i c:Nat) (key:ByteArray) (f1 f2:Int) (u1 u2 ev:Value),e = .returned (.tuple #[.agg #[.int .i64 f1,u1],.string key,.agg #[.int .i64 f2,u2],ev])∧Il 3 (ju (mj l)) (mj l) i c∧yF A ev c ∧
  ((c=0∧(∃ h:i<l.length,f1=f∧key=l[i].1∧f2=l[i].2)∧b7 w base u1 (l.take i)∧b7 w base u2 (l.drop (i+1))∧∀ k,u1.ownBlock=some k→u2.ownBlock≠some k)∨(c≠0∧f1=0∧key=⟨#[]⟩∧f2=0∧u1 = .slice none 0 0∧u2 = .slice none 0 0))
theorem QJ(A:Nat→Addr)(f:Int)(v:Value)(l:List Lk)(w:World)(cT:UX l)(hm:l.length≤5864062014805)(hr:cV w v l)(hE:j7 A w):Calls prog 170 #[.agg #[.int .i64 f,v]] w fun e w'=>aa7 A w.heap.size f l e w'∧Below w.heap.size w w':=by
 obtain ⟨a1,c1,hv⟩:=hr.form;subst hv;have di:=hr.cap;obtain ⟨n,hn⟩ : ∃ n,n=l.length:=⟨_,rfl⟩;rw [← hn] at hr hm di ⊢;have q1:=ai w (.cells #[.int .i64 f,.slice a1 n c1] 150);have x1:=ax.new w #[.int .i64 f,.slice a1 n c1] 150;have s1:(w.alloc (.cells #[.int .i64 f,.slice a1 n c1] 150)).heap.size=w.heap.size+1:=by simp
 generalize iy:w.alloc (.cells #[.int .i64 f,.slice a1 n c1] 150)=W1 at *;have q2:=ai W1 (.cells #[.int .i64 0,.slice none 0 0] 150);have x2:=ax.new W1 #[.int .i64 0,.slice none 0 0] 150;have s2:(W1.alloc (.cells #[.int .i64 0,.slice none 0 0] 150)).heap.size=W1.heap.size+1:=by simp
 generalize Hc:W1.alloc (.cells #[.int .i64 0,.slice none 0 0] 150)=W2 at *;have q3:=ai W2 (.cells #[.int .i64 0,.slice none 0 0] 150);have x3:=ax.new W2 #[.int .i64 0,.slice none 0 0] 150;have s3:(W2.alloc (.cells #[.int .i64 0,.slice none 0 0] 150)).heap.size=W2.heap.size+1:=by simp
 generalize zH:W2.alloc (.cells #[.int .i64 0,.slice none 0 0] 150)=W3 at *;have hq:=Below.next q1 (Below.next q2 q3);have yJ:=ab ((x1.below q2).below q3);have nQ:=ab (x2.below q3);have rf:=ab x3;have HQ:=ab hq;have HR:=ab (hr.below hq);have HE:=ab (hE.below hq);have HN:=ab hn;have HS:=ab (Hv _ l W3 cT (by omega) (hr.below hq))
 have ji:Hid (W3.heap.size=w.heap.size+3∧W2.heap.size=w.heap.size+2∧W1.heap.size=w.heap.size+1):=by show _∧_∧_;omega
 have p1:=yJ.out.c1;have QZ:Hid ((mj l).length≤17592186044416):=by show _≤_;rw [ru];omega
 clear q1 q2 q3 x1 x2 x3 s1 s2 s3 hr hE cT hn hq;go_enter func170,ntmps170;go_wp2_with fail;refine HS.out.mono ?_
 rintro e w1 ⟨u,rfl,hint,aP⟩;have HC:=ab (Kz A u (mj l) w1 QZ.out hint (HE.out.below aP).1);have bQ:=ab aP;clear hint aP HS p1;go_wp2_with fail;refine HC.out.mono ?_
 rintro e w2 ⟨hv,aO⟩;obtain ⟨i,c,ev,rfl,uL,fM⟩:=hv.num;have bJ:=ab (Below.next bQ.out aO);have HCN:=ab uL;have kO:=ab fM;clear hv aO HC bQ;have vR:=nQ.out.below bJ.out;have jR:=rf.out.below bJ.out;have sN:=yJ.out.below bJ.out;by_cases hc:c=0
 ·subst hc;have BP:=mr fM;subst BP;obtain ⟨Cr,vz⟩:=uL.Wx;rw [ru,← HN.out] at vz;have Pz:i<l.length:=by have:=HN.out;omega
  have iT:=HR.out.below bJ.out;obtain ⟨g,o,rfl,d1,d2⟩:=iT.spot i Pz;have j0:(0:Int)≤(i:Int):=by omega
  have j1:(i:Int)<(n:Int):=by omega
  obtain ⟨p,hp⟩ : ∃ p,p=l[i]:=⟨_,rfl⟩;rw [← hp] at d1 d2;have p1:=sN.c1;have HI:Hid (∃ h:i<l.length,p=l[i]):=⟨Pz,hp⟩;have hi3:i≤n:=by omega
  have vq:=fun W=>X7 W (some ⟨g,o,none⟩) n c1 i (by omega)
  obtain ⟨q,hq⟩ : ∃ q,q=i+1:=⟨_,rfl⟩;obtain ⟨a2,S0,qL⟩:=iT.drop (m:=q) (by omega)
  have HQI:=ab hq;have vS:IntKind.i64.wrap ((i:Int)+1)=(q:Int):=by rw [IntKind.wrap_i64];omega
  have hqn:(q:Int)≤(n:Int):=by omega
  have Lb:(0:Int)≤(q:Int):=by omega
  have MM:=iT.take (m:=i) (by omega)
  have Mw:=ab S0;have MW:=ab MM;have U9:=ab sN;have HH2:=ab vR;have HH3:=ab jR;clear hp hq iT S0 MM uL fM sN vR jR Pz Cr vz;go_wp2_with fail;have q4:=ai w2 (.cells #[.string p.1,.int .i64 p.2] 179);have x4:=ax.new w2 #[.string p.1,.int .i64 p.2] 179;have s4:(w2.alloc (.cells #[.string p.1,.int .i64 p.2] 179)).heap.size=w2.heap.size+1:=by simp
  generalize w2.alloc (.cells #[.string p.1,.int .i64 p.2] 179)=W4 at *;have we:=ab x4;have Mx:=ab q4;have y1:=U9.out.below q4;have k0:=y1.c0;have k1:=y1.c1;have q5:=ai W4 (.cells #[.int .i64 0,.slice none 0 0] 150);have x5:=ax.new W4 #[.int .i64 0,.slice none 0 0] 150;have s5:(W4.alloc (.cells #[.int .i64 0,.slice none 0 0] 150)).heap.size=W4.heap.size+1:=by simp
  generalize hW5:W4.alloc (.cells #[.int .i64 0,.slice none 0 0] 150)=W5 at *;have zO:=ab x5;have Fp:=ab q5;have z0:=(y1.below q5).c0;have z1:=(y1.below q5).c1;have sW:Hid (W4.heap.size=w2.heap.size+1∧W5.heap.size=W4.heap.size+1∧w.heap.size+3≤w2.heap.size):=by show _∧_∧_;have:=ji.out;have:=bJ.out.size;omega
  have b1:¬ w.heap.size=W4.heap.size:=by have:=sW.out;omega
  have b2:¬ W4.heap.size=w.heap.size:=by have:=sW.out;omega
  have RO:Hid (∀ W,Below W4.heap.size W4 W→Calls prog 209 #[.slice (some ⟨g,o,none⟩) i c1] W fun e w'=>∃ ua uc,e = .returned (.slice ua i uc)∧b7 w' W.heap.size (.slice ua i uc) (l.take i)∧Below W.heap.size W w'):=fun W h=>by
   have bP:(l.take i).length=i:=by rw [ag];have:=HN.out;omega
   refine (eN _ (l.take i) W (by rw [bP];omega) ((MW.out.below q4).below h)).mono ?_
   rintro e w' ⟨u,rfl,ho,hb⟩;obtain ⟨ua,uc,hu⟩:=ho.form;rw [bP] at hu;subst hu;exact ⟨ua,uc,rfl,ho,hb⟩
  clear d1 d2 p1 q4 x4 y1 q5 x5 s4 s5;go_region_held3 (fun w'=>w'.cell? ⟨w.heap.size,0,none⟩=some (.int .i64 f)∧w'.cell? ⟨w.heap.size,1,none⟩=some (.slice (some ⟨g,o,none⟩) n c1)) (go_keep)
   (first
    | (go_at_call 209;refine (RO.out _ ?_).mono ?_;(first | exact (Below.refl _ _).drew | exact Fp.out.drew);rintro e w5 ⟨ua,uc,rfl,ho,hb⟩;have HO5:=ab ho;have jj:=ab hb;have m0:w5.cell? ⟨w.heap.size,0,none⟩=some (.int .i64 f):=(by first | exact (((U9.out.below Mx.out).below Fp.out).drew.below hb).c0 | exact ((U9.out.below Mx.out).drew.below hb).c0);have m1:w5.cell? ⟨w.heap.size,1,none⟩=some (.slice (some ⟨g,o,none⟩) n c1):=(by first | exact (((U9.out.below Mx.out).below Fp.out).drew.below hb).c1 | exact ((U9.out.below Mx.out).drew.below hb).c1);try (have m2:=(zO.out.drew.below hb).c0;have m3:=(zO.out.drew.below hb).c1;have m4:=(zO.out.drew.below hb).free 0;have m5:=(zO.out.drew.below hb).free 1);have m6:=World.new_ne w5 _ m0;clear ho hb))
  all_goals first
   | (have hx:=ax.new w5 #[.int .i64 f,.slice ua i uc] 150
      have hq:=ai w5 (.cells #[.int .i64 f,.slice ua i uc] 150);have Wh:Below W4.heap.size W4 (w5.alloc (.cells #[.int .i64 f,.slice ua i uc] 150)):=Below.next (dw jj.out) hq;have Pn:b7 (w5.alloc (.cells #[.int .i64 f,.slice ua i uc] 150)) W4.heap.size (.slice ua i uc) (l.take i):=HO5.out.below hq;have GX:W4.heap.size≤w5.heap.size:=jj.out.size;generalize w5.alloc (.cells #[.int .i64 f,.slice ua i uc] 150)=W7 at *;obtain ⟨B9,P2⟩ : ∃ B,B=w5.heap.size:=⟨_,rfl⟩;rw [← P2] at hx GX ⊢;have aaX:=ab GX;clear hq)
   | (have hx:=((zO.out.drew.below jj.out).two (.int .i64 f) (.slice ua i uc))
      have Wh:Below W4.heap.size W4 ((w5.setCell ⟨W4.heap.size,0,none⟩ (.int .i64 f)).setCell ⟨W4.heap.size,1,none⟩ (.slice ua i uc)):=bY (Below.next Fp.out (dw jj.out)) (aj _);have Pn:b7 ((w5.setCell ⟨W4.heap.size,0,none⟩ (.int .i64 f)).setCell ⟨W4.heap.size,1,none⟩ (.slice ua i uc)) W4.heap.size (.slice ua i uc) (l.take i):=(HO5.out.tm (g:=W4.heap.size) (by have:=sW.out;show W4.heap.size<W5.heap.size;omega) (.int .i64 f) (.slice ua i uc)).mono (by have:=sW.out;show W4.heap.size≤W5.heap.size;omega)
      generalize (w5.setCell ⟨W4.heap.size,0,none⟩ (.int .i64 f)).setCell ⟨W4.heap.size,1,none⟩ (.slice ua i uc)=W7 at *;obtain ⟨B9,P2⟩ : ∃ B,B=W4.heap.size:=⟨_,rfl⟩;rw [← P2] at hx ⊢;have aaX:Hid (W4.heap.size≤B9):=(by rw [P2];exact aj _))
  all_goals
   have HX7:=ab hx;have Ie:=ab Wh;have HO7:=ab Pn;clear hx Wh Pn P2
  all_goals
   try clear GX
   try clear m2 m3 m4 m5
   try clear m6
   clear m0 m1 RO b1 b2 z0 z1 k0 k1 vq HO5 jj zO Fp hW5 sW;have d1:=((we.out).below Ie.out).c0;have d2:=((we.out).below Ie.out).c1;have y1:=((U9.out.below Mx.out).below Ie.out);have k1:=y1.c1;have q5:=ai W7 (.cells #[.int .i64 0,.slice none 0 0] 150);have x5:=ax.new W7 #[.int .i64 0,.slice none 0 0] 150;have s5:(W7.alloc (.cells #[.int .i64 0,.slice none 0 0] 150)).heap.size=W7.heap.size+1:=by simp
   generalize hW8:W7.alloc (.cells #[.int .i64 0,.slice none 0 0] 150)=W8 at *;have XI:=ab x5;have HQ8:=ab q5;have z0:=(((we.out).below Ie.out).below q5).c1;have z1:=(y1.below q5).c1;have WE:Hid (W8.heap.size=W7.heap.size+1∧w.heap.size+3≤w2.heap.size∧w2.heap.size<W7.heap.size):=by show _∧_∧_;have:=ji.out;have:=bJ.out.size;have:=(we.out.below Ie.out).lt;omega
   have b1:¬ w.heap.size=W7.heap.size:=by have:=WE.out;omega
   have b2:¬ W7.heap.size=w.heap.size:=by have:=WE.out;omega
   have b3:¬ w2.heap.size=W7.heap.size:=by have:=WE.out;omega
   have b4:¬ W7.heap.size=w2.heap.size:=by have:=WE.out;omega
   have M1:Hid (∀ W,Below W7.heap.size W7 W→Calls prog 209 #[.slice a2 (n - q) (c1 - q)] W fun e w'=>∃ va vc,e = .returned (.slice va (n - q) vc)∧b7 w' W.heap.size (.slice va (n - q) vc) (l.drop q)∧Below W.heap.size W w'):=fun W h=>by
    have bP:(l.drop q).length=n - q:=by rw [ao];have:=HN.out;have:=HQI.out;omega
    refine (eN _ (l.drop q) W (by rw [bP];omega) (((Mw.out.below Mx.out).below Ie.out).below h)).mono ?_
    rintro e w' ⟨u,rfl,ho,hb⟩;obtain ⟨ua,uc,hu⟩:=ho.form;rw [bP] at hu;subst hu;exact ⟨ua,uc,rfl,ho,hb⟩
   generalize n - q=nr at *;generalize c1 - q=cr at *;clear q5 x5 y1 s5;go_wp2_with fail;go_region_held3 (fun w'=>w'.cell? ⟨w2.heap.size,1,none⟩=some (.int .i64 p.2)∧w'.cell? ⟨w.heap.size,1,none⟩=some (.slice (some ⟨g,o,none⟩) n c1)) (go_keep)
    (first
     | (go_at_call 209;refine (M1.out _ ?_).mono ?_;(first | exact (Below.refl _ _).drew | exact HQ8.out.drew);rintro e w8 ⟨va,vc,rfl,ho,hb⟩;have HO8:=ab ho;have HB8:=ab hb;have m0:w8.cell? ⟨w2.heap.size,1,none⟩=some (.int .i64 p.2):=(by first | exact (((we.out.below Ie.out).below HQ8.out).drew.below hb).c1 | exact ((we.out.below Ie.out).drew.below hb).c1);have m1:w8.cell? ⟨w.heap.size,1,none⟩=some (.slice (some ⟨g,o,none⟩) n c1):=(by first | exact ((((U9.out.below Mx.out).below Ie.out).below HQ8.out).drew.below hb).c1 | exact (((U9.out.below Mx.out).below Ie.out).drew.below hb).c1);try (have m2:=(XI.out.drew.below hb).c0;have m3:=(XI.out.drew.below hb).c1;have m4:=(XI.out.drew.below hb).free 0;have m5:=(XI.out.drew.below hb).free 1);have m6:=World.new_ne w8 _ m0;have m7:=World.new_ne w8 _ m1;clear ho hb))
  all_goals first
   | (have hx:=ax.new w8 #[.int .i64 p.2,.slice va nr vc] 150
      have hq:=ai w8 (.cells #[.int .i64 p.2,.slice va nr vc] 150);have Wh:Below W7.heap.size W7 (w8.alloc (.cells #[.int .i64 p.2,.slice va nr vc] 150)):=Below.next (dw HB8.out) hq;have Pn:b7 (w8.alloc (.cells #[.int .i64 p.2,.slice va nr vc] 150)) W7.heap.size (.slice va nr vc) (l.drop q):=HO8.out.below hq;have GX:W7.heap.size≤w8.heap.size:=HB8.out.size;generalize w8.alloc (.cells #[.int .i64 p.2,.slice va nr vc] 150)=W9 at *;obtain ⟨Ub,P2⟩ : ∃ B,B=w8.heap.size:=⟨_,rfl⟩;rw [← P2] at hx GX ⊢;have aaW:=ab GX;clear hq)
   | (have hx:=((XI.out.drew.below HB8.out).two (.int .i64 p.2) (.slice va nr vc))
      have Wh:Below W7.heap.size W7 ((w8.setCell ⟨W7.heap.size,0,none⟩ (.int .i64 p.2)).setCell ⟨W7.heap.size,1,none⟩ (.slice va nr vc)):=bY (Below.next HQ8.out (dw HB8.out)) (aj _);have Pn:b7 ((w8.setCell ⟨W7.heap.size,0,none⟩ (.int .i64 p.2)).setCell ⟨W7.heap.size,1,none⟩ (.slice va nr vc)) W7.heap.size (.slice va nr vc) (l.drop q):=(HO8.out.tm (g:=W7.heap.size) (by have:=WE.out;show W7.heap.size<W8.heap.size;omega) (.int .i64 p.2) (.slice va nr vc)).mono (by have:=WE.out;show W7.heap.size≤W8.heap.size;omega)
      generalize (w8.setCell ⟨W7.heap.size,0,none⟩ (.int .i64 p.2)).setCell ⟨W7.heap.size,1,none⟩ (.slice va nr vc)=W9 at *;obtain ⟨Ub,P2⟩ : ∃ B,B=W7.heap.size:=⟨_,rfl⟩;rw [← P2] at hx ⊢;have aaW:Hid (W7.heap.size≤Ub):=(by rw [P2];exact aj _))
  all_goals
   have HX9:=ab hx;have Vd:=ab Wh;have HO9:=ab Pn;clear hx Wh Pn P2
  all_goals
   try clear GX
   try clear m2 m3 m4 m5
   try clear m6 m7
   clear m0 m1 M1 b1 b2 b3 b4 z0 z1 k1 d1 d2 qL HO8 HB8 XI HQ8 hW8;have y9:=HX7.out.below Vd.out;have y8:=(we.out.below Ie.out).below Vd.out;have y1:=(((HH2.out.below Mx.out).below Ie.out).below Vd.out);have y2:=(((HH3.out.below Mx.out).below Ie.out).below Vd.out);have e1:=y9.c0;have e2:=y9.c1;have e3:=y8.c0;have e4:=HX9.out.c0;have e5:=HX9.out.c1;have e6:=y1.c0;have e7:=y1.c1;have e8:=y2.c0;have e9:=y2.c1;have f1:=y1.free 0;have f2:=y1.free 1;have f3:=y2.free 0;have f4:=y2.free 1;have lf:Hid (W1.heap.size=w.heap.size+1∧W2.heap.size=w.heap.size+2∧w.heap.size+3≤w2.heap.size∧w.heap.size+3≤B9∧w.heap.size+3≤Ub∧w.heap.size+3≤W4.heap.size∧w.heap.size+3≤W7.heap.size):=by
    have h1:=ji.out;have h2:=aaX.out;have h3:=aaW.out;have h4:=Mx.out.size;have h5:=Ie.out.size;have h6:=WE.out;exact ⟨h1.2.2,h1.2.1,h6.2.1,by omega,by omega,by omega,by omega⟩
   have g1:¬ B9=W1.heap.size:=by have:=lf.out;omega
   have g2:¬ W1.heap.size=B9:=by have:=lf.out;omega
   have g3:¬ B9=W2.heap.size:=by have:=lf.out;omega
   have g4:¬ W2.heap.size=B9:=by have:=lf.out;omega
   have g5:¬ Ub=W1.heap.size:=by have:=lf.out;omega
   have g6:¬ W1.heap.size=Ub:=by have:=lf.out;omega
   have g7:¬ Ub=W2.heap.size:=by have:=lf.out;omega
   have g8:¬ W2.heap.size=Ub:=by have:=lf.out;omega
   have g9:¬ w2.heap.size=W1.heap.size:=by have:=lf.out;omega
   have g10:¬ W1.heap.size=w2.heap.size:=by have:=lf.out;omega
   have g11:¬ w2.heap.size=W2.heap.size:=by have:=lf.out;omega
   have g12:¬ W2.heap.size=w2.heap.size:=by have:=lf.out;omega
   have g13:¬ W1.heap.size=W2.heap.size:=by have:=lf.out;omega
   have g14:¬ W2.heap.size=W1.heap.size:=by have:=lf.out;omega
   have HY1:=ab y1;have HY2:=ab y2;clear y9 y8 y1 y2;go_wp2_with fail;go_region_held3 (fun w'=>w'.cell? ⟨B9,0,none⟩=some (.int .i64 f)∧w'.cell? ⟨B9,1,none⟩=some (.slice ua i uc)∧w'.cell? ⟨w2.heap.size,0,none⟩=some (.string p.1)∧w'.cell? ⟨Ub,0,none⟩=some (.int .i64 p.2)∧w'.cell? ⟨Ub,1,none⟩=some (.slice va nr vc)) (go_keep) (fail)
  all_goals
   have r2:ax (((((W9.setCell ⟨W1.heap.size,0,none⟩ (.int .i64 f)).setCell ⟨W1.heap.size,1,none⟩ (.slice ua i uc)).setCell ⟨W2.heap.size,0,none⟩ (.int .i64 p.2)).setCell ⟨W2.heap.size,1,none⟩ (.slice va nr vc))) W1.heap.size #[.int .i64 f,.slice ua i uc] 150:=((HY1.out.two _ _).other g13 _).other g13 _;have r3:ax (((((W9.setCell ⟨W1.heap.size,0,none⟩ (.int .i64 f)).setCell ⟨W1.heap.size,1,none⟩ (.slice ua i uc)).setCell ⟨W2.heap.size,0,none⟩ (.int .i64 p.2)).setCell ⟨W2.heap.size,1,none⟩ (.slice va nr vc))) W2.heap.size #[.int .i64 p.2,.slice va nr vc] 150:=((HY2.out.other g14 _).other g14 _).two _ _;clear e1 e2 e3 e4 e5 e6 e7 e8 e9 f1 f2 f3 f4;go_wp2_with fail;have o1:=((HO7.out.below Vd.out).tm (g:=W1.heap.size) (by have:=lf.out;omega) (.int .i64 f) (.slice ua i uc)).tm (g:=W2.heap.size) (by have:=lf.out;omega) (.int .i64 p.2) (.slice va nr vc)
   have o2:=(HO9.out.tm (g:=W1.heap.size) (by have:=lf.out;omega) (.int .i64 f) (.slice ua i uc)).tm (g:=W2.heap.size) (by have:=lf.out;omega) (.int .i64 p.2) (.slice va nr vc)
   refine bodyPost_ret (qd rfl _ _ W1.heap.size W2.heap.size 150 150 _ _ (0,0) (0,0) _ _ rfl rfl r2.drew r3.drew underlying150 underlying150 rfl rfl (by kernel_rfl) (by kernel_rfl)) rfl ⟨⟨i,0,p.1,f,p.2,.slice ua i uc,.slice va nr vc,_,rfl,HCN.out,kO.out,.inl ⟨rfl,?_,?_,?_,?_⟩⟩,?_⟩
   ·obtain ⟨h,he⟩:=HI.out;exact ⟨h,rfl,by rw [he],by rw [he]⟩
   ·exact (o1.mono (by have:=lf.out;omega)).drew
   ·rw [← HQI.out];exact (o2.mono (by have:=lf.out;omega)).drew
   ·intro k h1 h2;have a1:=HO7.out.dn k h1;have a2:=HO9.out.dn k h2;omega
   ·exact aN (bY (bY (Below.next HQ.out (Below.next bJ.out (Below.next Mx.out (Below.next Ie.out Vd.out)))) (by have:=lf.out;omega)) (by have:=lf.out;omega))
 ·obtain ⟨k,rfl⟩:=tu fM hc;have Er:=fun W=>ff (some (A k)) W
  have HCZ:=ab hc;have r1:=vR.c0;have r2:=vR.c1;have r3:=jR.c0;have r4:=jR.c1;have z1:=vR.free 0;have z2:=vR.free 1;have z3:=jR.free 0;have z4:=jR.free 1;have b1:¬ W1.heap.size=W2.heap.size:=by have:=ji.out;omega
  have b2:¬ W2.heap.size=W1.heap.size:=by have:=ji.out;omega
  have adA:=ab vR;have adz:=ab jR;clear uL fM hc sN vR jR;go_wp2_with fail;have e2:ax (((((w2.setCell ⟨W1.heap.size,0,none⟩ (.int .i64 0)).setCell ⟨W1.heap.size,1,none⟩ (.slice none 0 0)).setCell ⟨W2.heap.size,0,none⟩ (.int .i64 0)).setCell ⟨W2.heap.size,1,none⟩ (.slice none 0 0))) W1.heap.size #[.int .i64 0,.slice none 0 0] 150:=((adA.out.two _ _).other b1 _).other b1 _;have e3:ax (((((w2.setCell ⟨W1.heap.size,0,none⟩ (.int .i64 0)).setCell ⟨W1.heap.size,1,none⟩ (.slice none 0 0)).setCell ⟨W2.heap.size,0,none⟩ (.int .i64 0)).setCell ⟨W2.heap.size,1,none⟩ (.slice none 0 0))) W2.heap.size #[.int .i64 0,.slice none 0 0] 150:=((adz.out.other b2 _).other b2 _).two _ _;refine bodyPost_ret (qd rfl _ _ W1.heap.size W2.heap.size 150 150 _ _ (0,0) (0,0) _ _ rfl rfl e2 e3 underlying150 underlying150 rfl rfl (by kernel_rfl) (by kernel_rfl)) rfl ⟨⟨i,c,_,0,0,_,_,_,rfl,HCN.out,kO.out,.inr ⟨HCZ.out,rfl,rfl,rfl,rfl,rfl⟩⟩,?_⟩
  exact bY (bY (Below.next HQ.out bJ.out) (by have:=ji.out;omega)) (by have:=ji.out;omega)
end B
namespace T
open Go.RowKit
theorem Nx(l:List B.Lk):iW (l.map (·.1))=B.mj l:=by
 simp [iW,B.mj,B.yQ]
theorem Sw(A:Nat→Addr)(b:Nat)(n:SN)(pv lv cv:Value)(w:World)(h:dG w b n pv lv cv)(h0:¬ n.us.length=0)(hlen:n.us.length=n.lk.length+1)(h3:3≤n.lk.length)(hE:j7 A w):Calls prog 129 #[.pointer (some ⟨b,0,none⟩)] w fun e w'=>∃ (i:Nat) (k:ByteArray) (f2:Int),dr (ju (iW (n.lk.map (·.1)))) ((iW (n.lk.map (·.1))).length - 2) i∧(∃ x,n.lk[i]?=some (k,x))∧yG w ⟨[],n.f,n.lk.take i,n.us.take (i+1)⟩ k ⟨[],f2,n.lk.drop (i+1),n.us.drop (i+1)⟩ e w':=by
 have HL:=ab (ch b n pv lv cv w h);rw [show decide (n.us.length=0)=false by simp [h0]] at HL
 have yO:Hid (Calls prog 170 #[.agg #[.int .i64 n.f,lv]] w fun e w'=>∃ (i:Nat) (k:ByteArray) (f2:Int) (mV sM:Option Addr) (mU mi:Nat),e = .returned (.tuple #[.agg #[.int .i64 n.f,.slice mV i mU],.string k,.agg #[.int .i64 f2,.slice sM (n.lk.length - (i+1)) mi],.nilIface])∧dr (ju (iW (n.lk.map (·.1)))) ((iW (n.lk.map (·.1))).length - 2) i∧(∃ x,n.lk[i]?=some (k,x))∧(1≤i∧i+2≤n.lk.length)∧B.cV w' (.slice mV i mU) (n.lk.take i)∧B.cV w' (.slice sM (n.lk.length - (i+1)) mi) (n.lk.drop (i+1))∧Below w.heap.size w w'):=by
  refine (B.QJ A n.f lv n.lk w h.uC (by have:=h.fine.2.2.2.1;omega) h.bm hE).mono fun e w' hh=>?_
  obtain ⟨⟨i,cc,key,f1,f2,u1,u2,ev,h1,uL,fM,fs⟩,hb⟩:=hh;have Pu:(B.mj n.lk).length=n.lk.length:=by simp [B.mj]
  have PH:ir (B.mj n.lk):=fun j hj=>by
   have l6:j<n.lk.length:=by rw [← Pu];exact hj
   have:=h.fine.2.2.1 n.lk[j] (aH l6);unfold cW at this;simp only [B.mj,cd];unfold B.yQ;omega
  rcases uL with ⟨g1,_,_⟩ | ⟨_,g1,_⟩ | ⟨_,_,oO,yh⟩
  ·rw [Pu] at g1;omega
  ·exact absurd PH g1
  ·subst yh;rcases fs with ⟨_,⟨hi,rfl,rfl,rfl⟩,o1,o2,_⟩ | ⟨dK,_⟩
   ·have BP:=mr fM;subst BP;have Lh:=oO.1;rw [Pu] at Lh;obtain ⟨a1,c1,e1⟩:=o1.form;obtain ⟨a2,c2,e2⟩:=o2.form;subst e1 e2;have l1:(n.lk.take i).length=i:=by rw [ag];omega
    have l2:(n.lk.drop (i+1)).length=n.lk.length - (i+1):=by rw [ao]
    have p1:=o1.at;have p2:=o2.at;rw [l1] at h1 p1;rw [l2] at h1 p2;refine ⟨i,_,_,a1,a2,c1,c2,h1,?_,⟨_,af hi⟩,⟨by omega,by omega⟩,p1,p2,hb⟩
    rw [Nx];exact oO
   ·exact absurd rfl dK
 have p1:=h.c1;have p2:=h.c2;have HH:=ab h;have kV:=ab hlen;obtain ⟨ca,cc,yf⟩:=h.kids.form;subst yf;have di:n.us.length≤cc:=by
  obtain ⟨_,_,he,hle,_⟩:=h.kids;simp only [Value.slice.injEq] at he;obtain ⟨-,-,rfl⟩:=he;rw [C.ej] at hle;exact hle
 obtain ⟨m,hm⟩ : ∃ m,m=n.us.length:=⟨_,rfl⟩;have Hm:=ab hm;have aes:=ab di;clear hm di;clear h h0 hE h3 hlen;go_enter func129,ntmps129;go_wp2_with fail;refine HL.out.mono ?_
 rintro e w1 ⟨rfl,rfl⟩;clear HL;go_wp2_with fail;refine yO.out.mono ?_
 rintro e w2 ⟨I,k,f2,mV,sM,mU,mi,rfl,oO,hkx,Lh,fV,iT,aO⟩;obtain ⟨M,hM⟩ : ∃ M,M=n.lk.length - (I+1):=⟨_,rfl⟩;rw [← hM] at iT ⊢;have wh:=ab hM;clear hM;have qa:=ai w2 (.cells #[.int .i64 n.f,.slice mV I mU] 150);have qb:=ai (w2.alloc (.cells #[.int .i64 n.f,.slice mV I mU] 150)) (.cells #[.int .i64 f2,.slice sM M mi] 150);have xa:=(B.ax.new w2 #[.int .i64 n.f,.slice mV I mU] 150).below qb;have xb:=B.ax.new (w2.alloc (.cells #[.int .i64 n.f,.slice mV I mU] 150)) #[.int .i64 f2,.slice sM M mi] 150;have sb:(w2.alloc (.cells #[.int .i64 n.f,.slice mV I mU] 150)).heap.size=w2.heap.size+1:=by simp
 rw [sb] at xb;have pZ:=ab xa;have QV:=ab xb;have gr:=ab (Below.next (Below.next aO qa) qb);have nV:=ab ((fV.below qa).below qb);have o7:=ab ((iT.below qa).below qb);have Ba:=ab oO;have HKX:=ab hkx;have MZ:=ab Lh;clear yO p1 p2 oO hkx Lh fV iT aO qa qb xa xb sb;obtain ⟨H,hH⟩ : ∃ H,H=I+1:=⟨_,rfl⟩;obtain ⟨K,hK⟩ : ∃ K,K=m - H:=⟨_,rfl⟩;have hwH:IntKind.i64.wrap ((I:Int)+1)=(H:Int):=by have:=MZ.out;have:=HH.out.fine.2.2.2.1;rw [IntKind.wrap_i64];omega
 have HHM:Hid (H≤m∧1≤K):=by
  have h1:=MZ.out;have h2:=kV.out;have h3:=Hm.out;exact ⟨by omega,by omega⟩
 have HHI:=ab hH;have MX:=ab hK;clear hH hK;go_upto_region 6 with fail
 have hH:=HHI.out;have hK:=MX.out;have hM:=wh.out;have hm:=Hm.out;have hHm:=HHM.out;have di:=aes.out;generalize (w2.alloc (.cells #[.int .i64 n.f,.slice mV I mU] 150)).alloc (.cells #[.int .i64 f2,.slice sM M mi] 150)=W4 at *;obtain ⟨kb,V2⟩ : ∃ x,x=w2.heap.size+1:=⟨_,rfl⟩;obtain ⟨ka,Xv⟩ : ∃ x,x=w2.heap.size:=⟨_,rfl⟩;rw [← V2] at QV ⊢;rw [← Xv] at pZ ⊢;clear V2 Xv;have uJ:C.cV W4 (.slice ca n.us.length cc) n.us:=(HH.out.below gr.out).kids;obtain ⟨da,PI,qL⟩:=uJ.drop (m:=H) (by omega)
 have mX:=uJ.take (m:=H) (by omega)
 have vq:=fun W=>C.X8 W ca n.us.length cc H (by omega)
 have Yi:(n.us.take H).length=H:=by rw [ag];omega
 have Yj:(n.us.drop H).length=K:=by rw [ao];omega
 have hmK:n.us.length - H=K:=by omega
 rw [hmK] at PI qL;have RO:Hid (∀ W,Below W4.heap.size W4 W→Calls prog 164 #[.slice ca H cc] W fun e w'=>∃ (g c:Nat),e = .returned (.slice (some ⟨g,0,none⟩) H c)∧C.cV w' (.slice (some ⟨g,0,none⟩) H c) (n.us.take H)∧Below W.heap.size W w'):=fun W hW=>by
  refine (C.eN _ (n.us.take H) W (by rw [Yi];have:=HH.out.fine.2.2.2.2;omega) (mX.below hW)).mono fun e w' ⟨u,h1,h2,h3⟩=>?_
  obtain ⟨g,c,hu,_,_⟩:=sm h2 (by rw [Yi];omega)
  subst hu;rw [Yi] at h1 h2;exact ⟨g,c,h1,h2.at,h3⟩
 have M1:Hid (∀ W,Below W4.heap.size W4 W→Calls prog 164 #[.slice da K (cc - H)] W fun e w'=>∃ (g c:Nat),e = .returned (.slice (some ⟨g,0,none⟩) K c)∧C.cV w' (.slice (some ⟨g,0,none⟩) K c) (n.us.drop H)∧Below W.heap.size W w'):=fun W hW=>by
  refine (C.eN _ (n.us.drop H) W (by rw [Yj];have:=HH.out.fine.2.2.2.2;omega) (PI.below hW)).mono fun e w' ⟨u,h1,h2,h3⟩=>?_
  obtain ⟨g,c,hu,_,_⟩:=sm h2 (by rw [Yj];omega)
  subst hu;rw [Yj] at h1 h2;exact ⟨g,c,h1,h2.at,h3⟩
 have sK:Hid ((∀ p ∈ n.lk.take I,cW p.1)∧(n.lk.take I).length≤4000∧(n.us.take H).length≤4001∧(∀ p ∈ n.lk.drop H,cW p.1)∧(n.lk.drop H).length≤4000∧(n.us.drop H).length≤4001):=by
  have hf:=HH.out.fine;exact ⟨fun p hp=>hf.2.2.1 p (bH hp),by rw [ag];omega,by rw [Yi];omega,fun p hp=>hf.2.2.1 p (bI hp),by rw [ao];omega,by rw [Yj];omega⟩
 rw [← hH] at o7;have k3:=(HH.out.below gr.out).c3;have kA0:=pZ.out.c0;have kA1:=pZ.out.c1;have kB0:=QV.out.c0;have kB1:=QV.out.c1;have Q1:Hid (∀ W,Below W4.heap.size W4 W→(W.cell? ⟨b,3,none⟩=some (.slice ca n.us.length cc)∧W.cell? ⟨ka,0,none⟩=some (.int .i64 n.f)∧W.cell? ⟨ka,1,none⟩=some (.slice mV I mU)∧W.cell? ⟨kb,0,none⟩=some (.int .i64 f2)∧W.cell? ⟨kb,1,none⟩=some (.slice sM M mi))∧¬ b=W.heap.size∧¬ ka=W.heap.size∧¬ kb=W.heap.size):=fun W hW=>⟨⟨(HH.out.below (Below.next gr.out hW)).c3,(pZ.out.below hW).c0,(pZ.out.below hW).c1,(QV.out.below hW).c0,(QV.out.below hW).c1⟩,by have:=(HH.out.below gr.out).row.lt;have:=hW.size;omega,by have:=pZ.out.lt;have:=hW.size;omega,by have:=QV.out.lt;have:=hW.size;omega⟩
 have hHI:(H:Int)≤(cc:Int):=by omega
 have hH0:(0:Int)≤(H:Int):=by omega
 clear hH hK hM hHm di PI mX Yi Yj uJ hmK hm;go_region_held3 (fun w'=>w'.cell? ⟨b,3,none⟩=some (.slice ca n.us.length cc)∧w'.cell? ⟨ka,0,none⟩=some (.int .i64 n.f)∧w'.cell? ⟨ka,1,none⟩=some (.slice mV I mU)∧w'.cell? ⟨kb,0,none⟩=some (.int .i64 f2)∧w'.cell? ⟨kb,1,none⟩=some (.slice sM M mi)) (go_keep)
  (first
   | (go_at_call_of 164 (Value.slice ca H cc);refine (RO.out _ ?_).mono ?_;(first | exact qm.out | exact Below.next qm.out (ai w6 (.cells #[.slice none 0 0,.int .i64 f2,.slice sM M mi,.slice (some ⟨g6,0,none⟩) K c6] 155)) | exact (Below.refl _ _).drew);rintro e w5 ⟨g5,c5,rfl,ho,hb⟩;have rh:Hid (Below W4.heap.size W4 w5):=(by first | exact Below.next qm.out hb | exact Below.next (Below.next qm.out (ai w6 (.cells #[.slice none 0 0,.int .i64 f2,.slice sM M mi,.slice (some ⟨g6,0,none⟩) K c6] 155))) hb | exact B.dw hb);have WV:=ab ho;(try (have WU:=ab (WU.out.below hb)));(try (have WU:=ab ((WU.out.below (ai w6 (.cells #[.slice none 0 0,.int .i64 f2,.slice sM M mi,.slice (some ⟨g6,0,none⟩) K c6] 155))).below hb)));(try (have HXO:=ab ((B.ax.new w6 #[.slice none 0 0,.int .i64 f2,.slice sM M mi,.slice (some ⟨g6,0,none⟩) K c6] 155).below hb)));obtain ⟨⟨m1,m2,m3,m4,m5⟩,m6,m7,m8⟩:=Q1.out _ rh.out;clear ho hb)
   | (go_at_call_of 164 (Value.slice da K (cc - H));refine (M1.out _ ?_).mono ?_;(first | exact rh.out | exact Below.next rh.out (ai w5 (.cells #[.slice none 0 0,.int .i64 n.f,.slice mV I mU,.slice (some ⟨g5,0,none⟩) H c5] 155)) | exact (Below.refl _ _).drew);rintro e w6 ⟨g6,c6,rfl,ho,hb⟩;have qm:Hid (Below W4.heap.size W4 w6):=(by first | exact Below.next rh.out hb | exact Below.next (Below.next rh.out (ai w5 (.cells #[.slice none 0 0,.int .i64 n.f,.slice mV I mU,.slice (some ⟨g5,0,none⟩) H c5] 155))) hb | exact B.dw hb);have WU:=ab ho;(try (have WV:=ab (WV.out.below hb)));(try (have WV:=ab ((WV.out.below (ai w5 (.cells #[.slice none 0 0,.int .i64 n.f,.slice mV I mU,.slice (some ⟨g5,0,none⟩) H c5] 155))).below hb)));(try (have HXO:=ab ((B.ax.new w5 #[.slice none 0 0,.int .i64 n.f,.slice mV I mU,.slice (some ⟨g5,0,none⟩) H c5] 155).below hb)));obtain ⟨⟨m1,m2,m3,m4,m5⟩,m6,m7,m8⟩:=Q1.out _ qm.out;clear ho hb))
 all_goals first
  | (have qb:=ai w6 (.cells #[.slice none 0 0,.int .i64 f2,.slice sM M mi,.slice (some ⟨g6,0,none⟩) K c6] 155)
     have Ft:Hid (yG w ⟨[],n.f,n.lk.take I,n.us.take H⟩ k ⟨[],f2,n.lk.drop H,n.us.drop H⟩ (.returned (.tuple #[.pointer (some ⟨w5.heap.size,0,none⟩),.string k,.pointer (some ⟨w6.heap.size,0,none⟩)])) (w6.alloc (.cells #[.slice none 0 0,.int .i64 f2,.slice sM M mi,.slice (some ⟨g6,0,none⟩) K c6] 155))):=⟨_,_,_,_,_,_,_,_,rfl,⟨HXO.out.below qb,gK.nil _,(nV.out.below qm.out).below qb,WV.out.below qb,(fun p hp=>by simp at hp),by simp,sK.out.1,sK.out.2.1,sK.out.2.2.1⟩,⟨B.ax.new w6 #[.slice none 0 0,.int .i64 f2,.slice sM M mi,.slice (some ⟨g6,0,none⟩) K c6] 155,gK.nil _,(o7.out.below qm.out).below qb,WU.out.below qb,(fun p hp=>by simp at hp),by simp,sK.out.2.2.2.1,sK.out.2.2.2.2.1,sK.out.2.2.2.2.2⟩,Below.next (Below.next gr.out qm.out) qb⟩
     clear qb HXO;go_wp2;go_ret3;exact ⟨I,k,f2,Ba.out,HKX.out,by rw [← HHI.out];first | exact Ft.out | exact Ft.out.drew⟩)
  | (have qa:=ai w6 (.cells #[.slice none 0 0,.int .i64 n.f,.slice mV I mU,.slice (some ⟨g5,0,none⟩) H c5] 155)
     have qb:=ai (w6.alloc (.cells #[.slice none 0 0,.int .i64 n.f,.slice mV I mU,.slice (some ⟨g5,0,none⟩) H c5] 155)) (.cells #[.slice none 0 0,.int .i64 f2,.slice sM M mi,.slice (some ⟨g6,0,none⟩) K c6] 155);have xa:=(B.ax.new w6 #[.slice none 0 0,.int .i64 n.f,.slice mV I mU,.slice (some ⟨g5,0,none⟩) H c5] 155).below qb;have xb:=B.ax.new (w6.alloc (.cells #[.slice none 0 0,.int .i64 n.f,.slice mV I mU,.slice (some ⟨g5,0,none⟩) H c5] 155)) #[.slice none 0 0,.int .i64 f2,.slice sM M mi,.slice (some ⟨g6,0,none⟩) K c6] 155;have sa:(w6.alloc (.cells #[.slice none 0 0,.int .i64 n.f,.slice mV I mU,.slice (some ⟨g5,0,none⟩) H c5] 155)).heap.size=w6.heap.size+1:=by simp
     rw [sa] at xb;have Ft:Hid (yG w ⟨[],n.f,n.lk.take I,n.us.take H⟩ k ⟨[],f2,n.lk.drop H,n.us.drop H⟩ (.returned (.tuple #[.pointer (some ⟨w6.heap.size,0,none⟩),.string k,.pointer (some ⟨w6.heap.size+1,0,none⟩)])) ((w6.alloc (.cells #[.slice none 0 0,.int .i64 n.f,.slice mV I mU,.slice (some ⟨g5,0,none⟩) H c5] 155)).alloc (.cells #[.slice none 0 0,.int .i64 f2,.slice sM M mi,.slice (some ⟨g6,0,none⟩) K c6] 155))):=⟨_,_,_,_,_,_,_,_,rfl,⟨xa,gK.nil _,((nV.out.below qm.out).below qa).below qb,(WV.out.below qa).below qb,(fun p hp=>by simp at hp),by simp,sK.out.1,sK.out.2.1,sK.out.2.2.1⟩,⟨xb,gK.nil _,((o7.out.below qm.out).below qa).below qb,(WU.out.below qa).below qb,(fun p hp=>by simp at hp),by simp,sK.out.2.2.2.1,sK.out.2.2.2.2.1,sK.out.2.2.2.2.2⟩,Below.next (Below.next (Below.next gr.out qm.out) qa) qb⟩
     clear qa qb xa xb sa;go_wp2;go_ret3;exact ⟨I,k,f2,Ba.out,HKX.out,by rw [← HHI.out];first | exact Ft.out | exact Ft.out.drew⟩)
  | (have qa:=ai w6 (.cells #[.slice none 0 0,.int .i64 f2,.slice sM M mi,.slice (some ⟨g6,0,none⟩) K c6] 155)
     have qb:=ai (w6.alloc (.cells #[.slice none 0 0,.int .i64 f2,.slice sM M mi,.slice (some ⟨g6,0,none⟩) K c6] 155)) (.cells #[.slice none 0 0,.int .i64 n.f,.slice mV I mU,.slice (some ⟨g5,0,none⟩) H c5] 155);have xa:=(B.ax.new w6 #[.slice none 0 0,.int .i64 f2,.slice sM M mi,.slice (some ⟨g6,0,none⟩) K c6] 155).below qb;have xb:=B.ax.new (w6.alloc (.cells #[.slice none 0 0,.int .i64 f2,.slice sM M mi,.slice (some ⟨g6,0,none⟩) K c6] 155)) #[.slice none 0 0,.int .i64 n.f,.slice mV I mU,.slice (some ⟨g5,0,none⟩) H c5] 155;have sa:(w6.alloc (.cells #[.slice none 0 0,.int .i64 f2,.slice sM M mi,.slice (some ⟨g6,0,none⟩) K c6] 155)).heap.size=w6.heap.size+1:=by simp
     rw [sa] at xb;have Ft:Hid (yG w ⟨[],n.f,n.lk.take I,n.us.take H⟩ k ⟨[],f2,n.lk.drop H,n.us.drop H⟩ (.returned (.tuple #[.pointer (some ⟨w6.heap.size+1,0,none⟩),.string k,.pointer (some ⟨w6.heap.size,0,none⟩)])) ((w6.alloc (.cells #[.slice none 0 0,.int .i64 f2,.slice sM M mi,.slice (some ⟨g6,0,none⟩) K c6] 155)).alloc (.cells #[.slice none 0 0,.int .i64 n.f,.slice mV I mU,.slice (some ⟨g5,0,none⟩) H c5] 155))):=⟨_,_,_,_,_,_,_,_,rfl,⟨xb,gK.nil _,((nV.out.below qm.out).below qa).below qb,(WV.out.below qa).below qb,(fun p hp=>by simp at hp),by simp,sK.out.1,sK.out.2.1,sK.out.2.2.1⟩,⟨xa,gK.nil _,((o7.out.below qm.out).below qa).below qb,(WU.out.below qa).below qb,(fun p hp=>by simp at hp),by simp,sK.out.2.2.2.1,sK.out.2.2.2.2.1,sK.out.2.2.2.2.2⟩,Below.next (Below.next (Below.next gr.out qm.out) qa) qb⟩
     clear qa qb xa xb sa;go_wp2;go_ret3;exact ⟨I,k,f2,Ba.out,HKX.out,by rw [← HHI.out];first | exact Ft.out | exact Ft.out.drew⟩)
def SN.zn(n:SN):Prop:=n.us.length=0∨n.us.length=n.lk.length+1
def MF(n a:SN)(k:ByteArray)(b:SN):Prop :=
 (n.us.length=0∧∃ (i:Nat) (v:ByteArray),dr (jv (nS n.ps)) ((nS n.ps).length - 1) i∧n.ps[i]?=some (k,v)∧a=⟨n.ps.take i,0,[],[]⟩∧b=⟨n.ps.drop i,0,[],[]⟩) ∨
 (¬ n.us.length=0∧∃ (i:Nat) (f2:Int) (x:Int),dr (ju (iW (n.lk.map (·.1)))) ((iW (n.lk.map (·.1))).length - 2) i∧n.lk[i]?=some (k,x)∧a=⟨[],n.f,n.lk.take i,n.us.take (i+1)⟩∧b=⟨[],f2,n.lk.drop (i+1),n.us.drop (i+1)⟩)
theorem DI(A:Nat→Addr)(b:Nat)(n:SN)(pv lv cv:Value)(w:World)(h:dG w b n pv lv cv)(hk:n.zn)(hb:4072<n.sz)(hE:j7 A w):Calls prog 129 #[.pointer (some ⟨b,0,none⟩)] w fun e w'=>∃ a k c,MF n a k c∧yG w a k c e w':=by
 unfold SN.sz at hb;by_cases h0:n.us.length=0
 ·rw [if_pos h0] at hb;have h2:=vG h.fine.1;refine (KL A b n pv lv cv w h h0 (by omega) hE).mono fun e w' hh=>?_
  obtain ⟨i,k,v,h1,h2,h3⟩:=hh;exact ⟨_,k,_,.inl ⟨h0,i,v,h1,h2,rfl,rfl⟩,h3⟩
 ·rw [if_neg h0] at hb;have h2:=Nz h.fine.2.2.1;have hlen:n.us.length=n.lk.length+1:=hk.resolve_left h0;refine (Sw A b n pv lv cv w h h0 hlen (by omega) hE).mono fun e w' hh=>?_
  obtain ⟨i,k,f2,h1,⟨x,h2⟩,h3⟩:=hh;exact ⟨_,k,_,.inr ⟨h0,i,f2,x,h1,h2,rfl,rfl⟩,h3⟩
def mL(w:World)(n:SN)(i bb:Nat)(nb:SN)(e:Ending)(w':World):Prop :=
 (¬ 4072<nb.sz∧RF w ⟨[],n.f,n.lk,n.us.set i (.nd bb)⟩ e w') ∨
 (4072<nb.sz∧∃ (a:SN) (k:ByteArray) (c:SN) (ba bc:Nat) (pa la ca pc lc cc:Value),MF nb a k c∧dG w' ba a pa la ca∧dG w' bc c pc lc cc∧RF w ⟨[],n.f,B.dI n.lk i (k,0),C.dI (n.us.set i (.nd ba)) (i+1) (.nd bc)⟩ e w')
theorem MF.key{n a c:SN}{k:ByteArray}(h:MF n a k c)(h1:∀ p ∈ n.ps,cP p=true)(h2:∀ p ∈ n.lk,cW p.1):cW k:=by
 rcases h with ⟨_,i,v,_,h3,_⟩ | ⟨_,i,_,x,_,h3,_⟩
 ·have:=eM (h1 _ (cu h3));exact ⟨this.1,this.2.1⟩
 ·exact h2 _ (cu h3)
theorem s8(A:Nat→Addr)(b bb:Nat)(n nb:SN)(pv lv cv pb lb cb:Value)(i:Nat)(w:World)(h:dG w b n pv lv cv)(hb:dG w bb nb pb lb cb)(hi:i<n.us.length)(hlen:n.us.length=n.lk.length+1)(dZ:n.lk.length≤3999)(gT:nb.zn)(hE:j7 A w):Calls prog 124 #[.pointer (some ⟨b,0,none⟩),.int .i64 (i:Int),.pointer (some ⟨bb,0,none⟩)] w fun e w'=>mL w n i bb nb e w':=by
 have Cy:=ab (qv bb nb pb lb cb w hb);have HH:=ab h;have WW:=ab hb;have HE:=ab hE;have T7:Hid (i<n.us.length∧n.us.length=n.lk.length+1∧n.lk.length≤3999):=⟨hi,hlen,dZ⟩;clear h hb hE hi hlen dZ;by_cases fW:4072<nb.sz
 ·rw [show decide (4072<nb.sz)=true by simp [fW]] at Cy
  have ri:=ab fW;have Ci:=ab gT;clear fW gT;go_enter func124,ntmps124;go_wp2_with fail;refine Cy.out.mono ?_
  rintro e w1 ⟨rfl,aP⟩;have bQ:=ab aP;have yO:=ab (DI A bb nb pb lb cb w1 (WW.out.below aP) Ci.out ri.out (HE.out.below aP));clear aP Cy;go_wp2_with fail;refine yO.out.mono ?_
  rintro e w2 ⟨a,k,c,tN,ba,bc,pa,la,ca,pc,lc,cc,rfl,ha,hc,aO⟩;have bJ:=ab (Below.next bQ.out aO);have HA:=ab ha;have HC:=ab hc;have FR:=ab tN;have TY:=ab (ng b n pv lv cv i (.nd ba) w2 (HH.out.below bJ.out) T7.out.1);clear ha hc tN aO yO bQ;go_wp2_with fail;refine TY.out.mono ?_
  rintro e w3 ⟨b3,p3,l3,c3,rfl,h3,bF⟩;have dD:=ab (Below.next bJ.out bF);have HWL:=ab (JS A b3 _ p3 l3 c3 i k (.nd bc) w3 h3 (by have:=T7.out;show i≤n.lk.length;omega) (by have:=T7.out;show (n.us.set i _).length=n.lk.length+1;rw [cB];omega) T7.out.2.2 (FR.out.key WW.out.fine.1 WW.out.fine.2.2.1) (HE.out.below dD.out))
  have HA3:=ab (HA.out.below bF);have HC3:=ab (HC.out.below bF);clear h3 bF TY HA HC bJ;go_wp2_with fail;refine HWL.out.mono ?_
  rintro e w4 ⟨b4,p4,l4,c4,rfl,h4,eO⟩;have bM:Hid (mL w n i bb nb (.returned (.pointer (some ⟨b4,0,none⟩))) w4):=.inr ⟨ri.out,a,k,c,ba,bc,pa,la,ca,pc,lc,cc,FR.out,HA3.out.below eO,HC3.out.below eO,b4,p4,l4,c4,rfl,h4,Below.next dD.out eO⟩;clear h4 eO HWL HA3 HC3;go_wp2;go_ret;exact bM.out
 ·rw [show decide (4072<nb.sz)=false by simp [fW]] at Cy
  have ri:=ab fW;clear fW gT;go_enter func124,ntmps124;go_wp2_with fail;refine Cy.out.mono ?_
  rintro e w1 ⟨rfl,aP⟩;have bQ:=ab aP;have TY:=ab (ng b n pv lv cv i (.nd bb) w1 (HH.out.below aP) T7.out.1);clear aP Cy;go_wp2_with fail;refine TY.out.mono ?_
  rintro e w3 ⟨b3,p3,l3,c3,rfl,h3,bF⟩;have bM:Hid (mL w n i bb nb (.returned (.pointer (some ⟨b3,0,none⟩))) w3):=.inl ⟨ri.out,b3,p3,l3,c3,rfl,h3,Below.next bQ.out bF⟩;clear h3 bF TY;go_wp2;go_ret;exact bM.out
end T
end Go.Proofs.YtihmgigfkmofnaaGreatDoor
