import Derived.Test.YtihmgigfkmofnaaGreatDoorG07
import Derived.Deep.DeepCutAuto
set_option maxHeartbeats 16000000
set_option maxRecDepth 20000
open Go.Proofs.Tryz
namespace Go.Proofs.YtihmgigfkmofnaaGreatDoor
namespace B
open Go.RowKit
theorem _root_.Go.Proofs.YtihmgigfkmofnaaGreatDoor.I7.Ye{l:List Int}{i:Nat}(h:I7 3 (jt l) l i 0):1≤i∧i+2≤l.length:=by
 rcases h with ⟨_,_,h⟩ | ⟨_,_,_,h⟩ | ⟨h1,_,h2,_⟩
 ·omega
 ·omega
 ·have:=h2.1;omega
theorem mr{A:Nat→Addr}{ev:Value}(h:zd A ev 0):ev = .nilIface:=by
 rcases h with ⟨h,_⟩ | ⟨_,h⟩ | ⟨_,h⟩ | ⟨_,h⟩ | ⟨_,h⟩
 ·exact h
 all_goals omega
theorem tM{A:Nat→Addr}{ev:Value}{c:Nat}(h:zd A ev c)(hc:c≠0):∃ k,ev = .iface 360 (.pointer (some (A k))):=by
 rcases h with ⟨_,h⟩ | ⟨h,_⟩ | ⟨h,_⟩ | ⟨h,_⟩ | ⟨h,_⟩
 ·omega
 all_goals exact ⟨_,h⟩
def adj(A:Nat→Addr)(base:Nat)(f:Int)(l:List Lk)(e:Ending)(w:World):Prop :=
 ∃ (i c:Nat) (key:ByteArray) (f1 f2:Int) (u1 u2 ev:Value),e = .returned (.tuple #[.agg #[.int .i64 f1,u1],.string key,.agg #[.int .i64 f2,u2],ev])∧I7 3 (jt (mi l)) (mi l) i c∧zd A ev c ∧
  ((c=0∧(∃ h:i<l.length,f1=f∧key=l[i].1∧f2=l[i].2)∧b9 w base u1 (l.take i)∧b9 w base u2 (l.drop (i+1))∧∀ k,u1.ownBlock=some k→u2.ownBlock≠some k)∨(c≠0∧f1=0∧key=⟨#[]⟩∧f2=0∧u1 = .slice none 0 0∧u2 = .slice none 0 0))
theorem RP(A:Nat→Addr)(f:Int)(v:Value)(l:List Lk)(w:World)(cM:Wj l)(hm:l.length≤5864062014805)(hr:dm w v l)(hE:jC A w):Calls prog 170 #[.agg #[.int .i64 f,v]] w fun e w'=>adj A w.heap.size f l e w'∧Below w.heap.size w w':=by
 obtain ⟨a1,c1,hv⟩:=hr.form;subst hv;have dj:=hr.cap;obtain ⟨n,hn⟩ : ∃ n,n=l.length:=⟨_,rfl⟩;rw [← hn] at hr hm dj ⊢;have q1:=ai w (.cells #[.int .i64 f,.slice a1 n c1] 150);have x1:=au.new w #[.int .i64 f,.slice a1 n c1] 150;have s1:(w.alloc (.cells #[.int .i64 f,.slice a1 n c1] 150)).heap.size=w.heap.size+1:=by simp
 generalize ig:w.alloc (.cells #[.int .i64 f,.slice a1 n c1] 150)=W1 at *;have q2:=ai W1 (.cells #[.int .i64 0,.slice none 0 0] 150);have x2:=au.new W1 #[.int .i64 0,.slice none 0 0] 150;have s2:(W1.alloc (.cells #[.int .i64 0,.slice none 0 0] 150)).heap.size=W1.heap.size+1:=by simp
 generalize Ip:W1.alloc (.cells #[.int .i64 0,.slice none 0 0] 150)=W2 at *;have q3:=ai W2 (.cells #[.int .i64 0,.slice none 0 0] 150);have x3:=au.new W2 #[.int .i64 0,.slice none 0 0] 150;have s3:(W2.alloc (.cells #[.int .i64 0,.slice none 0 0] 150)).heap.size=W2.heap.size+1:=by simp
 generalize NZ:W2.alloc (.cells #[.int .i64 0,.slice none 0 0] 150)=W3 at *;have hq:=Below.next q1 (Below.next q2 q3);have Ad:=ab ((x1.below q2).below q3);have nL:=ab (x2.below q3);have zu:=ab x3;have HQ:=ab hq;have HR:=ab (hr.below hq);have HE:=ab (hE.below hq);have HN:=ab hn;have HS:=ab (IG _ l W3 cM (by omega) (hr.below hq))
 have jc:Hid (W3.heap.size=w.heap.size+3∧W2.heap.size=w.heap.size+2∧W1.heap.size=w.heap.size+1):=by show _∧_∧_;omega
 have p1:=Ad.out.c1;have Ae:Hid ((mi l).length≤17592186044416):=by show _≤_;rw [rE];omega
 clear q1 q2 q3 x1 x2 x3 s1 s2 s3 hr hE cM hn hq;go_enter func170,ntmps170;go_wp2_with fail;refine HS.out.mono ?_
 rintro e w1 ⟨u,rfl,hint,aO⟩;have HC:=ab (Lo A u (mi l) w1 Ae.out hint (HE.out.below aO).1);have bT:=ab aO;clear hint aO HS p1;go_wp2_with fail;refine HC.out.mono ?_
 rintro e w2 ⟨hv,aV⟩;obtain ⟨i,c,ev,rfl,ue,fl⟩:=hv.num;have bL:=ab (Below.next bT.out aV);have HCN:=ab ue;have kK:=ab fl;clear hv aV HC bT;have wF:=nL.out.below bL.out;have vP:=zu.out.below bL.out;have sR:=Ad.out.below bL.out;by_cases hc:c=0
 ·subst hc;have Cm:=mr fl;subst Cm;obtain ⟨CT,vU⟩:=ue.Ye;rw [rE,← HN.out] at vU;have Bb:i<l.length:=by have:=HN.out;omega
  have iM:=HR.out.below bL.out;obtain ⟨g,o,rfl,d1,d2⟩:=iM.spot i Bb;have j0:(0:Int)≤(i:Int):=by omega
  have j1:(i:Int)<(n:Int):=by omega
  obtain ⟨p,hp⟩ : ∃ p,p=l[i]:=⟨_,rfl⟩;rw [← hp] at d1 d2;have p1:=sR.c1;have HI:Hid (∃ h:i<l.length,p=l[i]):=⟨Bb,hp⟩;have hi3:i≤n:=by omega
  have vQ:=fun W=>ZV W (some ⟨g,o,none⟩) n c1 i (by omega)
  obtain ⟨q,hq⟩ : ∃ q,q=i+1:=⟨_,rfl⟩;obtain ⟨a2,Ug,qO⟩:=iM.drop (m:=q) (by omega)
  have HQI:=ab hq;have sS:IntKind.i64.wrap ((i:Int)+1)=(q:Int):=by rw [IntKind.wrap_i64];omega
  have hqn:(q:Int)≤(n:Int):=by omega
  have Sy:(0:Int)≤(q:Int):=by omega
  have NN:=iM.take (m:=i) (by omega)
  have Nx:=ab Ug;have N6:=ab NN;have Wy:=ab sR;have HH2:=ab wF;have HH3:=ab vP;clear hp hq iM Ug NN ue fl sR wF vP Bb CT vU;go_wp2_with fail;have q4:=ai w2 (.cells #[.string p.1,.int .i64 p.2] 179);have x4:=au.new w2 #[.string p.1,.int .i64 p.2] 179;have s4:(w2.alloc (.cells #[.string p.1,.int .i64 p.2] 179)).heap.size=w2.heap.size+1:=by simp
  generalize w2.alloc (.cells #[.string p.1,.int .i64 p.2] 179)=W4 at *;have wO:=ab x4;have Ny:=ab q4;have y1:=Wy.out.below q4;have k0:=y1.c0;have k1:=y1.c1;have q5:=ai W4 (.cells #[.int .i64 0,.slice none 0 0] 150);have x5:=au.new W4 #[.int .i64 0,.slice none 0 0] 150;have s5:(W4.alloc (.cells #[.int .i64 0,.slice none 0 0] 150)).heap.size=W4.heap.size+1:=by simp
  generalize V6:W4.alloc (.cells #[.int .i64 0,.slice none 0 0] 150)=W5 at *;have zf:=ab x5;have BE:=ab q5;have z0:=(y1.below q5).c0;have z1:=(y1.below q5).c1;have te:Hid (W4.heap.size=w2.heap.size+1∧W5.heap.size=W4.heap.size+1∧w.heap.size+3≤w2.heap.size):=by show _∧_∧_;have:=jc.out;have:=bL.out.size;omega
  have b1:¬ w.heap.size=W4.heap.size:=by have:=te.out;omega
  have b2:¬ W4.heap.size=w.heap.size:=by have:=te.out;omega
  have S0:Hid (∀ W,Below W4.heap.size W4 W→Calls prog 209 #[.slice (some ⟨g,o,none⟩) i c1] W fun e w'=>∃ ua uc,e = .returned (.slice ua i uc)∧b9 w' W.heap.size (.slice ua i uc) (l.take i)∧Below W.heap.size W w'):=fun W h=>by
   have bO:(l.take i).length=i:=by rw [ag];have:=HN.out;omega
   refine (eN _ (l.take i) W (by rw [bO];omega) ((N6.out.below q4).below h)).mono ?_
   rintro e w' ⟨u,rfl,ho,hb⟩;obtain ⟨ua,uc,hu⟩:=ho.form;rw [bO] at hu;subst hu;exact ⟨ua,uc,rfl,ho,hb⟩
  clear d1 d2 p1 q4 x4 y1 q5 x5 s4 s5;go_region_held3 (fun w'=>w'.cell? ⟨w.heap.size,0,none⟩=some (.int .i64 f)∧w'.cell? ⟨w.heap.size,1,none⟩=some (.slice (some ⟨g,o,none⟩) n c1)) (go_keep)
   (first
    | (go_at_call 209;refine (S0.out _ ?_).mono ?_;(first | exact (Below.refl _ _).drew | exact BE.out.drew);rintro e w5 ⟨ua,uc,rfl,ho,hb⟩;have Yt:=ab ho;have jd:=ab hb;have m0:w5.cell? ⟨w.heap.size,0,none⟩=some (.int .i64 f):=(by first | exact (((Wy.out.below Ny.out).below BE.out).drew.below hb).c0 | exact ((Wy.out.below Ny.out).drew.below hb).c0);have m1:w5.cell? ⟨w.heap.size,1,none⟩=some (.slice (some ⟨g,o,none⟩) n c1):=(by first | exact (((Wy.out.below Ny.out).below BE.out).drew.below hb).c1 | exact ((Wy.out.below Ny.out).drew.below hb).c1);try (have m2:=(zf.out.drew.below hb).c0;have m3:=(zf.out.drew.below hb).c1;have m4:=(zf.out.drew.below hb).free 0;have m5:=(zf.out.drew.below hb).free 1);have m6:=World.new_ne w5 _ m0;clear ho hb))
  all_goals first
   | (have hx:=au.new w5 #[.int .i64 f,.slice ua i uc] 150
      have hq:=ai w5 (.cells #[.int .i64 f,.slice ua i uc] 150);have SJ:Below W4.heap.size W4 (w5.alloc (.cells #[.int .i64 f,.slice ua i uc] 150)):=Below.next (dy jd.out) hq;have NR:b9 (w5.alloc (.cells #[.int .i64 f,.slice ua i uc] 150)) W4.heap.size (.slice ua i uc) (l.take i):=Yt.out.below hq;have Hz:W4.heap.size≤w5.heap.size:=jd.out.size;generalize w5.alloc (.cells #[.int .i64 f,.slice ua i uc] 150)=W7 at *;obtain ⟨B9,QZ⟩ : ∃ B,B=w5.heap.size:=⟨_,rfl⟩;rw [← QZ] at hx Hz ⊢;have ac7:=ab Hz;clear hq)
   | (have hx:=((zf.out.drew.below jd.out).two (.int .i64 f) (.slice ua i uc))
      have SJ:Below W4.heap.size W4 ((w5.setCell ⟨W4.heap.size,0,none⟩ (.int .i64 f)).setCell ⟨W4.heap.size,1,none⟩ (.slice ua i uc)):=cx (Below.next BE.out (dy jd.out)) (aj _);have NR:b9 ((w5.setCell ⟨W4.heap.size,0,none⟩ (.int .i64 f)).setCell ⟨W4.heap.size,1,none⟩ (.slice ua i uc)) W4.heap.size (.slice ua i uc) (l.take i):=(Yt.out.xI (g:=W4.heap.size) (by have:=te.out;show W4.heap.size<W5.heap.size;omega) (.int .i64 f) (.slice ua i uc)).mono (by have:=te.out;show W4.heap.size≤W5.heap.size;omega)
      generalize (w5.setCell ⟨W4.heap.size,0,none⟩ (.int .i64 f)).setCell ⟨W4.heap.size,1,none⟩ (.slice ua i uc)=W7 at *;obtain ⟨B9,QZ⟩ : ∃ B,B=W4.heap.size:=⟨_,rfl⟩;rw [← QZ] at hx ⊢;have ac7:Hid (W4.heap.size≤B9):=(by rw [QZ];exact aj _))
  all_goals
   have HX7:=ab hx;have I0:=ab SJ;have HO7:=ab NR;clear hx SJ NR QZ
  all_goals
   try clear Hz
   try clear m2 m3 m4 m5
   try clear m6
   clear m0 m1 S0 b1 b2 z0 z1 k0 k1 vQ Yt jd zf BE V6 te;have d1:=((wO.out).below I0.out).c0;have d2:=((wO.out).below I0.out).c1;have y1:=((Wy.out.below Ny.out).below I0.out);have k1:=y1.c1;have q5:=ai W7 (.cells #[.int .i64 0,.slice none 0 0] 150);have x5:=au.new W7 #[.int .i64 0,.slice none 0 0] 150;have s5:(W7.alloc (.cells #[.int .i64 0,.slice none 0 0] 150)).heap.size=W7.heap.size+1:=by simp
   generalize hW8:W7.alloc (.cells #[.int .i64 0,.slice none 0 0] 150)=W8 at *;have Zq:=ab x5;have HQ8:=ab q5;have z0:=(((wO.out).below I0.out).below q5).c1;have z1:=(y1.below q5).c1;have Yl:Hid (W8.heap.size=W7.heap.size+1∧w.heap.size+3≤w2.heap.size∧w2.heap.size<W7.heap.size):=by show _∧_∧_;have:=jc.out;have:=bL.out.size;have:=(wO.out.below I0.out).lt;omega
   have b1:¬ w.heap.size=W7.heap.size:=by have:=Yl.out;omega
   have b2:¬ W7.heap.size=w.heap.size:=by have:=Yl.out;omega
   have b3:¬ w2.heap.size=W7.heap.size:=by have:=Yl.out;omega
   have b4:¬ W7.heap.size=w2.heap.size:=by have:=Yl.out;omega
   have Oe:Hid (∀ W,Below W7.heap.size W7 W→Calls prog 209 #[.slice a2 (n - q) (c1 - q)] W fun e w'=>∃ va vc,e = .returned (.slice va (n - q) vc)∧b9 w' W.heap.size (.slice va (n - q) vc) (l.drop q)∧Below W.heap.size W w'):=fun W h=>by
    have bO:(l.drop q).length=n - q:=by rw [al];have:=HN.out;have:=HQI.out;omega
    refine (eN _ (l.drop q) W (by rw [bO];omega) (((Nx.out.below Ny.out).below I0.out).below h)).mono ?_
    rintro e w' ⟨u,rfl,ho,hb⟩;obtain ⟨ua,uc,hu⟩:=ho.form;rw [bO] at hu;subst hu;exact ⟨ua,uc,rfl,ho,hb⟩
   generalize n - q=nr at *;generalize c1 - q=cr at *;clear q5 x5 y1 s5;go_wp2_with fail;go_region_held3 (fun w'=>w'.cell? ⟨w2.heap.size,1,none⟩=some (.int .i64 p.2)∧w'.cell? ⟨w.heap.size,1,none⟩=some (.slice (some ⟨g,o,none⟩) n c1)) (go_keep)
    (first
     | (go_at_call 209;refine (Oe.out _ ?_).mono ?_;(first | exact (Below.refl _ _).drew | exact HQ8.out.drew);rintro e w8 ⟨va,vc,rfl,ho,hb⟩;have HO8:=ab ho;have HB8:=ab hb;have m0:w8.cell? ⟨w2.heap.size,1,none⟩=some (.int .i64 p.2):=(by first | exact (((wO.out.below I0.out).below HQ8.out).drew.below hb).c1 | exact ((wO.out.below I0.out).drew.below hb).c1);have m1:w8.cell? ⟨w.heap.size,1,none⟩=some (.slice (some ⟨g,o,none⟩) n c1):=(by first | exact ((((Wy.out.below Ny.out).below I0.out).below HQ8.out).drew.below hb).c1 | exact (((Wy.out.below Ny.out).below I0.out).drew.below hb).c1);try (have m2:=(Zq.out.drew.below hb).c0;have m3:=(Zq.out.drew.below hb).c1;have m4:=(Zq.out.drew.below hb).free 0;have m5:=(Zq.out.drew.below hb).free 1);have m6:=World.new_ne w8 _ m0;have m7:=World.new_ne w8 _ m1;clear ho hb))
  all_goals first
   | (have hx:=au.new w8 #[.int .i64 p.2,.slice va nr vc] 150
      have hq:=ai w8 (.cells #[.int .i64 p.2,.slice va nr vc] 150);have SJ:Below W7.heap.size W7 (w8.alloc (.cells #[.int .i64 p.2,.slice va nr vc] 150)):=Below.next (dy HB8.out) hq;have NR:b9 (w8.alloc (.cells #[.int .i64 p.2,.slice va nr vc] 150)) W7.heap.size (.slice va nr vc) (l.drop q):=HO8.out.below hq;have Hz:W7.heap.size≤w8.heap.size:=HB8.out.size;generalize w8.alloc (.cells #[.int .i64 p.2,.slice va nr vc] 150)=W9 at *;obtain ⟨Vt,QZ⟩ : ∃ B,B=w8.heap.size:=⟨_,rfl⟩;rw [← QZ] at hx Hz ⊢;have ac6:=ab Hz;clear hq)
   | (have hx:=((Zq.out.drew.below HB8.out).two (.int .i64 p.2) (.slice va nr vc))
      have SJ:Below W7.heap.size W7 ((w8.setCell ⟨W7.heap.size,0,none⟩ (.int .i64 p.2)).setCell ⟨W7.heap.size,1,none⟩ (.slice va nr vc)):=cx (Below.next HQ8.out (dy HB8.out)) (aj _);have NR:b9 ((w8.setCell ⟨W7.heap.size,0,none⟩ (.int .i64 p.2)).setCell ⟨W7.heap.size,1,none⟩ (.slice va nr vc)) W7.heap.size (.slice va nr vc) (l.drop q):=(HO8.out.xI (g:=W7.heap.size) (by have:=Yl.out;show W7.heap.size<W8.heap.size;omega) (.int .i64 p.2) (.slice va nr vc)).mono (by have:=Yl.out;show W7.heap.size≤W8.heap.size;omega)
      generalize (w8.setCell ⟨W7.heap.size,0,none⟩ (.int .i64 p.2)).setCell ⟨W7.heap.size,1,none⟩ (.slice va nr vc)=W9 at *;obtain ⟨Vt,QZ⟩ : ∃ B,B=W7.heap.size:=⟨_,rfl⟩;rw [← QZ] at hx ⊢;have ac6:Hid (W7.heap.size≤Vt):=(by rw [QZ];exact aj _))
  all_goals
   have HX9:=ab hx;have WG:=ab SJ;have HO9:=ab NR;clear hx SJ NR QZ
  all_goals
   try clear Hz
   try clear m2 m3 m4 m5
   try clear m6 m7
   clear m0 m1 Oe b1 b2 b3 b4 z0 z1 k1 d1 d2 qO HO8 HB8 Zq HQ8 hW8;have y9:=HX7.out.below WG.out;have y8:=(wO.out.below I0.out).below WG.out;have y1:=(((HH2.out.below Ny.out).below I0.out).below WG.out);have y2:=(((HH3.out.below Ny.out).below I0.out).below WG.out);have e1:=y9.c0;have e2:=y9.c1;have e3:=y8.c0;have e4:=HX9.out.c0;have e5:=HX9.out.c1;have e6:=y1.c0;have e7:=y1.c1;have e8:=y2.c0;have e9:=y2.c1;have f1:=y1.free 0;have f2:=y1.free 1;have f3:=y2.free 0;have f4:=y2.free 1;have mT:Hid (W1.heap.size=w.heap.size+1∧W2.heap.size=w.heap.size+2∧w.heap.size+3≤w2.heap.size∧w.heap.size+3≤B9∧w.heap.size+3≤Vt∧w.heap.size+3≤W4.heap.size∧w.heap.size+3≤W7.heap.size):=by
    have h1:=jc.out;have h2:=ac7.out;have h3:=ac6.out;have h4:=Ny.out.size;have h5:=I0.out.size;have h6:=Yl.out;exact ⟨h1.2.2,h1.2.1,h6.2.1,by omega,by omega,by omega,by omega⟩
   have g1:¬ B9=W1.heap.size:=by have:=mT.out;omega
   have g2:¬ W1.heap.size=B9:=by have:=mT.out;omega
   have g3:¬ B9=W2.heap.size:=by have:=mT.out;omega
   have g4:¬ W2.heap.size=B9:=by have:=mT.out;omega
   have g5:¬ Vt=W1.heap.size:=by have:=mT.out;omega
   have g6:¬ W1.heap.size=Vt:=by have:=mT.out;omega
   have g7:¬ Vt=W2.heap.size:=by have:=mT.out;omega
   have g8:¬ W2.heap.size=Vt:=by have:=mT.out;omega
   have g9:¬ w2.heap.size=W1.heap.size:=by have:=mT.out;omega
   have g10:¬ W1.heap.size=w2.heap.size:=by have:=mT.out;omega
   have g11:¬ w2.heap.size=W2.heap.size:=by have:=mT.out;omega
   have g12:¬ W2.heap.size=w2.heap.size:=by have:=mT.out;omega
   have g13:¬ W1.heap.size=W2.heap.size:=by have:=mT.out;omega
   have g14:¬ W2.heap.size=W1.heap.size:=by have:=mT.out;omega
   have HY1:=ab y1;have HY2:=ab y2;clear y9 y8 y1 y2;go_wp2_with fail;go_region_held3 (fun w'=>w'.cell? ⟨B9,0,none⟩=some (.int .i64 f)∧w'.cell? ⟨B9,1,none⟩=some (.slice ua i uc)∧w'.cell? ⟨w2.heap.size,0,none⟩=some (.string p.1)∧w'.cell? ⟨Vt,0,none⟩=some (.int .i64 p.2)∧w'.cell? ⟨Vt,1,none⟩=some (.slice va nr vc)) (go_keep) (fail)
  all_goals
   have r2:au (((((W9.setCell ⟨W1.heap.size,0,none⟩ (.int .i64 f)).setCell ⟨W1.heap.size,1,none⟩ (.slice ua i uc)).setCell ⟨W2.heap.size,0,none⟩ (.int .i64 p.2)).setCell ⟨W2.heap.size,1,none⟩ (.slice va nr vc))) W1.heap.size #[.int .i64 f,.slice ua i uc] 150:=((HY1.out.two _ _).other g13 _).other g13 _;have r3:au (((((W9.setCell ⟨W1.heap.size,0,none⟩ (.int .i64 f)).setCell ⟨W1.heap.size,1,none⟩ (.slice ua i uc)).setCell ⟨W2.heap.size,0,none⟩ (.int .i64 p.2)).setCell ⟨W2.heap.size,1,none⟩ (.slice va nr vc))) W2.heap.size #[.int .i64 p.2,.slice va nr vc] 150:=((HY2.out.other g14 _).other g14 _).two _ _;clear e1 e2 e3 e4 e5 e6 e7 e8 e9 f1 f2 f3 f4;go_wp2_with fail;have o1:=((HO7.out.below WG.out).xI (g:=W1.heap.size) (by have:=mT.out;omega) (.int .i64 f) (.slice ua i uc)).xI (g:=W2.heap.size) (by have:=mT.out;omega) (.int .i64 p.2) (.slice va nr vc)
   have o2:=(HO9.out.xI (g:=W1.heap.size) (by have:=mT.out;omega) (.int .i64 f) (.slice ua i uc)).xI (g:=W2.heap.size) (by have:=mT.out;omega) (.int .i64 p.2) (.slice va nr vc)
   refine bodyPost_ret (qg rfl _ _ W1.heap.size W2.heap.size 150 150 _ _ (0,0) (0,0) _ _ rfl rfl r2.drew r3.drew underlying150 underlying150 rfl rfl (by kernel_rfl) (by kernel_rfl)) rfl ⟨⟨i,0,p.1,f,p.2,.slice ua i uc,.slice va nr vc,_,rfl,HCN.out,kK.out,.inl ⟨rfl,?_,?_,?_,?_⟩⟩,?_⟩
   ·obtain ⟨h,he⟩:=HI.out;exact ⟨h,rfl,by rw [he],by rw [he]⟩
   ·exact (o1.mono (by have:=mT.out;omega)).drew
   ·rw [← HQI.out];exact (o2.mono (by have:=mT.out;omega)).drew
   ·intro k h1 h2;have a1:=HO7.out.dx k h1;have a2:=HO9.out.dx k h2;omega
   ·exact aP (cx (cx (Below.next HQ.out (Below.next bL.out (Below.next Ny.out (Below.next I0.out WG.out)))) (by have:=mT.out;omega)) (by have:=mT.out;omega))
 ·obtain ⟨k,rfl⟩:=tM fl hc;have EV:=fun W=>eY (some (A k)) W
  have HCZ:=ab hc;have r1:=wF.c0;have r2:=wF.c1;have r3:=vP.c0;have r4:=vP.c1;have z1:=wF.free 0;have z2:=wF.free 1;have z3:=vP.free 0;have z4:=vP.free 1;have b1:¬ W1.heap.size=W2.heap.size:=by have:=jc.out;omega
  have b2:¬ W2.heap.size=W1.heap.size:=by have:=jc.out;omega
  have af0:=ab wF;have afZ:=ab vP;clear ue fl hc sR wF vP;go_wp2_with fail;have e2:au (((((w2.setCell ⟨W1.heap.size,0,none⟩ (.int .i64 0)).setCell ⟨W1.heap.size,1,none⟩ (.slice none 0 0)).setCell ⟨W2.heap.size,0,none⟩ (.int .i64 0)).setCell ⟨W2.heap.size,1,none⟩ (.slice none 0 0))) W1.heap.size #[.int .i64 0,.slice none 0 0] 150:=((af0.out.two _ _).other b1 _).other b1 _;have e3:au (((((w2.setCell ⟨W1.heap.size,0,none⟩ (.int .i64 0)).setCell ⟨W1.heap.size,1,none⟩ (.slice none 0 0)).setCell ⟨W2.heap.size,0,none⟩ (.int .i64 0)).setCell ⟨W2.heap.size,1,none⟩ (.slice none 0 0))) W2.heap.size #[.int .i64 0,.slice none 0 0] 150:=((afZ.out.other b2 _).other b2 _).two _ _;refine bodyPost_ret (qg rfl _ _ W1.heap.size W2.heap.size 150 150 _ _ (0,0) (0,0) _ _ rfl rfl e2 e3 underlying150 underlying150 rfl rfl (by kernel_rfl) (by kernel_rfl)) rfl ⟨⟨i,c,_,0,0,_,_,_,rfl,HCN.out,kK.out,.inr ⟨HCZ.out,rfl,rfl,rfl,rfl,rfl⟩⟩,?_⟩
  exact cx (cx (Below.next HQ.out bL.out) (by have:=jc.out;omega)) (by have:=jc.out;omega)
end B
namespace T
open Go.RowKit
theorem OH(l:List B.Lk):iP (l.map (·.1))=B.mi l:=by
 simp [iP,B.mi,B.zn]
theorem TJ(A:Nat→Addr)(b:Nat)(n:SN)(pv lv cv:Value)(w:World)(h:dP w b n pv lv cv)(h0:¬ n.us.length=0)(hlen:n.us.length=n.lk.length+1)(h3:3≤n.lk.length)(hE:jC A w):Calls prog 129 #[.pointer (some ⟨b,0,none⟩)] w fun e w'=>∃ (i:Nat) (k:ByteArray) (f2:Int),dt (jt (iP (n.lk.map (·.1)))) ((iP (n.lk.map (·.1))).length - 2) i∧(∃ x,n.lk[i]?=some (k,x))∧ze w ⟨[],n.f,n.lk.take i,n.us.take (i+1)⟩ k ⟨[],f2,n.lk.drop (i+1),n.us.drop (i+1)⟩ e w':=by
 have HL:=ab (cG b n pv lv cv w h);rw [show decide (n.us.length=0)=false by simp [h0]] at HL
 have zl:Hid (Calls prog 170 #[.agg #[.int .i64 n.f,lv]] w fun e w'=>∃ (i:Nat) (k:ByteArray) (f2:Int) (mP sQ:Option Addr) (mO mh:Nat),e = .returned (.tuple #[.agg #[.int .i64 n.f,.slice mP i mO],.string k,.agg #[.int .i64 f2,.slice sQ (n.lk.length - (i+1)) mh],.nilIface])∧dt (jt (iP (n.lk.map (·.1)))) ((iP (n.lk.map (·.1))).length - 2) i∧(∃ x,n.lk[i]?=some (k,x))∧(1≤i∧i+2≤n.lk.length)∧B.dm w' (.slice mP i mO) (n.lk.take i)∧B.dm w' (.slice sQ (n.lk.length - (i+1)) mh) (n.lk.drop (i+1))∧Below w.heap.size w w'):=by
  refine (B.RP A n.f lv n.lk w h.uW (by have:=h.fine.2.2.2.1;omega) h.bn hE).mono fun e w' hh=>?_
  obtain ⟨⟨i,cc,key,f1,f2,u1,u2,ev,h1,ue,fl,fI⟩,hb⟩:=hh;have Qz:(B.mi n.lk).length=n.lk.length:=by simp [B.mi]
  have QJ:ik (B.mi n.lk):=fun j hj=>by
   have lY:j<n.lk.length:=by rw [← Qz];exact hj
   have:=h.fine.2.2.1 n.lk[j] (aJ lY);unfold cV at this;simp only [B.mi,ch];unfold B.zn;omega
  rcases ue with ⟨g1,_,_⟩ | ⟨_,g1,_⟩ | ⟨_,_,oS,qQ⟩
  ·rw [Qz] at g1;omega
  ·exact absurd QJ g1
  ·subst qQ;rcases fI with ⟨_,⟨hi,rfl,rfl,rfl⟩,o1,o2,_⟩ | ⟨cY,_⟩
   ·have Cm:=mr fl;subst Cm;have Mh:=oS.1;rw [Qz] at Mh;obtain ⟨a1,c1,e1⟩:=o1.form;obtain ⟨a2,c2,e2⟩:=o2.form;subst e1 e2;have l1:(n.lk.take i).length=i:=by rw [ag];omega
    have l2:(n.lk.drop (i+1)).length=n.lk.length - (i+1):=by rw [al]
    have p1:=o1.at;have p2:=o2.at;rw [l1] at h1 p1;rw [l2] at h1 p2;refine ⟨i,_,_,a1,a2,c1,c2,h1,?_,⟨_,af hi⟩,⟨by omega,by omega⟩,p1,p2,hb⟩
    rw [OH];exact oS
   ·exact absurd rfl cY
 have p1:=h.c1;have p2:=h.c2;have HH:=ab h;have iq:=ab hlen;obtain ⟨ca,cc,yA⟩:=h.kids.form;subst yA;have dj:n.us.length≤cc:=by
  obtain ⟨_,_,he,hle,_⟩:=h.kids;simp only [Value.slice.injEq] at he;obtain ⟨-,-,rfl⟩:=he;rw [C.eo] at hle;exact hle
 obtain ⟨m,hm⟩ : ∃ m,m=n.us.length:=⟨_,rfl⟩;have Hm:=ab hm;have agM:=ab dj;clear hm dj;clear h h0 hE h3 hlen;go_enter func129,ntmps129;go_wp2_with fail;refine HL.out.mono ?_
 rintro e w1 ⟨rfl,rfl⟩;clear HL;go_wp2_with fail;refine zl.out.mono ?_
 rintro e w2 ⟨I,k,f2,mP,sQ,mO,mh,rfl,oS,hkx,Mh,fX,iM,aV⟩;obtain ⟨M,hM⟩ : ∃ M,M=n.lk.length - (I+1):=⟨_,rfl⟩;rw [← hM] at iM ⊢;have Gm:=ab hM;clear hM;have qa:=ai w2 (.cells #[.int .i64 n.f,.slice mP I mO] 150);have qb:=ai (w2.alloc (.cells #[.int .i64 n.f,.slice mP I mO] 150)) (.cells #[.int .i64 f2,.slice sQ M mh] 150);have xa:=(B.au.new w2 #[.int .i64 n.f,.slice mP I mO] 150).below qb;have xb:=B.au.new (w2.alloc (.cells #[.int .i64 n.f,.slice mP I mO] 150)) #[.int .i64 f2,.slice sQ M mh] 150;have sb:(w2.alloc (.cells #[.int .i64 n.f,.slice mP I mO] 150)).heap.size=w2.heap.size+1:=by simp
 rw [sb] at xb;have vW:=ab xa;have R6:=ab xb;have iY:=ab (Below.next (Below.next aV qa) qb);have nT:=ab ((fX.below qa).below qb);have pe:=ab ((iM.below qa).below qb);have BI:=ab oS;have HKX:=ab hkx;have Od:=ab Mh;clear zl p1 p2 oS hkx Mh fX iM aV qa qb xa xb sb;obtain ⟨H,hH⟩ : ∃ H,H=I+1:=⟨_,rfl⟩;obtain ⟨K,hK⟩ : ∃ K,K=m - H:=⟨_,rfl⟩;have hwH:IntKind.i64.wrap ((I:Int)+1)=(H:Int):=by have:=Od.out;have:=HH.out.fine.2.2.2.1;rw [IntKind.wrap_i64];omega
 have HHM:Hid (H≤m∧1≤K):=by
  have h1:=Od.out;have h2:=iq.out;have h3:=Hm.out;exact ⟨by omega,by omega⟩
 have ZD:=ab hH;have Oc:=ab hK;clear hH hK;go_upto_region 6 with fail
 have hH:=ZD.out;have hK:=Oc.out;have hM:=Gm.out;have hm:=Hm.out;have hHm:=HHM.out;have dj:=agM.out;generalize (w2.alloc (.cells #[.int .i64 n.f,.slice mP I mO] 150)).alloc (.cells #[.int .i64 f2,.slice sQ M mh] 150)=W4 at *;obtain ⟨kb,XL⟩ : ∃ x,x=w2.heap.size+1:=⟨_,rfl⟩;obtain ⟨ka,Za⟩ : ∃ x,x=w2.heap.size:=⟨_,rfl⟩;rw [← XL] at R6 ⊢;rw [← Za] at vW ⊢;clear XL Za;have oQ:C.dm W4 (.slice ca n.us.length cc) n.us:=(HH.out.below iY.out).kids;obtain ⟨da,QK,qO⟩:=oQ.drop (m:=H) (by omega)
 have lE:=oQ.take (m:=H) (by omega)
 have vQ:=fun W=>C.ZW W ca n.us.length cc H (by omega)
 have ltk:(n.us.take H).length=H:=by rw [ag];omega
 have ldr:(n.us.drop H).length=K:=by rw [al];omega
 have hmK:n.us.length - H=K:=by omega
 rw [hmK] at QK qO;have S0:Hid (∀ W,Below W4.heap.size W4 W→Calls prog 164 #[.slice ca H cc] W fun e w'=>∃ (g c:Nat),e = .returned (.slice (some ⟨g,0,none⟩) H c)∧C.dm w' (.slice (some ⟨g,0,none⟩) H c) (n.us.take H)∧Below W.heap.size W w'):=fun W hW=>by
  refine (C.eN _ (n.us.take H) W (by rw [ltk];have:=HH.out.fine.2.2.2.2;omega) (lE.below hW)).mono fun e w' ⟨u,h1,h2,h3⟩=>?_
  obtain ⟨g,c,hu,_,_⟩:=sC h2 (by rw [ltk];omega)
  subst hu;rw [ltk] at h1 h2;exact ⟨g,c,h1,h2.at,h3⟩
 have Oe:Hid (∀ W,Below W4.heap.size W4 W→Calls prog 164 #[.slice da K (cc - H)] W fun e w'=>∃ (g c:Nat),e = .returned (.slice (some ⟨g,0,none⟩) K c)∧C.dm w' (.slice (some ⟨g,0,none⟩) K c) (n.us.drop H)∧Below W.heap.size W w'):=fun W hW=>by
  refine (C.eN _ (n.us.drop H) W (by rw [ldr];have:=HH.out.fine.2.2.2.2;omega) (QK.below hW)).mono fun e w' ⟨u,h1,h2,h3⟩=>?_
  obtain ⟨g,c,hu,_,_⟩:=sC h2 (by rw [ldr];omega)
  subst hu;rw [ldr] at h1 h2;exact ⟨g,c,h1,h2.at,h3⟩
 have sO:Hid ((∀ p ∈ n.lk.take I,cV p.1)∧(n.lk.take I).length≤4000∧(n.us.take H).length≤4001∧(∀ p ∈ n.lk.drop H,cV p.1)∧(n.lk.drop H).length≤4000∧(n.us.drop H).length≤4001):=by
  have hf:=HH.out.fine;exact ⟨fun p hp=>hf.2.2.1 p (bJ hp),by rw [ag];omega,by rw [ltk];omega,fun p hp=>hf.2.2.1 p (bK hp),by rw [al];omega,by rw [ldr];omega⟩
 rw [← hH] at pe;have k3:=(HH.out.below iY.out).c3;have kA0:=vW.out.c0;have kA1:=vW.out.c1;have kB0:=R6.out.c0;have kB1:=R6.out.c1;have Se:Hid (∀ W,Below W4.heap.size W4 W→(W.cell? ⟨b,3,none⟩=some (.slice ca n.us.length cc)∧W.cell? ⟨ka,0,none⟩=some (.int .i64 n.f)∧W.cell? ⟨ka,1,none⟩=some (.slice mP I mO)∧W.cell? ⟨kb,0,none⟩=some (.int .i64 f2)∧W.cell? ⟨kb,1,none⟩=some (.slice sQ M mh))∧¬ b=W.heap.size∧¬ ka=W.heap.size∧¬ kb=W.heap.size):=fun W hW=>⟨⟨(HH.out.below (Below.next iY.out hW)).c3,(vW.out.below hW).c0,(vW.out.below hW).c1,(R6.out.below hW).c0,(R6.out.below hW).c1⟩,by have:=(HH.out.below iY.out).row.lt;have:=hW.size;omega,by have:=vW.out.lt;have:=hW.size;omega,by have:=R6.out.lt;have:=hW.size;omega⟩
 have hHI:(H:Int)≤(cc:Int):=by omega
 have hH0:(0:Int)≤(H:Int):=by omega
 clear hH hK hM hHm dj QK lE ltk ldr oQ hmK hm;go_region_held3 (fun w'=>w'.cell? ⟨b,3,none⟩=some (.slice ca n.us.length cc)∧w'.cell? ⟨ka,0,none⟩=some (.int .i64 n.f)∧w'.cell? ⟨ka,1,none⟩=some (.slice mP I mO)∧w'.cell? ⟨kb,0,none⟩=some (.int .i64 f2)∧w'.cell? ⟨kb,1,none⟩=some (.slice sQ M mh)) (go_keep)
  (first
   | (go_at_call_of 164 (Value.slice ca H cc);refine (S0.out _ ?_).mono ?_;(first | exact BF.out | exact Below.next BF.out (ai w6 (.cells #[.slice none 0 0,.int .i64 f2,.slice sQ M mh,.slice (some ⟨g6,0,none⟩) K c6] 155)) | exact (Below.refl _ _).drew);rintro e w5 ⟨g5,c5,rfl,ho,hb⟩;have zg:Hid (Below W4.heap.size W4 w5):=(by first | exact Below.next BF.out hb | exact Below.next (Below.next BF.out (ai w6 (.cells #[.slice none 0 0,.int .i64 f2,.slice sQ M mh,.slice (some ⟨g6,0,none⟩) K c6] 155))) hb | exact B.dy hb);have YF:=ab ho;(try (have Gn:=ab (Gn.out.below hb)));(try (have Gn:=ab ((Gn.out.below (ai w6 (.cells #[.slice none 0 0,.int .i64 f2,.slice sQ M mh,.slice (some ⟨g6,0,none⟩) K c6] 155))).below hb)));(try (have HXO:=ab ((B.au.new w6 #[.slice none 0 0,.int .i64 f2,.slice sQ M mh,.slice (some ⟨g6,0,none⟩) K c6] 155).below hb)));obtain ⟨⟨m1,m2,m3,m4,m5⟩,m6,m7,m8⟩:=Se.out _ zg.out;clear ho hb)
   | (go_at_call_of 164 (Value.slice da K (cc - H));refine (Oe.out _ ?_).mono ?_;(first | exact zg.out | exact Below.next zg.out (ai w5 (.cells #[.slice none 0 0,.int .i64 n.f,.slice mP I mO,.slice (some ⟨g5,0,none⟩) H c5] 155)) | exact (Below.refl _ _).drew);rintro e w6 ⟨g6,c6,rfl,ho,hb⟩;have BF:Hid (Below W4.heap.size W4 w6):=(by first | exact Below.next zg.out hb | exact Below.next (Below.next zg.out (ai w5 (.cells #[.slice none 0 0,.int .i64 n.f,.slice mP I mO,.slice (some ⟨g5,0,none⟩) H c5] 155))) hb | exact B.dy hb);have Gn:=ab ho;(try (have YF:=ab (YF.out.below hb)));(try (have YF:=ab ((YF.out.below (ai w5 (.cells #[.slice none 0 0,.int .i64 n.f,.slice mP I mO,.slice (some ⟨g5,0,none⟩) H c5] 155))).below hb)));(try (have HXO:=ab ((B.au.new w5 #[.slice none 0 0,.int .i64 n.f,.slice mP I mO,.slice (some ⟨g5,0,none⟩) H c5] 155).below hb)));obtain ⟨⟨m1,m2,m3,m4,m5⟩,m6,m7,m8⟩:=Se.out _ BF.out;clear ho hb))
 all_goals first
  | (have qb:=ai w6 (.cells #[.slice none 0 0,.int .i64 f2,.slice sQ M mh,.slice (some ⟨g6,0,none⟩) K c6] 155)
     have FZ:Hid (ze w ⟨[],n.f,n.lk.take I,n.us.take H⟩ k ⟨[],f2,n.lk.drop H,n.us.drop H⟩ (.returned (.tuple #[.pointer (some ⟨w5.heap.size,0,none⟩),.string k,.pointer (some ⟨w6.heap.size,0,none⟩)])) (w6.alloc (.cells #[.slice none 0 0,.int .i64 f2,.slice sQ M mh,.slice (some ⟨g6,0,none⟩) K c6] 155))):=⟨_,_,_,_,_,_,_,_,rfl,⟨HXO.out.below qb,gM.nil _,(nT.out.below BF.out).below qb,YF.out.below qb,(fun p hp=>by simp at hp),by simp,sO.out.1,sO.out.2.1,sO.out.2.2.1⟩,⟨B.au.new w6 #[.slice none 0 0,.int .i64 f2,.slice sQ M mh,.slice (some ⟨g6,0,none⟩) K c6] 155,gM.nil _,(pe.out.below BF.out).below qb,Gn.out.below qb,(fun p hp=>by simp at hp),by simp,sO.out.2.2.2.1,sO.out.2.2.2.2.1,sO.out.2.2.2.2.2⟩,Below.next (Below.next iY.out BF.out) qb⟩
     clear qb HXO;go_wp2;go_ret3;exact ⟨I,k,f2,BI.out,HKX.out,by rw [← ZD.out];first | exact FZ.out | exact FZ.out.drew⟩)
  | (have qa:=ai w6 (.cells #[.slice none 0 0,.int .i64 n.f,.slice mP I mO,.slice (some ⟨g5,0,none⟩) H c5] 155)
     have qb:=ai (w6.alloc (.cells #[.slice none 0 0,.int .i64 n.f,.slice mP I mO,.slice (some ⟨g5,0,none⟩) H c5] 155)) (.cells #[.slice none 0 0,.int .i64 f2,.slice sQ M mh,.slice (some ⟨g6,0,none⟩) K c6] 155);have xa:=(B.au.new w6 #[.slice none 0 0,.int .i64 n.f,.slice mP I mO,.slice (some ⟨g5,0,none⟩) H c5] 155).below qb;have xb:=B.au.new (w6.alloc (.cells #[.slice none 0 0,.int .i64 n.f,.slice mP I mO,.slice (some ⟨g5,0,none⟩) H c5] 155)) #[.slice none 0 0,.int .i64 f2,.slice sQ M mh,.slice (some ⟨g6,0,none⟩) K c6] 155;have sa:(w6.alloc (.cells #[.slice none 0 0,.int .i64 n.f,.slice mP I mO,.slice (some ⟨g5,0,none⟩) H c5] 155)).heap.size=w6.heap.size+1:=by simp
     rw [sa] at xb;have FZ:Hid (ze w ⟨[],n.f,n.lk.take I,n.us.take H⟩ k ⟨[],f2,n.lk.drop H,n.us.drop H⟩ (.returned (.tuple #[.pointer (some ⟨w6.heap.size,0,none⟩),.string k,.pointer (some ⟨w6.heap.size+1,0,none⟩)])) ((w6.alloc (.cells #[.slice none 0 0,.int .i64 n.f,.slice mP I mO,.slice (some ⟨g5,0,none⟩) H c5] 155)).alloc (.cells #[.slice none 0 0,.int .i64 f2,.slice sQ M mh,.slice (some ⟨g6,0,none⟩) K c6] 155))):=⟨_,_,_,_,_,_,_,_,rfl,⟨xa,gM.nil _,((nT.out.below BF.out).below qa).below qb,(YF.out.below qa).below qb,(fun p hp=>by simp at hp),by simp,sO.out.1,sO.out.2.1,sO.out.2.2.1⟩,⟨xb,gM.nil _,((pe.out.below BF.out).below qa).below qb,(Gn.out.below qa).below qb,(fun p hp=>by simp at hp),by simp,sO.out.2.2.2.1,sO.out.2.2.2.2.1,sO.out.2.2.2.2.2⟩,Below.next (Below.next (Below.next iY.out BF.out) qa) qb⟩
     clear qa qb xa xb sa;go_wp2;go_ret3;exact ⟨I,k,f2,BI.out,HKX.out,by rw [← ZD.out];first | exact FZ.out | exact FZ.out.drew⟩)
  | (have qa:=ai w6 (.cells #[.slice none 0 0,.int .i64 f2,.slice sQ M mh,.slice (some ⟨g6,0,none⟩) K c6] 155)
     have qb:=ai (w6.alloc (.cells #[.slice none 0 0,.int .i64 f2,.slice sQ M mh,.slice (some ⟨g6,0,none⟩) K c6] 155)) (.cells #[.slice none 0 0,.int .i64 n.f,.slice mP I mO,.slice (some ⟨g5,0,none⟩) H c5] 155);have xa:=(B.au.new w6 #[.slice none 0 0,.int .i64 f2,.slice sQ M mh,.slice (some ⟨g6,0,none⟩) K c6] 155).below qb;have xb:=B.au.new (w6.alloc (.cells #[.slice none 0 0,.int .i64 f2,.slice sQ M mh,.slice (some ⟨g6,0,none⟩) K c6] 155)) #[.slice none 0 0,.int .i64 n.f,.slice mP I mO,.slice (some ⟨g5,0,none⟩) H c5] 155;have sa:(w6.alloc (.cells #[.slice none 0 0,.int .i64 f2,.slice sQ M mh,.slice (some ⟨g6,0,none⟩) K c6] 155)).heap.size=w6.heap.size+1:=by simp
     rw [sa] at xb;have FZ:Hid (ze w ⟨[],n.f,n.lk.take I,n.us.take H⟩ k ⟨[],f2,n.lk.drop H,n.us.drop H⟩ (.returned (.tuple #[.pointer (some ⟨w6.heap.size+1,0,none⟩),.string k,.pointer (some ⟨w6.heap.size,0,none⟩)])) ((w6.alloc (.cells #[.slice none 0 0,.int .i64 f2,.slice sQ M mh,.slice (some ⟨g6,0,none⟩) K c6] 155)).alloc (.cells #[.slice none 0 0,.int .i64 n.f,.slice mP I mO,.slice (some ⟨g5,0,none⟩) H c5] 155))):=⟨_,_,_,_,_,_,_,_,rfl,⟨xb,gM.nil _,((nT.out.below BF.out).below qa).below qb,(YF.out.below qa).below qb,(fun p hp=>by simp at hp),by simp,sO.out.1,sO.out.2.1,sO.out.2.2.1⟩,⟨xa,gM.nil _,((pe.out.below BF.out).below qa).below qb,(Gn.out.below qa).below qb,(fun p hp=>by simp at hp),by simp,sO.out.2.2.2.1,sO.out.2.2.2.2.1,sO.out.2.2.2.2.2⟩,Below.next (Below.next (Below.next iY.out BF.out) qa) qb⟩
     clear qa qb xa xb sa;go_wp2;go_ret3;exact ⟨I,k,f2,BI.out,HKX.out,by rw [← ZD.out];first | exact FZ.out | exact FZ.out.drew⟩)
def SN.zP(n:SN):Prop:=n.us.length=0∨n.us.length=n.lk.length+1
def NG(n a:SN)(k:ByteArray)(b:SN):Prop :=
 (n.us.length=0∧∃ (i:Nat) (v:ByteArray),dt (ju (nO n.ps)) ((nO n.ps).length - 1) i∧n.ps[i]?=some (k,v)∧a=⟨n.ps.take i,0,[],[]⟩∧b=⟨n.ps.drop i,0,[],[]⟩) ∨
 (¬ n.us.length=0∧∃ (i:Nat) (f2:Int) (x:Int),dt (jt (iP (n.lk.map (·.1)))) ((iP (n.lk.map (·.1))).length - 2) i∧n.lk[i]?=some (k,x)∧a=⟨[],n.f,n.lk.take i,n.us.take (i+1)⟩∧b=⟨[],f2,n.lk.drop (i+1),n.us.drop (i+1)⟩)
theorem Ec(A:Nat→Addr)(b:Nat)(n:SN)(pv lv cv:Value)(w:World)(h:dP w b n pv lv cv)(hk:n.zP)(hb:4072<n.sz)(hE:jC A w):Calls prog 129 #[.pointer (some ⟨b,0,none⟩)] w fun e w'=>∃ a k c,NG n a k c∧ze w a k c e w':=by
 unfold SN.sz at hb;by_cases h0:n.us.length=0
 ·rw [if_pos h0] at hb;have h2:=wg h.fine.1;refine (LC A b n pv lv cv w h h0 (by omega) hE).mono fun e w' hh=>?_
  obtain ⟨i,k,v,h1,h2,h3⟩:=hh;exact ⟨_,k,_,.inl ⟨h0,i,v,h1,h2,rfl,rfl⟩,h3⟩
 ·rw [if_neg h0] at hb;have h2:=OI h.fine.2.2.1;have hlen:n.us.length=n.lk.length+1:=hk.resolve_left h0;refine (TJ A b n pv lv cv w h h0 hlen (by omega) hE).mono fun e w' hh=>?_
  obtain ⟨i,k,f2,h1,⟨x,h2⟩,h3⟩:=hh;exact ⟨_,k,_,.inr ⟨h0,i,f2,x,h1,h2,rfl,rfl⟩,h3⟩
def mG(w:World)(n:SN)(i bb:Nat)(nb:SN)(e:Ending)(w':World):Prop :=
 (¬ 4072<nb.sz∧SR w ⟨[],n.f,n.lk,n.us.set i (.nd bb)⟩ e w') ∨
 (4072<nb.sz∧∃ (a:SN) (k:ByteArray) (c:SN) (ba bc:Nat) (pa la ca pc lc cc:Value),NG nb a k c∧dP w' ba a pa la ca∧dP w' bc c pc lc cc∧SR w ⟨[],n.f,B.dJ n.lk i (k,0),C.dJ (n.us.set i (.nd ba)) (i+1) (.nd bc)⟩ e w')
theorem NG.key{n a c:SN}{k:ByteArray}(h:NG n a k c)(h1:∀ p ∈ n.ps,cQ p=true)(h2:∀ p ∈ n.lk,cV p.1):cV k:=by
 rcases h with ⟨_,i,v,_,h3,_⟩ | ⟨_,i,_,x,_,h3,_⟩
 ·have:=dY (h1 _ (cL h3));exact ⟨this.1,this.2.1⟩
 ·exact h2 _ (cL h3)
theorem tn(A:Nat→Addr)(b bb:Nat)(n nb:SN)(pv lv cv pb lb cb:Value)(i:Nat)(w:World)(h:dP w b n pv lv cv)(hb:dP w bb nb pb lb cb)(hi:i<n.us.length)(hlen:n.us.length=n.lk.length+1)(eb:n.lk.length≤3999)(gQ:nb.zP)(hE:jC A w):Calls prog 124 #[.pointer (some ⟨b,0,none⟩),.int .i64 (i:Int),.pointer (some ⟨bb,0,none⟩)] w fun e w'=>mG w n i bb nb e w':=by
 have CY:=ab (qy bb nb pb lb cb w hb);have HH:=ab h;have YH:=ab hb;have HE:=ab hE;have Vn:Hid (i<n.us.length∧n.us.length=n.lk.length+1∧n.lk.length≤3999):=⟨hi,hlen,eb⟩;clear h hb hE hi hlen eb;by_cases fY:4072<nb.sz
 ·rw [show decide (4072<nb.sz)=true by simp [fY]] at CY
  have rn:=ab fY;have CL:=ab gQ;clear fY gQ;go_enter func124,ntmps124;go_wp2_with fail;refine CY.out.mono ?_
  rintro e w1 ⟨rfl,aO⟩;have bT:=ab aO;have zl:=ab (Ec A bb nb pb lb cb w1 (YH.out.below aO) CL.out rn.out (HE.out.below aO));clear aO CY;go_wp2_with fail;refine zl.out.mono ?_
  rintro e w2 ⟨a,k,c,hcut,ba,bc,pa,la,ca,pc,lc,cc,rfl,ha,hc,aV⟩;have bL:=ab (Below.next bT.out aV);have HA:=ab ha;have HC:=ab hc;have Gp:=ab hcut;have Vd:=ab (mV b n pv lv cv i (.nd ba) w2 (HH.out.below bL.out) Vn.out.1);clear ha hc hcut aV zl bT;go_wp2_with fail;refine Vd.out.mono ?_
  rintro e w3 ⟨b3,p3,l3,c3,rfl,h3,bW⟩;have eH:=ab (Below.next bL.out bW);have HWL:=ab (KD A b3 _ p3 l3 c3 i k (.nd bc) w3 h3 (by have:=Vn.out;show i≤n.lk.length;omega) (by have:=Vn.out;show (n.us.set i _).length=n.lk.length+1;rw [bI];omega) Vn.out.2.2 (Gp.out.key YH.out.fine.1 YH.out.fine.2.2.1) (HE.out.below eH.out))
  have HA3:=ab (HA.out.below bW);have HC3:=ab (HC.out.below bW);clear h3 bW Vd HA HC bL;go_wp2_with fail;refine HWL.out.mono ?_
  rintro e w4 ⟨b4,p4,l4,c4,rfl,h4,fS⟩;have cz:Hid (mG w n i bb nb (.returned (.pointer (some ⟨b4,0,none⟩))) w4):=.inr ⟨rn.out,a,k,c,ba,bc,pa,la,ca,pc,lc,cc,Gp.out,HA3.out.below fS,HC3.out.below fS,b4,p4,l4,c4,rfl,h4,Below.next eH.out fS⟩;clear h4 fS HWL HA3 HC3;go_wp2;go_ret;exact cz.out
 ·rw [show decide (4072<nb.sz)=false by simp [fY]] at CY
  have rn:=ab fY;clear fY gQ;go_enter func124,ntmps124;go_wp2_with fail;refine CY.out.mono ?_
  rintro e w1 ⟨rfl,aO⟩;have bT:=ab aO;have Vd:=ab (mV b n pv lv cv i (.nd bb) w1 (HH.out.below aO) Vn.out.1);clear aO CY;go_wp2_with fail;refine Vd.out.mono ?_
  rintro e w3 ⟨b3,p3,l3,c3,rfl,h3,bW⟩;have cz:Hid (mG w n i bb nb (.returned (.pointer (some ⟨b3,0,none⟩))) w3):=.inl ⟨rn.out,b3,p3,l3,c3,rfl,h3,Below.next bT.out bW⟩;clear h3 bW Vd;go_wp2;go_ret;exact cz.out
end T
end Go.Proofs.YtihmgigfkmofnaaGreatDoor
