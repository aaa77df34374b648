import Derived.Test.YtihmgigfkmofnaaGreatDoorG07
import Derived.Deep.DeepCutAuto
set_option maxHeartbeats 16000000
set_option maxRecDepth 20000
open Go.Proofs.Tryz
namespace Go.Proofs.YtihmgigfkmofnaaGreatDoor
namespace B
open Go.RowKit
theorem _root_.Go.Proofs.YtihmgigfkmofnaaGreatDoor.Ib.Wx{l:List Int}{i:Nat}(h:Ib 3 (jh l) l i 0):1≤i∧i+2≤l.length:=by
 rcases h with ⟨_,_,h⟩ | ⟨_,_,_,h⟩ | ⟨h1,_,h2,_⟩
 ·omega
 ·omega
 ·have:=h2.1;omega
theorem l9{A:Nat→Addr}{ev:Value}(h:yl A ev 0):ev = .nilIface:=by
 rcases h with ⟨h,_⟩ | ⟨_,h⟩ | ⟨_,h⟩ | ⟨_,h⟩ | ⟨_,h⟩
 ·exact h
 all_goals omega
theorem sM{A:Nat→Addr}{ev:Value}{c:Nat}(h:yl A ev c)(hc:c≠0):∃ k,ev = .iface 360 (.pointer (some (A k))):=by
 rcases h with ⟨_,h⟩ | ⟨h,_⟩ | ⟨h,_⟩ | ⟨h,_⟩ | ⟨h,_⟩
 ·omega
 all_goals exact ⟨_,h⟩
def abi(A:Nat→Addr)(base:Nat)(f:Int)(l:List Lk)(e:Ending)(w:World):Prop :=
 ∃ (i c:Nat) (key:ByteArray) (f1 f2:Int) (u1 u2 ev:Value),e = .returned (.tuple #[.agg #[.int .i64 f1,u1],.string key,.agg #[.int .i64 f2,u2],ev])∧Ib 3 (jh (lW l)) (lW l) i c∧yl A ev c ∧
  ((c=0∧(∃ h:i<l.length,f1=f∧key=l[i].1∧f2=l[i].2)∧b6 w base u1 (l.take i)∧b6 w base u2 (l.drop (i+1))∧∀ k,u1.ownBlock=some k→u2.ownBlock≠some k)∨(c≠0∧f1=0∧key=⟨#[]⟩∧f2=0∧u1 = .slice none 0 0∧u2 = .slice none 0 0))
theorem Qu(A:Nat→Addr)(f:Int)(v:Value)(l:List Lk)(w:World)(cN:UX l)(hm:l.length≤5864062014805)(hr:di w v l)(hE:jL A w):Calls prog 170 #[.agg #[.int .i64 f,v]] w fun e w'=>abi A w.heap.size f l e w'∧Below w.heap.size w w':=by
 obtain ⟨a1,c1,hv⟩:=hr.form;subst hv;have dd:=hr.cap;obtain ⟨n,hn⟩ : ∃ n,n=l.length:=⟨_,rfl⟩;rw [← hn] at hr hm dd ⊢;have q1:=ai w (.cells #[.int .i64 f,.slice a1 n c1] 150);have x1:=au.new w #[.int .i64 f,.slice a1 n c1] 150;have s1:(w.alloc (.cells #[.int .i64 f,.slice a1 n c1] 150)).heap.size=w.heap.size+1:=by simp
 generalize gF:w.alloc (.cells #[.int .i64 f,.slice a1 n c1] 150)=W1 at *;have q2:=ai W1 (.cells #[.int .i64 0,.slice none 0 0] 150);have x2:=au.new W1 #[.int .i64 0,.slice none 0 0] 150;have s2:(W1.alloc (.cells #[.int .i64 0,.slice none 0 0] 150)).heap.size=W1.heap.size+1:=by simp
 generalize Lh:W1.alloc (.cells #[.int .i64 0,.slice none 0 0] 150)=W2 at *;have q3:=ai W2 (.cells #[.int .i64 0,.slice none 0 0] 150);have x3:=au.new W2 #[.int .i64 0,.slice none 0 0] 150;have s3:(W2.alloc (.cells #[.int .i64 0,.slice none 0 0] 150)).heap.size=W2.heap.size+1:=by simp
 generalize MJ:W2.alloc (.cells #[.int .i64 0,.slice none 0 0] 150)=W3 at *;have hq:=Below.next q1 (Below.next q2 q3);have zk:=ab ((x1.below q2).below q3);have nB:=ab (x2.below q3);have yA:=ab x3;have HQ:=ab hq;have HR:=ab (hr.below hq);have HE:=ab (hE.below hq);have HN:=ab hn;have HS:=ab (Hg _ l W3 cN (by omega) (hr.below hq))
 have gD:Hid (W3.heap.size=w.heap.size+3∧W2.heap.size=w.heap.size+2∧W1.heap.size=w.heap.size+1):=by show _∧_∧_;omega
 have p1:=zk.out.c1;have QM:Hid ((lW l).length≤17592186044416):=by show _≤_;rw [qS];omega
 clear q1 q2 q3 x1 x2 x3 s1 s2 s3 hr hE cN hn hq;go_enter func170,ntmps170;go_wp2_with fail;refine HS.out.mono ?_
 rintro e w1 ⟨u,rfl,hint,aL⟩;have HC:=ab (Kj A u (lW l) w1 QM.out hint (HE.out.below aL).1);have bP:=ab aL;clear hint aL HS p1;go_wp2_with fail;refine HC.out.mono ?_
 rintro e w2 ⟨hv,aU⟩;obtain ⟨i,c,ev,rfl,uU,fJ⟩:=hv.num;have bH:=ab (Below.next bP.out aU);have HCN:=ab uU;have kB:=ab fJ;clear hv aU HC bP;have vu:=nB.out.below bH.out;have uO:=yA.out.below bH.out;have sd:=zk.out.below bH.out;by_cases hc:c=0
 ·subst hc;have By:=l9 fJ;subst By;obtain ⟨B8,uS⟩:=uU.Wx;rw [qS,← HN.out] at uS;have Pl:i<l.length:=by have:=HN.out;omega
  have iG:=HR.out.below bH.out;obtain ⟨g,o,rfl,d1,d2⟩:=iG.spot i Pl;have j0:(0:Int)≤(i:Int):=by omega
  have j1:(i:Int)<(n:Int):=by omega
  obtain ⟨p,hp⟩ : ∃ p,p=l[i]:=⟨_,rfl⟩;rw [← hp] at d1 d2;have p1:=sd.c1;have HI:Hid (∃ h:i<l.length,p=l[i]):=⟨Pl,hp⟩;have hi3:i≤n:=by omega
  have uP:=fun W=>X9 W (some ⟨g,o,none⟩) n c1 i (by omega)
  obtain ⟨q,hq⟩ : ∃ q,q=i+1:=⟨_,rfl⟩;obtain ⟨a2,SO,qp⟩:=iG.drop (m:=q) (by omega)
  have HQI:=ab hq;have vw:IntKind.i64.wrap ((i:Int)+1)=(q:Int):=by rw [IntKind.wrap_i64];omega
  have hqn:(q:Int)≤(n:Int):=by omega
  have Q8:(0:Int)≤(q:Int):=by omega
  have ME:=iG.take (m:=i) (by omega)
  have Mo:=ab SO;have MP:=ab ME;have Hw:=ab sd;have Vc:=ab vu;have HH3:=ab uO;clear hp hq iG SO ME uU fJ sd vu uO Pl B8 uS;go_wp2_with fail;have q4:=ai w2 (.cells #[.string p.1,.int .i64 p.2] 179);have x4:=au.new w2 #[.string p.1,.int .i64 p.2] 179;have s4:(w2.alloc (.cells #[.string p.1,.int .i64 p.2] 179)).heap.size=w2.heap.size+1:=by simp
  generalize w2.alloc (.cells #[.string p.1,.int .i64 p.2] 179)=W4 at *;have vF:=ab x4;have Mq:=ab q4;have y1:=Hw.out.below q4;have k0:=y1.c0;have k1:=y1.c1;have q5:=ai W4 (.cells #[.int .i64 0,.slice none 0 0] 150);have x5:=au.new W4 #[.int .i64 0,.slice none 0 0] 150;have s5:(W4.alloc (.cells #[.int .i64 0,.slice none 0 0] 150)).heap.size=W4.heap.size+1:=by simp
  generalize hW5:W4.alloc (.cells #[.int .i64 0,.slice none 0 0] 150)=W5 at *;have zj:=ab x5;have E2:=ab q5;have z0:=(y1.below q5).c0;have z1:=(y1.below q5).c1;have sq:Hid (W4.heap.size=w2.heap.size+1∧W5.heap.size=W4.heap.size+1∧w.heap.size+3≤w2.heap.size):=by show _∧_∧_;have:=gD.out;have:=bH.out.size;omega
  have b1:¬ w.heap.size=W4.heap.size:=by have:=sq.out;omega
  have b2:¬ W4.heap.size=w.heap.size:=by have:=sq.out;omega
  have RG:Hid (∀ W,Below W4.heap.size W4 W→Calls prog 209 #[.slice (some ⟨g,o,none⟩) i c1] W fun e w'=>∃ ua uc,e = .returned (.slice ua i uc)∧b6 w' W.heap.size (.slice ua i uc) (l.take i)∧Below W.heap.size W w'):=fun W h=>by
   have bN:(l.take i).length=i:=by rw [ag];have:=HN.out;omega
   refine (eM _ (l.take i) W (by rw [bN];omega) ((MP.out.below q4).below h)).mono ?_
   rintro e w' ⟨u,rfl,ho,hb⟩;obtain ⟨ua,uc,hu⟩:=ho.form;rw [bN] at hu;subst hu;exact ⟨ua,uc,rfl,ho,hb⟩
  clear d1 d2 p1 q4 x4 y1 q5 x5 s4 s5;go_region_held3 (fun w'=>w'.cell? ⟨w.heap.size,0,none⟩=some (.int .i64 f)∧w'.cell? ⟨w.heap.size,1,none⟩=some (.slice (some ⟨g,o,none⟩) n c1)) (go_keep)
   (first
    | (go_at_call 209;refine (RG.out _ ?_).mono ?_;(first | exact (Below.refl _ _).drew | exact E2.out.drew);rintro e w5 ⟨ua,uc,rfl,ho,hb⟩;have HO5:=ab ho;have iW:=ab hb;have m0:w5.cell? ⟨w.heap.size,0,none⟩=some (.int .i64 f):=(by first | exact (((Hw.out.below Mq.out).below E2.out).drew.below hb).c0 | exact ((Hw.out.below Mq.out).drew.below hb).c0);have m1:w5.cell? ⟨w.heap.size,1,none⟩=some (.slice (some ⟨g,o,none⟩) n c1):=(by first | exact (((Hw.out.below Mq.out).below E2.out).drew.below hb).c1 | exact ((Hw.out.below Mq.out).drew.below hb).c1);try (have m2:=(zj.out.drew.below hb).c0;have m3:=(zj.out.drew.below hb).c1;have m4:=(zj.out.drew.below hb).free 0;have m5:=(zj.out.drew.below hb).free 1);have m6:=World.new_ne w5 _ m0;clear ho hb))
  all_goals first
   | (have hx:=au.new w5 #[.int .i64 f,.slice ua i uc] 150
      have hq:=ai w5 (.cells #[.int .i64 f,.slice ua i uc] 150);have Wj:Below W4.heap.size W4 (w5.alloc (.cells #[.int .i64 f,.slice ua i uc] 150)):=Below.next (dq iW.out) hq;have VY:b6 (w5.alloc (.cells #[.int .i64 f,.slice ua i uc] 150)) W4.heap.size (.slice ua i uc) (l.take i):=HO5.out.below hq;have GH:W4.heap.size≤w5.heap.size:=iW.out.size;generalize w5.alloc (.cells #[.int .i64 f,.slice ua i uc] 150)=W7 at *;obtain ⟨B9,PL⟩ : ∃ B,B=w5.heap.size:=⟨_,rfl⟩;rw [← PL] at hx GH ⊢;have aa8:=ab GH;clear hq)
   | (have hx:=((zj.out.drew.below iW.out).two (.int .i64 f) (.slice ua i uc))
      have Wj:Below W4.heap.size W4 ((w5.setCell ⟨W4.heap.size,0,none⟩ (.int .i64 f)).setCell ⟨W4.heap.size,1,none⟩ (.slice ua i uc)):=b9 (Below.next E2.out (dq iW.out)) (aj _);have VY:b6 ((w5.setCell ⟨W4.heap.size,0,none⟩ (.int .i64 f)).setCell ⟨W4.heap.size,1,none⟩ (.slice ua i uc)) W4.heap.size (.slice ua i uc) (l.take i):=(HO5.out.wG (g:=W4.heap.size) (by have:=sq.out;show W4.heap.size<W5.heap.size;omega) (.int .i64 f) (.slice ua i uc)).mono (by have:=sq.out;show W4.heap.size≤W5.heap.size;omega)
      generalize (w5.setCell ⟨W4.heap.size,0,none⟩ (.int .i64 f)).setCell ⟨W4.heap.size,1,none⟩ (.slice ua i uc)=W7 at *;obtain ⟨B9,PL⟩ : ∃ B,B=W4.heap.size:=⟨_,rfl⟩;rw [← PL] at hx ⊢;have aa8:Hid (W4.heap.size≤B9):=(by rw [PL];exact aj _))
  all_goals
   have HX7:=ab hx;have H5:=ab Wj;have HO7:=ab VY;clear hx Wj VY PL
  all_goals
   try clear GH
   try clear m2 m3 m4 m5
   try clear m6
   clear m0 m1 RG b1 b2 z0 z1 k0 k1 uP HO5 iW zj E2 hW5 sq;have d1:=((vF.out).below H5.out).c0;have d2:=((vF.out).below H5.out).c1;have y1:=((Hw.out.below Mq.out).below H5.out);have k1:=y1.c1;have q5:=ai W7 (.cells #[.int .i64 0,.slice none 0 0] 150);have x5:=au.new W7 #[.int .i64 0,.slice none 0 0] 150;have s5:(W7.alloc (.cells #[.int .i64 0,.slice none 0 0] 150)).heap.size=W7.heap.size+1:=by simp
   generalize hW8:W7.alloc (.cells #[.int .i64 0,.slice none 0 0] 150)=W8 at *;have XH:=ab x5;have HQ8:=ab q5;have z0:=(((vF.out).below H5.out).below q5).c1;have z1:=(y1.below q5).c1;have WE:Hid (W8.heap.size=W7.heap.size+1∧w.heap.size+3≤w2.heap.size∧w2.heap.size<W7.heap.size):=by show _∧_∧_;have:=gD.out;have:=bH.out.size;have:=(vF.out.below H5.out).lt;omega
   have b1:¬ w.heap.size=W7.heap.size:=by have:=WE.out;omega
   have b2:¬ W7.heap.size=w.heap.size:=by have:=WE.out;omega
   have b3:¬ w2.heap.size=W7.heap.size:=by have:=WE.out;omega
   have b4:¬ W7.heap.size=w2.heap.size:=by have:=WE.out;omega
   have MU:Hid (∀ W,Below W7.heap.size W7 W→Calls prog 209 #[.slice a2 (n - q) (c1 - q)] W fun e w'=>∃ va vc,e = .returned (.slice va (n - q) vc)∧b6 w' W.heap.size (.slice va (n - q) vc) (l.drop q)∧Below W.heap.size W w'):=fun W h=>by
    have bN:(l.drop q).length=n - q:=by rw [ao];have:=HN.out;have:=HQI.out;omega
    refine (eM _ (l.drop q) W (by rw [bN];omega) (((Mo.out.below Mq.out).below H5.out).below h)).mono ?_
    rintro e w' ⟨u,rfl,ho,hb⟩;obtain ⟨ua,uc,hu⟩:=ho.form;rw [bN] at hu;subst hu;exact ⟨ua,uc,rfl,ho,hb⟩
   generalize n - q=nr at *;generalize c1 - q=cr at *;clear q5 x5 y1 s5;go_wp2_with fail;go_region_held3 (fun w'=>w'.cell? ⟨w2.heap.size,1,none⟩=some (.int .i64 p.2)∧w'.cell? ⟨w.heap.size,1,none⟩=some (.slice (some ⟨g,o,none⟩) n c1)) (go_keep)
    (first
     | (go_at_call 209;refine (MU.out _ ?_).mono ?_;(first | exact (Below.refl _ _).drew | exact HQ8.out.drew);rintro e w8 ⟨va,vc,rfl,ho,hb⟩;have HO8:=ab ho;have HB8:=ab hb;have m0:w8.cell? ⟨w2.heap.size,1,none⟩=some (.int .i64 p.2):=(by first | exact (((vF.out.below H5.out).below HQ8.out).drew.below hb).c1 | exact ((vF.out.below H5.out).drew.below hb).c1);have m1:w8.cell? ⟨w.heap.size,1,none⟩=some (.slice (some ⟨g,o,none⟩) n c1):=(by first | exact ((((Hw.out.below Mq.out).below H5.out).below HQ8.out).drew.below hb).c1 | exact (((Hw.out.below Mq.out).below H5.out).drew.below hb).c1);try (have m2:=(XH.out.drew.below hb).c0;have m3:=(XH.out.drew.below hb).c1;have m4:=(XH.out.drew.below hb).free 0;have m5:=(XH.out.drew.below hb).free 1);have m6:=World.new_ne w8 _ m0;have m7:=World.new_ne w8 _ m1;clear ho hb))
  all_goals first
   | (have hx:=au.new w8 #[.int .i64 p.2,.slice va nr vc] 150
      have hq:=ai w8 (.cells #[.int .i64 p.2,.slice va nr vc] 150);have Wj:Below W7.heap.size W7 (w8.alloc (.cells #[.int .i64 p.2,.slice va nr vc] 150)):=Below.next (dq HB8.out) hq;have VY:b6 (w8.alloc (.cells #[.int .i64 p.2,.slice va nr vc] 150)) W7.heap.size (.slice va nr vc) (l.drop q):=HO8.out.below hq;have GH:W7.heap.size≤w8.heap.size:=HB8.out.size;generalize w8.alloc (.cells #[.int .i64 p.2,.slice va nr vc] 150)=W9 at *;obtain ⟨T5,PL⟩ : ∃ B,B=w8.heap.size:=⟨_,rfl⟩;rw [← PL] at hx GH ⊢;have aa7:=ab GH;clear hq)
   | (have hx:=((XH.out.drew.below HB8.out).two (.int .i64 p.2) (.slice va nr vc))
      have Wj:Below W7.heap.size W7 ((w8.setCell ⟨W7.heap.size,0,none⟩ (.int .i64 p.2)).setCell ⟨W7.heap.size,1,none⟩ (.slice va nr vc)):=b9 (Below.next HQ8.out (dq HB8.out)) (aj _);have VY:b6 ((w8.setCell ⟨W7.heap.size,0,none⟩ (.int .i64 p.2)).setCell ⟨W7.heap.size,1,none⟩ (.slice va nr vc)) W7.heap.size (.slice va nr vc) (l.drop q):=(HO8.out.wG (g:=W7.heap.size) (by have:=WE.out;show W7.heap.size<W8.heap.size;omega) (.int .i64 p.2) (.slice va nr vc)).mono (by have:=WE.out;show W7.heap.size≤W8.heap.size;omega)
      generalize (w8.setCell ⟨W7.heap.size,0,none⟩ (.int .i64 p.2)).setCell ⟨W7.heap.size,1,none⟩ (.slice va nr vc)=W9 at *;obtain ⟨T5,PL⟩ : ∃ B,B=W7.heap.size:=⟨_,rfl⟩;rw [← PL] at hx ⊢;have aa7:Hid (W7.heap.size≤T5):=(by rw [PL];exact aj _))
  all_goals
   have HX9:=ab hx;have XY:=ab Wj;have HO9:=ab VY;clear hx Wj VY PL
  all_goals
   try clear GH
   try clear m2 m3 m4 m5
   try clear m6 m7
   clear m0 m1 MU b1 b2 b3 b4 z0 z1 k1 d1 d2 qp HO8 HB8 XH HQ8 hW8;have y9:=HX7.out.below XY.out;have y8:=(vF.out.below H5.out).below XY.out;have y1:=(((Vc.out.below Mq.out).below H5.out).below XY.out);have y2:=(((HH3.out.below Mq.out).below H5.out).below XY.out);have e1:=y9.c0;have e2:=y9.c1;have e3:=y8.c0;have e4:=HX9.out.c0;have e5:=HX9.out.c1;have e6:=y1.c0;have e7:=y1.c1;have e8:=y2.c0;have e9:=y2.c1;have f1:=y1.free 0;have f2:=y1.free 1;have f3:=y2.free 0;have f4:=y2.free 1;have mI:Hid (W1.heap.size=w.heap.size+1∧W2.heap.size=w.heap.size+2∧w.heap.size+3≤w2.heap.size∧w.heap.size+3≤B9∧w.heap.size+3≤T5∧w.heap.size+3≤W4.heap.size∧w.heap.size+3≤W7.heap.size):=by
    have h1:=gD.out;have h2:=aa8.out;have h3:=aa7.out;have h4:=Mq.out.size;have h5:=H5.out.size;have h6:=WE.out;exact ⟨h1.2.2,h1.2.1,h6.2.1,by omega,by omega,by omega,by omega⟩
   have g1:¬ B9=W1.heap.size:=by have:=mI.out;omega
   have g2:¬ W1.heap.size=B9:=by have:=mI.out;omega
   have g3:¬ B9=W2.heap.size:=by have:=mI.out;omega
   have g4:¬ W2.heap.size=B9:=by have:=mI.out;omega
   have g5:¬ T5=W1.heap.size:=by have:=mI.out;omega
   have g6:¬ W1.heap.size=T5:=by have:=mI.out;omega
   have g7:¬ T5=W2.heap.size:=by have:=mI.out;omega
   have g8:¬ W2.heap.size=T5:=by have:=mI.out;omega
   have g9:¬ w2.heap.size=W1.heap.size:=by have:=mI.out;omega
   have g10:¬ W1.heap.size=w2.heap.size:=by have:=mI.out;omega
   have g11:¬ w2.heap.size=W2.heap.size:=by have:=mI.out;omega
   have g12:¬ W2.heap.size=w2.heap.size:=by have:=mI.out;omega
   have g13:¬ W1.heap.size=W2.heap.size:=by have:=mI.out;omega
   have g14:¬ W2.heap.size=W1.heap.size:=by have:=mI.out;omega
   have HY1:=ab y1;have HY2:=ab y2;clear y9 y8 y1 y2;go_wp2_with fail;go_region_held3 (fun w'=>w'.cell? ⟨B9,0,none⟩=some (.int .i64 f)∧w'.cell? ⟨B9,1,none⟩=some (.slice ua i uc)∧w'.cell? ⟨w2.heap.size,0,none⟩=some (.string p.1)∧w'.cell? ⟨T5,0,none⟩=some (.int .i64 p.2)∧w'.cell? ⟨T5,1,none⟩=some (.slice va nr vc)) (go_keep) (fail)
  all_goals
   have r2:au (((((W9.setCell ⟨W1.heap.size,0,none⟩ (.int .i64 f)).setCell ⟨W1.heap.size,1,none⟩ (.slice ua i uc)).setCell ⟨W2.heap.size,0,none⟩ (.int .i64 p.2)).setCell ⟨W2.heap.size,1,none⟩ (.slice va nr vc))) W1.heap.size #[.int .i64 f,.slice ua i uc] 150:=((HY1.out.two _ _).other g13 _).other g13 _;have r3:au (((((W9.setCell ⟨W1.heap.size,0,none⟩ (.int .i64 f)).setCell ⟨W1.heap.size,1,none⟩ (.slice ua i uc)).setCell ⟨W2.heap.size,0,none⟩ (.int .i64 p.2)).setCell ⟨W2.heap.size,1,none⟩ (.slice va nr vc))) W2.heap.size #[.int .i64 p.2,.slice va nr vc] 150:=((HY2.out.other g14 _).other g14 _).two _ _;clear e1 e2 e3 e4 e5 e6 e7 e8 e9 f1 f2 f3 f4;go_wp2_with fail;have o1:=((HO7.out.below XY.out).wG (g:=W1.heap.size) (by have:=mI.out;omega) (.int .i64 f) (.slice ua i uc)).wG (g:=W2.heap.size) (by have:=mI.out;omega) (.int .i64 p.2) (.slice va nr vc)
   have o2:=(HO9.out.wG (g:=W1.heap.size) (by have:=mI.out;omega) (.int .i64 f) (.slice ua i uc)).wG (g:=W2.heap.size) (by have:=mI.out;omega) (.int .i64 p.2) (.slice va nr vc)
   refine bodyPost_ret (pM rfl _ _ W1.heap.size W2.heap.size 150 150 _ _ (0,0) (0,0) _ _ rfl rfl r2.drew r3.drew underlying150 underlying150 rfl rfl (by kernel_rfl) (by kernel_rfl)) rfl ⟨⟨i,0,p.1,f,p.2,.slice ua i uc,.slice va nr vc,_,rfl,HCN.out,kB.out,.inl ⟨rfl,?_,?_,?_,?_⟩⟩,?_⟩
   ·obtain ⟨h,he⟩:=HI.out;exact ⟨h,rfl,by rw [he],by rw [he]⟩
   ·exact (o1.mono (by have:=mI.out;omega)).drew
   ·rw [← HQI.out];exact (o2.mono (by have:=mI.out;omega)).drew
   ·intro k h1 h2;have a1:=HO7.out.dr k h1;have a2:=HO9.out.dr k h2;omega
   ·exact aO (b9 (b9 (Below.next HQ.out (Below.next bH.out (Below.next Mq.out (Below.next H5.out XY.out)))) (by have:=mI.out;omega)) (by have:=mI.out;omega))
 ·obtain ⟨k,rfl⟩:=sM fJ hc;have D6:=fun W=>eZ (some (A k)) W
  have HCZ:=ab hc;have r1:=vu.c0;have r2:=vu.c1;have r3:=uO.c0;have r4:=uO.c1;have z1:=vu.free 0;have z2:=vu.free 1;have z3:=uO.free 0;have z4:=uO.free 1;have b1:¬ W1.heap.size=W2.heap.size:=by have:=gD.out;omega
  have b2:¬ W2.heap.size=W1.heap.size:=by have:=gD.out;omega
  have ad1:=ab vu;have ad0:=ab uO;clear uU fJ hc sd vu uO;go_wp2_with fail;have e2:au (((((w2.setCell ⟨W1.heap.size,0,none⟩ (.int .i64 0)).setCell ⟨W1.heap.size,1,none⟩ (.slice none 0 0)).setCell ⟨W2.heap.size,0,none⟩ (.int .i64 0)).setCell ⟨W2.heap.size,1,none⟩ (.slice none 0 0))) W1.heap.size #[.int .i64 0,.slice none 0 0] 150:=((ad1.out.two _ _).other b1 _).other b1 _;have e3:au (((((w2.setCell ⟨W1.heap.size,0,none⟩ (.int .i64 0)).setCell ⟨W1.heap.size,1,none⟩ (.slice none 0 0)).setCell ⟨W2.heap.size,0,none⟩ (.int .i64 0)).setCell ⟨W2.heap.size,1,none⟩ (.slice none 0 0))) W2.heap.size #[.int .i64 0,.slice none 0 0] 150:=((ad0.out.other b2 _).other b2 _).two _ _;refine bodyPost_ret (pM rfl _ _ W1.heap.size W2.heap.size 150 150 _ _ (0,0) (0,0) _ _ rfl rfl e2 e3 underlying150 underlying150 rfl rfl (by kernel_rfl) (by kernel_rfl)) rfl ⟨⟨i,c,_,0,0,_,_,_,rfl,HCN.out,kB.out,.inr ⟨HCZ.out,rfl,rfl,rfl,rfl,rfl⟩⟩,?_⟩
  exact b9 (b9 (Below.next HQ.out bH.out) (by have:=gD.out;omega)) (by have:=gD.out;omega)
end B
namespace T
open Go.RowKit
theorem No(l:List B.Lk):iJ (l.map (·.1))=B.lW l:=by
 simp [iJ,B.lW,B.yu]
theorem Sl(A:Nat→Addr)(b:Nat)(n:SN)(pv lv cv:Value)(w:World)(h:dH w b n pv lv cv)(h0:¬ n.us.length=0)(hlen:n.us.length=n.lk.length+1)(h3:3≤n.lk.length)(hE:jL A w):Calls prog 129 #[.pointer (some ⟨b,0,none⟩)] w fun e w'=>∃ (i:Nat) (k:ByteArray) (f2:Int),dm (jh (iJ (n.lk.map (·.1)))) ((iJ (n.lk.map (·.1))).length - 2) i∧(∃ x,n.lk[i]?=some (k,x))∧ym w ⟨[],n.f,n.lk.take i,n.us.take (i+1)⟩ k ⟨[],f2,n.lk.drop (i+1),n.us.drop (i+1)⟩ e w':=by
 have HL:=ab (cB b n pv lv cv w h);rw [show decide (n.us.length=0)=false by simp [h0]] at HL
 have yr:Hid (Calls prog 170 #[.agg #[.int .i64 n.f,lv]] w fun e w'=>∃ (i:Nat) (k:ByteArray) (f2:Int) (mF r9:Option Addr) (mE lV:Nat),e = .returned (.tuple #[.agg #[.int .i64 n.f,.slice mF i mE],.string k,.agg #[.int .i64 f2,.slice r9 (n.lk.length - (i+1)) lV],.nilIface])∧dm (jh (iJ (n.lk.map (·.1)))) ((iJ (n.lk.map (·.1))).length - 2) i∧(∃ x,n.lk[i]?=some (k,x))∧(1≤i∧i+2≤n.lk.length)∧B.di w' (.slice mF i mE) (n.lk.take i)∧B.di w' (.slice r9 (n.lk.length - (i+1)) lV) (n.lk.drop (i+1))∧Below w.heap.size w w'):=by
  refine (B.Qu A n.f lv n.lk w h.tQ (by have:=h.fine.2.2.2.1;omega) h.a8 hE).mono fun e w' hh=>?_
  obtain ⟨⟨i,cc,key,f1,f2,u1,u2,ev,h1,uU,fJ,fH⟩,hb⟩:=hh;have Pe:(B.lW n.lk).length=n.lk.length:=by simp [B.lW]
  have Pq:ie (B.lW n.lk):=fun j hj=>by
   have lL:j<n.lk.length:=by rw [← Pe];exact hj
   have:=h.fine.2.2.1 n.lk[j] (aG lL);unfold cQ at this;simp only [B.lW,bZ];unfold B.yu;omega
  rcases uU with ⟨g1,_,_⟩ | ⟨_,g1,_⟩ | ⟨_,_,oB,xL⟩
  ·rw [Pe] at g1;omega
  ·exact absurd Pq g1
  ·subst xL;rcases fH with ⟨_,⟨hi,rfl,rfl,rfl⟩,o1,o2,_⟩ | ⟨dE,_⟩
   ·have By:=l9 fJ;subst By;have K8:=oB.1;rw [Pe] at K8;obtain ⟨a1,c1,e1⟩:=o1.form;obtain ⟨a2,c2,e2⟩:=o2.form;subst e1 e2;have l1:(n.lk.take i).length=i:=by rw [ag];omega
    have l2:(n.lk.drop (i+1)).length=n.lk.length - (i+1):=by rw [ao]
    have p1:=o1.at;have p2:=o2.at;rw [l1] at h1 p1;rw [l2] at h1 p2;refine ⟨i,_,_,a1,a2,c1,c2,h1,?_,⟨_,af hi⟩,⟨by omega,by omega⟩,p1,p2,hb⟩
    rw [No];exact oB
   ·exact absurd rfl dE
 have p1:=h.c1;have p2:=h.c2;have HH:=ab h;have kH:=ab hlen;obtain ⟨ca,cc,xJ⟩:=h.kids.form;subst xJ;have dd:n.us.length≤cc:=by
  obtain ⟨_,_,he,hle,_⟩:=h.kids;simp only [Value.slice.injEq] at he;obtain ⟨-,-,rfl⟩:=he;rw [C.eb] at hle;exact hle
 obtain ⟨m,hm⟩ : ∃ m,m=n.us.length:=⟨_,rfl⟩;have Hm:=ab hm;have aeW:=ab dd;clear hm dd;clear h h0 hE h3 hlen;go_enter func129,ntmps129;go_wp2_with fail;refine HL.out.mono ?_
 rintro e w1 ⟨rfl,rfl⟩;clear HL;go_wp2_with fail;refine yr.out.mono ?_
 rintro e w2 ⟨I,k,f2,mF,r9,mE,lV,rfl,oB,Zv,K8,fV,iG,aU⟩;obtain ⟨M,hM⟩ : ∃ M,M=n.lk.length - (I+1):=⟨_,rfl⟩;rw [← hM] at iG ⊢;have Fq:=ab hM;clear hM;have qa:=ai w2 (.cells #[.int .i64 n.f,.slice mF I mE] 150);have qb:=ai (w2.alloc (.cells #[.int .i64 n.f,.slice mF I mE] 150)) (.cells #[.int .i64 f2,.slice r9 M lV] 150);have xa:=(B.au.new w2 #[.int .i64 n.f,.slice mF I mE] 150).below qb;have xb:=B.au.new (w2.alloc (.cells #[.int .i64 n.f,.slice mF I mE] 150)) #[.int .i64 f2,.slice r9 M lV] 150;have sb:(w2.alloc (.cells #[.int .i64 n.f,.slice mF I mE] 150)).heap.size=w2.heap.size+1:=by simp
 rw [sb] at xb;have uW:=ab xa;have QH:=ab xb;have iU:=ab (Below.next (Below.next aU qa) qb);have nH:=ab ((fV.below qa).below qb);have oL:=ab ((iG.below qa).below qb);have AP:=ab oB;have HKX:=ab Zv;have MS:=ab K8;clear yr p1 p2 oB Zv K8 fV iG aU qa qb xa xb sb;obtain ⟨H,hH⟩ : ∃ H,H=I+1:=⟨_,rfl⟩;obtain ⟨K,hK⟩ : ∃ K,K=m - H:=⟨_,rfl⟩;have hwH:IntKind.i64.wrap ((I:Int)+1)=(H:Int):=by have:=MS.out;have:=HH.out.fine.2.2.2.1;rw [IntKind.wrap_i64];omega
 have HHM:Hid (H≤m∧1≤K):=by
  have h1:=MS.out;have h2:=kH.out;have h3:=Hm.out;exact ⟨by omega,by omega⟩
 have HHI:=ab hH;have MQ:=ab hK;clear hH hK;go_upto_region 6 with fail
 have hH:=HHI.out;have hK:=MQ.out;have hM:=Fq.out;have hm:=Hm.out;have hHm:=HHM.out;have dd:=aeW.out;generalize (w2.alloc (.cells #[.int .i64 n.f,.slice mF I mE] 150)).alloc (.cells #[.int .i64 f2,.slice r9 M lV] 150)=W4 at *;obtain ⟨kb,Rj⟩ : ∃ x,x=w2.heap.size+1:=⟨_,rfl⟩;obtain ⟨ka,S0⟩ : ∃ x,x=w2.heap.size:=⟨_,rfl⟩;rw [← Rj] at QH ⊢;rw [← S0] at uW ⊢;clear Rj S0;have tY:C.di W4 (.slice ca n.us.length cc) n.us:=(HH.out.below iU.out).kids;obtain ⟨da,Pt,qp⟩:=tY.drop (m:=H) (by omega)
 have mH:=tY.take (m:=H) (by omega)
 have uP:=fun W=>C.Ya W ca n.us.length cc H (by omega)
 have Yo:(n.us.take H).length=H:=by rw [ag];omega
 have Yp:(n.us.drop H).length=K:=by rw [ao];omega
 have hmK:n.us.length - H=K:=by omega
 rw [hmK] at Pt qp;have RG:Hid (∀ W,Below W4.heap.size W4 W→Calls prog 164 #[.slice ca H cc] W fun e w'=>∃ (g c:Nat),e = .returned (.slice (some ⟨g,0,none⟩) H c)∧C.di w' (.slice (some ⟨g,0,none⟩) H c) (n.us.take H)∧Below W.heap.size W w'):=fun W hW=>by
  refine (C.eM _ (n.us.take H) W (by rw [Yo];have:=HH.out.fine.2.2.2.2;omega) (mH.below hW)).mono fun e w' ⟨u,h1,h2,h3⟩=>?_
  obtain ⟨g,c,hu,_,_⟩:=rI h2 (by rw [Yo];omega)
  subst hu;rw [Yo] at h1 h2;exact ⟨g,c,h1,h2.at,h3⟩
 have MU:Hid (∀ W,Below W4.heap.size W4 W→Calls prog 164 #[.slice da K (cc - H)] W fun e w'=>∃ (g c:Nat),e = .returned (.slice (some ⟨g,0,none⟩) K c)∧C.di w' (.slice (some ⟨g,0,none⟩) K c) (n.us.drop H)∧Below W.heap.size W w'):=fun W hW=>by
  refine (C.eM _ (n.us.drop H) W (by rw [Yp];have:=HH.out.fine.2.2.2.2;omega) (Pt.below hW)).mono fun e w' ⟨u,h1,h2,h3⟩=>?_
  obtain ⟨g,c,hu,_,_⟩:=rI h2 (by rw [Yp];omega)
  subst hu;rw [Yp] at h1 h2;exact ⟨g,c,h1,h2.at,h3⟩
 have rX:Hid ((∀ p ∈ n.lk.take I,cQ p.1)∧(n.lk.take I).length≤4000∧(n.us.take H).length≤4001∧(∀ p ∈ n.lk.drop H,cQ p.1)∧(n.lk.drop H).length≤4000∧(n.us.drop H).length≤4001):=by
  have hf:=HH.out.fine;exact ⟨fun p hp=>hf.2.2.1 p (bF hp),by rw [ag];omega,by rw [Yo];omega,fun p hp=>hf.2.2.1 p (bG hp),by rw [ao];omega,by rw [Yp];omega⟩
 rw [← hH] at oL;have k3:=(HH.out.below iU.out).c3;have kA0:=uW.out.c0;have kA1:=uW.out.c1;have kB0:=QH.out.c0;have kB1:=QH.out.c1;have QN:Hid (∀ W,Below W4.heap.size W4 W→(W.cell? ⟨b,3,none⟩=some (.slice ca n.us.length cc)∧W.cell? ⟨ka,0,none⟩=some (.int .i64 n.f)∧W.cell? ⟨ka,1,none⟩=some (.slice mF I mE)∧W.cell? ⟨kb,0,none⟩=some (.int .i64 f2)∧W.cell? ⟨kb,1,none⟩=some (.slice r9 M lV))∧¬ b=W.heap.size∧¬ ka=W.heap.size∧¬ kb=W.heap.size):=fun W hW=>⟨⟨(HH.out.below (Below.next iU.out hW)).c3,(uW.out.below hW).c0,(uW.out.below hW).c1,(QH.out.below hW).c0,(QH.out.below hW).c1⟩,by have:=(HH.out.below iU.out).row.lt;have:=hW.size;omega,by have:=uW.out.lt;have:=hW.size;omega,by have:=QH.out.lt;have:=hW.size;omega⟩
 have hHI:(H:Int)≤(cc:Int):=by omega
 have hH0:(0:Int)≤(H:Int):=by omega
 clear hH hK hM hHm dd Pt mH Yo Yp tY hmK hm;go_region_held3 (fun w'=>w'.cell? ⟨b,3,none⟩=some (.slice ca n.us.length cc)∧w'.cell? ⟨ka,0,none⟩=some (.int .i64 n.f)∧w'.cell? ⟨ka,1,none⟩=some (.slice mF I mE)∧w'.cell? ⟨kb,0,none⟩=some (.int .i64 f2)∧w'.cell? ⟨kb,1,none⟩=some (.slice r9 M lV)) (go_keep)
  (first
   | (go_at_call_of 164 (Value.slice ca H cc);refine (RG.out _ ?_).mono ?_;(first | exact AN.out | exact Below.next AN.out (ai w6 (.cells #[.slice none 0 0,.int .i64 f2,.slice r9 M lV,.slice (some ⟨g6,0,none⟩) K c6] 155)) | exact (Below.refl _ _).drew);rintro e w5 ⟨g5,c5,rfl,ho,hb⟩;have yn:Hid (Below W4.heap.size W4 w5):=(by first | exact Below.next AN.out hb | exact Below.next (Below.next AN.out (ai w6 (.cells #[.slice none 0 0,.int .i64 f2,.slice r9 M lV,.slice (some ⟨g6,0,none⟩) K c6] 155))) hb | exact B.dq hb);have QT:=ab ho;(try (have RC:=ab (RC.out.below hb)));(try (have RC:=ab ((RC.out.below (ai w6 (.cells #[.slice none 0 0,.int .i64 f2,.slice r9 M lV,.slice (some ⟨g6,0,none⟩) K c6] 155))).below hb)));(try (have HXO:=ab ((B.au.new w6 #[.slice none 0 0,.int .i64 f2,.slice r9 M lV,.slice (some ⟨g6,0,none⟩) K c6] 155).below hb)));obtain ⟨⟨m1,m2,m3,m4,m5⟩,m6,m7,m8⟩:=QN.out _ yn.out;clear ho hb)
   | (go_at_call_of 164 (Value.slice da K (cc - H));refine (MU.out _ ?_).mono ?_;(first | exact yn.out | exact Below.next yn.out (ai w5 (.cells #[.slice none 0 0,.int .i64 n.f,.slice mF I mE,.slice (some ⟨g5,0,none⟩) H c5] 155)) | exact (Below.refl _ _).drew);rintro e w6 ⟨g6,c6,rfl,ho,hb⟩;have AN:Hid (Below W4.heap.size W4 w6):=(by first | exact Below.next yn.out hb | exact Below.next (Below.next yn.out (ai w5 (.cells #[.slice none 0 0,.int .i64 n.f,.slice mF I mE,.slice (some ⟨g5,0,none⟩) H c5] 155))) hb | exact B.dq hb);have RC:=ab ho;(try (have QT:=ab (QT.out.below hb)));(try (have QT:=ab ((QT.out.below (ai w5 (.cells #[.slice none 0 0,.int .i64 n.f,.slice mF I mE,.slice (some ⟨g5,0,none⟩) H c5] 155))).below hb)));(try (have HXO:=ab ((B.au.new w5 #[.slice none 0 0,.int .i64 n.f,.slice mF I mE,.slice (some ⟨g5,0,none⟩) H c5] 155).below hb)));obtain ⟨⟨m1,m2,m3,m4,m5⟩,m6,m7,m8⟩:=QN.out _ AN.out;clear ho hb))
 all_goals first
  | (have qb:=ai w6 (.cells #[.slice none 0 0,.int .i64 f2,.slice r9 M lV,.slice (some ⟨g6,0,none⟩) K c6] 155)
     have E3:Hid (ym w ⟨[],n.f,n.lk.take I,n.us.take H⟩ k ⟨[],f2,n.lk.drop H,n.us.drop H⟩ (.returned (.tuple #[.pointer (some ⟨w5.heap.size,0,none⟩),.string k,.pointer (some ⟨w6.heap.size,0,none⟩)])) (w6.alloc (.cells #[.slice none 0 0,.int .i64 f2,.slice r9 M lV,.slice (some ⟨g6,0,none⟩) K c6] 155))):=⟨_,_,_,_,_,_,_,_,rfl,⟨HXO.out.below qb,gG.nil _,(nH.out.below AN.out).below qb,QT.out.below qb,(fun p hp=>by simp at hp),by simp,rX.out.1,rX.out.2.1,rX.out.2.2.1⟩,⟨B.au.new w6 #[.slice none 0 0,.int .i64 f2,.slice r9 M lV,.slice (some ⟨g6,0,none⟩) K c6] 155,gG.nil _,(oL.out.below AN.out).below qb,RC.out.below qb,(fun p hp=>by simp at hp),by simp,rX.out.2.2.2.1,rX.out.2.2.2.2.1,rX.out.2.2.2.2.2⟩,Below.next (Below.next iU.out AN.out) qb⟩
     clear qb HXO;go_wp2;go_ret3;exact ⟨I,k,f2,AP.out,HKX.out,by rw [← HHI.out];first | exact E3.out | exact E3.out.drew⟩)
  | (have qa:=ai w6 (.cells #[.slice none 0 0,.int .i64 n.f,.slice mF I mE,.slice (some ⟨g5,0,none⟩) H c5] 155)
     have qb:=ai (w6.alloc (.cells #[.slice none 0 0,.int .i64 n.f,.slice mF I mE,.slice (some ⟨g5,0,none⟩) H c5] 155)) (.cells #[.slice none 0 0,.int .i64 f2,.slice r9 M lV,.slice (some ⟨g6,0,none⟩) K c6] 155);have xa:=(B.au.new w6 #[.slice none 0 0,.int .i64 n.f,.slice mF I mE,.slice (some ⟨g5,0,none⟩) H c5] 155).below qb;have xb:=B.au.new (w6.alloc (.cells #[.slice none 0 0,.int .i64 n.f,.slice mF I mE,.slice (some ⟨g5,0,none⟩) H c5] 155)) #[.slice none 0 0,.int .i64 f2,.slice r9 M lV,.slice (some ⟨g6,0,none⟩) K c6] 155;have sa:(w6.alloc (.cells #[.slice none 0 0,.int .i64 n.f,.slice mF I mE,.slice (some ⟨g5,0,none⟩) H c5] 155)).heap.size=w6.heap.size+1:=by simp
     rw [sa] at xb;have E3:Hid (ym w ⟨[],n.f,n.lk.take I,n.us.take H⟩ k ⟨[],f2,n.lk.drop H,n.us.drop H⟩ (.returned (.tuple #[.pointer (some ⟨w6.heap.size,0,none⟩),.string k,.pointer (some ⟨w6.heap.size+1,0,none⟩)])) ((w6.alloc (.cells #[.slice none 0 0,.int .i64 n.f,.slice mF I mE,.slice (some ⟨g5,0,none⟩) H c5] 155)).alloc (.cells #[.slice none 0 0,.int .i64 f2,.slice r9 M lV,.slice (some ⟨g6,0,none⟩) K c6] 155))):=⟨_,_,_,_,_,_,_,_,rfl,⟨xa,gG.nil _,((nH.out.below AN.out).below qa).below qb,(QT.out.below qa).below qb,(fun p hp=>by simp at hp),by simp,rX.out.1,rX.out.2.1,rX.out.2.2.1⟩,⟨xb,gG.nil _,((oL.out.below AN.out).below qa).below qb,(RC.out.below qa).below qb,(fun p hp=>by simp at hp),by simp,rX.out.2.2.2.1,rX.out.2.2.2.2.1,rX.out.2.2.2.2.2⟩,Below.next (Below.next (Below.next iU.out AN.out) qa) qb⟩
     clear qa qb xa xb sa;go_wp2;go_ret3;exact ⟨I,k,f2,AP.out,HKX.out,by rw [← HHI.out];first | exact E3.out | exact E3.out.drew⟩)
  | (have qa:=ai w6 (.cells #[.slice none 0 0,.int .i64 f2,.slice r9 M lV,.slice (some ⟨g6,0,none⟩) K c6] 155)
     have qb:=ai (w6.alloc (.cells #[.slice none 0 0,.int .i64 f2,.slice r9 M lV,.slice (some ⟨g6,0,none⟩) K c6] 155)) (.cells #[.slice none 0 0,.int .i64 n.f,.slice mF I mE,.slice (some ⟨g5,0,none⟩) H c5] 155);have xa:=(B.au.new w6 #[.slice none 0 0,.int .i64 f2,.slice r9 M lV,.slice (some ⟨g6,0,none⟩) K c6] 155).below qb;have xb:=B.au.new (w6.alloc (.cells #[.slice none 0 0,.int .i64 f2,.slice r9 M lV,.slice (some ⟨g6,0,none⟩) K c6] 155)) #[.slice none 0 0,.int .i64 n.f,.slice mF I mE,.slice (some ⟨g5,0,none⟩) H c5] 155;have sa:(w6.alloc (.cells #[.slice none 0 0,.int .i64 f2,.slice r9 M lV,.slice (some ⟨g6,0,none⟩) K c6] 155)).heap.size=w6.heap.size+1:=by simp
     rw [sa] at xb;have E3:Hid (ym w ⟨[],n.f,n.lk.take I,n.us.take H⟩ k ⟨[],f2,n.lk.drop H,n.us.drop H⟩ (.returned (.tuple #[.pointer (some ⟨w6.heap.size+1,0,none⟩),.string k,.pointer (some ⟨w6.heap.size,0,none⟩)])) ((w6.alloc (.cells #[.slice none 0 0,.int .i64 f2,.slice r9 M lV,.slice (some ⟨g6,0,none⟩) K c6] 155)).alloc (.cells #[.slice none 0 0,.int .i64 n.f,.slice mF I mE,.slice (some ⟨g5,0,none⟩) H c5] 155))):=⟨_,_,_,_,_,_,_,_,rfl,⟨xb,gG.nil _,((nH.out.below AN.out).below qa).below qb,(QT.out.below qa).below qb,(fun p hp=>by simp at hp),by simp,rX.out.1,rX.out.2.1,rX.out.2.2.1⟩,⟨xa,gG.nil _,((oL.out.below AN.out).below qa).below qb,(RC.out.below qa).below qb,(fun p hp=>by simp at hp),by simp,rX.out.2.2.2.1,rX.out.2.2.2.2.1,rX.out.2.2.2.2.2⟩,Below.next (Below.next (Below.next iU.out AN.out) qa) qb⟩
     clear qa qb xa xb sa;go_wp2;go_ret3;exact ⟨I,k,f2,AP.out,HKX.out,by rw [← HHI.out];first | exact E3.out | exact E3.out.drew⟩)
def SN.yP(n:SN):Prop:=n.us.length=0∨n.us.length=n.lk.length+1
def My(n a:SN)(k:ByteArray)(b:SN):Prop :=
 (n.us.length=0∧∃ (i:Nat) (v:ByteArray),dm (ji (nE n.ps)) ((nE n.ps).length - 1) i∧n.ps[i]?=some (k,v)∧a=⟨n.ps.take i,0,[],[]⟩∧b=⟨n.ps.drop i,0,[],[]⟩) ∨
 (¬ n.us.length=0∧∃ (i:Nat) (f2:Int) (x:Int),dm (jh (iJ (n.lk.map (·.1)))) ((iJ (n.lk.map (·.1))).length - 2) i∧n.lk[i]?=some (k,x)∧a=⟨[],n.f,n.lk.take i,n.us.take (i+1)⟩∧b=⟨[],f2,n.lk.drop (i+1),n.us.drop (i+1)⟩)
theorem Dl(A:Nat→Addr)(b:Nat)(n:SN)(pv lv cv:Value)(w:World)(h:dH w b n pv lv cv)(hk:n.yP)(hb:4072<n.sz)(hE:jL A w):Calls prog 129 #[.pointer (some ⟨b,0,none⟩)] w fun e w'=>∃ a k c,My n a k c∧ym w a k c e w':=by
 unfold SN.sz at hb;by_cases h0:n.us.length=0
 ·rw [if_pos h0] at hb;have h2:=ve h.fine.1;refine (Ky A b n pv lv cv w h h0 (by omega) hE).mono fun e w' hh=>?_
  obtain ⟨i,k,v,h1,h2,h3⟩:=hh;exact ⟨_,k,_,.inl ⟨h0,i,v,h1,h2,rfl,rfl⟩,h3⟩
 ·rw [if_neg h0] at hb;have h2:=Np h.fine.2.2.1;have hlen:n.us.length=n.lk.length+1:=hk.resolve_left h0;refine (Sl A b n pv lv cv w h h0 hlen (by omega) hE).mono fun e w' hh=>?_
  obtain ⟨i,k,f2,h1,⟨x,h2⟩,h3⟩:=hh;exact ⟨_,k,_,.inr ⟨h0,i,f2,x,h1,h2,rfl,rfl⟩,h3⟩
def mu(w:World)(n:SN)(i bb:Nat)(nb:SN)(e:Ending)(w':World):Prop :=
 (¬ 4072<nb.sz∧Ru w ⟨[],n.f,n.lk,n.us.set i (.nd bb)⟩ e w') ∨
 (4072<nb.sz∧∃ (a:SN) (k:ByteArray) (c:SN) (ba bc:Nat) (pa la ca pc lc cc:Value),My nb a k c∧dH w' ba a pa la ca∧dH w' bc c pc lc cc∧Ru w ⟨[],n.f,B.dF n.lk i (k,0),C.dF (n.us.set i (.nd ba)) (i+1) (.nd bc)⟩ e w')
theorem My.key{n a c:SN}{k:ByteArray}(h:My n a k c)(h1:∀ p ∈ n.ps,cO p=true)(h2:∀ p ∈ n.lk,cQ p.1):cQ k:=by
 rcases h with ⟨_,i,v,_,h3,_⟩ | ⟨_,i,_,x,_,h3,_⟩
 ·have:=eL (h1 _ (cG h3));exact ⟨this.1,this.2.1⟩
 ·exact h2 _ (cG h3)
theorem sC(A:Nat→Addr)(b bb:Nat)(n nb:SN)(pv lv cv pb lb cb:Value)(i:Nat)(w:World)(h:dH w b n pv lv cv)(hb:dH w bb nb pb lb cb)(hi:i<n.us.length)(hlen:n.us.length=n.lk.length+1)(dW:n.lk.length≤3999)(gM:nb.yP)(hE:jL A w):Calls prog 124 #[.pointer (some ⟨b,0,none⟩),.int .i64 (i:Int),.pointer (some ⟨bb,0,none⟩)] w fun e w'=>mu w n i bb nb e w':=by
 have Cf:=ab (p7 bb nb pb lb cb w hb);have HH:=ab h;have WU:=ab hb;have HE:=ab hE;have TZ:Hid (i<n.us.length∧n.us.length=n.lk.length+1∧n.lk.length≤3999):=⟨hi,hlen,dW⟩;clear h hb hE hi hlen dW;by_cases fW:4072<nb.sz
 ·rw [show decide (4072<nb.sz)=true by simp [fW]] at Cf
  have qJ:=ab fW;have BZ:=ab gM;clear fW gM;go_enter func124,ntmps124;go_wp2_with fail;refine Cf.out.mono ?_
  rintro e w1 ⟨rfl,aL⟩;have bP:=ab aL;have yr:=ab (Dl A bb nb pb lb cb w1 (WU.out.below aL) BZ.out qJ.out (HE.out.below aL));clear aL Cf;go_wp2_with fail;refine yr.out.mono ?_
  rintro e w2 ⟨a,k,c,hcut,ba,bc,pa,la,ca,pc,lc,cc,rfl,ha,hc,aU⟩;have bH:=ab (Below.next bP.out aU);have HA:=ab ha;have HC:=ab hc;have Fv:=ab hcut;have TO:=ab (mK b n pv lv cv i (.nd ba) w2 (HH.out.below bH.out) TZ.out.1);clear ha hc hcut aU yr bP;go_wp2_with fail;refine TO.out.mono ?_
  rintro e w3 ⟨b3,p3,l3,c3,rfl,h3,bT⟩;have eG:=ab (Below.next bH.out bT);have HWL:=ab (JH A b3 _ p3 l3 c3 i k (.nd bc) w3 h3 (by have:=TZ.out;show i≤n.lk.length;omega) (by have:=TZ.out;show (n.us.set i _).length=n.lk.length+1;rw [cx];omega) TZ.out.2.2 (Fv.out.key WU.out.fine.1 WU.out.fine.2.2.1) (HE.out.below eG.out))
  have HA3:=ab (HA.out.below bT);have HC3:=ab (HC.out.below bT);clear h3 bT TO HA HC bH;go_wp2_with fail;refine HWL.out.mono ?_
  rintro e w4 ⟨b4,p4,l4,c4,rfl,h4,gj⟩;have b8:Hid (mu w n i bb nb (.returned (.pointer (some ⟨b4,0,none⟩))) w4):=.inr ⟨qJ.out,a,k,c,ba,bc,pa,la,ca,pc,lc,cc,Fv.out,HA3.out.below gj,HC3.out.below gj,b4,p4,l4,c4,rfl,h4,Below.next eG.out gj⟩;clear h4 gj HWL HA3 HC3;go_wp2;go_ret;exact b8.out
 ·rw [show decide (4072<nb.sz)=false by simp [fW]] at Cf
  have qJ:=ab fW;clear fW gM;go_enter func124,ntmps124;go_wp2_with fail;refine Cf.out.mono ?_
  rintro e w1 ⟨rfl,aL⟩;have bP:=ab aL;have TO:=ab (mK b n pv lv cv i (.nd bb) w1 (HH.out.below aL) TZ.out.1);clear aL Cf;go_wp2_with fail;refine TO.out.mono ?_
  rintro e w3 ⟨b3,p3,l3,c3,rfl,h3,bT⟩;have b8:Hid (mu w n i bb nb (.returned (.pointer (some ⟨b3,0,none⟩))) w3):=.inl ⟨qJ.out,b3,p3,l3,c3,rfl,h3,Below.next bP.out bT⟩;clear h3 bT TO;go_wp2;go_ret;exact b8.out
end T
end Go.Proofs.YtihmgigfkmofnaaGreatDoor
