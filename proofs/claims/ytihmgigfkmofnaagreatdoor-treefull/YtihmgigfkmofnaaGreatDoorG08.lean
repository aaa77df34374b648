import Derived.Test.YtihmgigfkmofnaaGreatDoorG07
import Derived.Deep.DeepCutAuto
set_option maxHeartbeats 16000000
set_option maxRecDepth 20000
open Go.Proofs.Tryz
namespace Go.Proofs.YtihmgigfkmofnaaGreatDoor
namespace B
open Go.RowKit
theorem _root_.Go.Proofs.YtihmgigfkmofnaaGreatDoor.It.Xl{l:List Int}{i:Nat}(h:It 3 (jq l) l i 0):1≤i∧i+2≤l.length:=by
 rcases h with ⟨_,_,h⟩ | ⟨_,_,_,h⟩ | ⟨h1,_,h2,_⟩
 ·omega
 ·omega
 ·have:=h2.1;omega
theorem mr{A:Nat→Addr}{ev:Value}(h:yM A ev 0):ev = .nilIface:=by
 rcases h with ⟨h,_⟩ | ⟨_,h⟩ | ⟨_,h⟩ | ⟨_,h⟩ | ⟨_,h⟩
 ·exact h
 all_goals omega
theorem sX{A:Nat→Addr}{ev:Value}{c:Nat}(h:yM A ev c)(hc:c≠0):∃ k,ev = .iface 360 (.pointer (some (A k))):=by
 rcases h with ⟨_,h⟩ | ⟨h,_⟩ | ⟨h,_⟩ | ⟨h,_⟩ | ⟨h,_⟩
 ·omega
 all_goals exact ⟨_,h⟩
def abQ(A:Nat→Addr)(base:Nat)(f:Int)(l:List Lk)(e:Ending)(w:World):Prop :=
 ∃ (i c:Nat) (key:ByteArray) (f1 f2:Int) (u1 u2 ev:Value),e = .returned (.tuple #[.agg #[.int .i64 f1,u1],.string key,.agg #[.int .i64 f2,u2],ev])∧It 3 (jq (mj l)) (mj l) i c∧yM A ev c ∧
  ((c=0∧(∃ h:i<l.length,f1=f∧key=l[i].1∧f2=l[i].2)∧b7 w base u1 (l.take i)∧b7 w base u2 (l.drop (i+1))∧∀ k,u1.ownBlock=some k→u2.ownBlock≠some k)∨(c≠0∧f1=0∧key=⟨#[]⟩∧f2=0∧u1 = .slice none 0 0∧u2 = .slice none 0 0))
theorem Q1(A:Nat→Addr)(f:Int)(v:Value)(l:List Lk)(w:World)(cO:Vu l)(hm:l.length≤5864062014805)(hr:di w v l)(hE:jS A w):Calls prog 170 #[.agg #[.int .i64 f,v]] w fun e w'=>abQ A w.heap.size f l e w'∧Below w.heap.size w w':=by
 obtain ⟨a1,c1,hv⟩:=hr.form;subst hv;have cT:=hr.cap;obtain ⟨n,hn⟩ : ∃ n,n=l.length:=⟨_,rfl⟩;rw [← hn] at hr hm cT ⊢;have q1:=ai w (.cells #[.int .i64 f,.slice a1 n c1] 150);have x1:=au.new w #[.int .i64 f,.slice a1 n c1] 150;have s1:(w.alloc (.cells #[.int .i64 f,.slice a1 n c1] 150)).heap.size=w.heap.size+1:=by simp
 generalize gL:w.alloc (.cells #[.int .i64 f,.slice a1 n c1] 150)=W1 at *;have q2:=ai W1 (.cells #[.int .i64 0,.slice none 0 0] 150);have x2:=au.new W1 #[.int .i64 0,.slice none 0 0] 150;have s2:(W1.alloc (.cells #[.int .i64 0,.slice none 0 0] 150)).heap.size=W1.heap.size+1:=by simp
 generalize Lx:W1.alloc (.cells #[.int .i64 0,.slice none 0 0] 150)=W2 at *;have q3:=ai W2 (.cells #[.int .i64 0,.slice none 0 0] 150);have x3:=au.new W2 #[.int .i64 0,.slice none 0 0] 150;have s3:(W2.alloc (.cells #[.int .i64 0,.slice none 0 0] 150)).heap.size=W2.heap.size+1:=by simp
 generalize M6:W2.alloc (.cells #[.int .i64 0,.slice none 0 0] 150)=W3 at *;have hq:=Below.next q1 (Below.next q2 q3);have zL:=ab ((x1.below q2).below q3);have nO:=ab (x2.below q3);have yX:=ab x3;have HQ:=ab hq;have HR:=ab (hr.below hq);have HE:=ab (hE.below hq);have HN:=ab hn;have HS:=ab (Hy _ l W3 cO (by omega) (hr.below hq))
 have jb:Hid (W3.heap.size=w.heap.size+3∧W2.heap.size=w.heap.size+2∧W1.heap.size=w.heap.size+1):=by show _∧_∧_;omega
 have p1:=zL.out.c1;have JN:Hid ((mj l).length≤17592186044416):=by show _≤_;rw [qZ];omega
 clear q1 q2 q3 x1 x2 x3 s1 s2 s3 hr hE cO hn hq;go_enter func170,ntmps170;go_wp2_with fail;refine HS.out.mono ?_
 rintro e w1 ⟨u,rfl,hint,aM⟩;have HC:=ab (KF A u (mj l) w1 JN.out hint (HE.out.below aM).1);have bN:=ab aM;clear hint aM HS p1;go_wp2_with fail;refine HC.out.mono ?_
 rintro e w2 ⟨hv,aS⟩;obtain ⟨i,c,ev,rfl,tp,fQ⟩:=hv.num;have bG:=ab (Below.next bN.out aS);have HCN:=ab tp;have kL:=ab fQ;clear hv aS HC bN;have vQ:=nO.out.below bG.out;have ve:=yX.out.below bG.out;have sw:=zL.out.below bG.out;by_cases hc:c=0
 ·subst hc;have BU:=mr fQ;subst BU;obtain ⟨Cs,vm⟩:=tp.Xl;rw [qZ,← HN.out] at vm;have PV:i<l.length:=by have:=HN.out;omega
  have iF:=HR.out.below bG.out;obtain ⟨g,o,rfl,d1,d2⟩:=iF.spot i PV;have j0:(0:Int)≤(i:Int):=by omega
  have j1:(i:Int)<(n:Int):=by omega
  obtain ⟨p,hp⟩ : ∃ p,p=l[i]:=⟨_,rfl⟩;rw [← hp] at d1 d2;have p1:=sw.c1;have HI:Hid (∃ h:i<l.length,p=l[i]):=⟨PV,hp⟩;have hi3:i≤n:=by omega
  have vg:=fun W=>YK W (some ⟨g,o,none⟩) n c1 i (by omega)
  obtain ⟨q,hq⟩ : ∃ q,q=i+1:=⟨_,rfl⟩;obtain ⟨a2,Tq,qC⟩:=iF.drop (m:=q) (by omega)
  have HQI:=ab hq;have vR:IntKind.i64.wrap ((i:Int)+1)=(q:Int):=by rw [IntKind.wrap_i64];omega
  have hqn:(q:Int)≤(n:Int):=by omega
  have RF:(0:Int)≤(q:Int):=by omega
  have MX:=iF.take (m:=i) (by omega)
  have MI:=ab Tq;have Ng:=ab MX;have VH:=ab sw;have HH2:=ab vQ;have HH3:=ab ve;clear hp hq iF Tq MX tp fQ sw vQ ve PV Cs vm;go_wp2_with fail;have q4:=ai w2 (.cells #[.string p.1,.int .i64 p.2] 179);have x4:=au.new w2 #[.string p.1,.int .i64 p.2] 179;have s4:(w2.alloc (.cells #[.string p.1,.int .i64 p.2] 179)).heap.size=w2.heap.size+1:=by simp
  generalize w2.alloc (.cells #[.string p.1,.int .i64 p.2] 179)=W4 at *;have vZ:=ab x4;have MJ:=ab q4;have y1:=VH.out.below q4;have k0:=y1.c0;have k1:=y1.c1;have q5:=ai W4 (.cells #[.int .i64 0,.slice none 0 0] 150);have x5:=au.new W4 #[.int .i64 0,.slice none 0 0] 150;have s5:(W4.alloc (.cells #[.int .i64 0,.slice none 0 0] 150)).heap.size=W4.heap.size+1:=by simp
  generalize hW5:W4.alloc (.cells #[.int .i64 0,.slice none 0 0] 150)=W5 at *;have zK:=ab x5;have Fw:=ab q5;have z0:=(y1.below q5).c0;have z1:=(y1.below q5).c1;have sG:Hid (W4.heap.size=w2.heap.size+1∧W5.heap.size=W4.heap.size+1∧w.heap.size+3≤w2.heap.size):=by show _∧_∧_;have:=jb.out;have:=bG.out.size;omega
  have b1:¬ w.heap.size=W4.heap.size:=by have:=sG.out;omega
  have b2:¬ W4.heap.size=w.heap.size:=by have:=sG.out;omega
  have R8:Hid (∀ W,Below W4.heap.size W4 W→Calls prog 209 #[.slice (some ⟨g,o,none⟩) i c1] W fun e w'=>∃ ua uc,e = .returned (.slice ua i uc)∧b7 w' W.heap.size (.slice ua i uc) (l.take i)∧Below W.heap.size W w'):=fun W h=>by
   have bK:(l.take i).length=i:=by rw [ag];have:=HN.out;omega
   refine (eU _ (l.take i) W (by rw [bK];omega) ((Ng.out.below q4).below h)).mono ?_
   rintro e w' ⟨u,rfl,ho,hb⟩;obtain ⟨ua,uc,hu⟩:=ho.form;rw [bK] at hu;subst hu;exact ⟨ua,uc,rfl,ho,hb⟩
  clear d1 d2 p1 q4 x4 y1 q5 x5 s4 s5;go_region_held3 (fun w'=>w'.cell? ⟨w.heap.size,0,none⟩=some (.int .i64 f)∧w'.cell? ⟨w.heap.size,1,none⟩=some (.slice (some ⟨g,o,none⟩) n c1)) (go_keep)
   (first
    | (go_at_call 209;refine (R8.out _ ?_).mono ?_;(first | exact (Below.refl _ _).drew | exact Fw.out.drew);rintro e w5 ⟨ua,uc,rfl,ho,hb⟩;have HO5:=ab ho;have iu:=ab hb;have m0:w5.cell? ⟨w.heap.size,0,none⟩=some (.int .i64 f):=(by first | exact (((VH.out.below MJ.out).below Fw.out).drew.below hb).c0 | exact ((VH.out.below MJ.out).drew.below hb).c0);have m1:w5.cell? ⟨w.heap.size,1,none⟩=some (.slice (some ⟨g,o,none⟩) n c1):=(by first | exact (((VH.out.below MJ.out).below Fw.out).drew.below hb).c1 | exact ((VH.out.below MJ.out).drew.below hb).c1);try (have m2:=(zK.out.drew.below hb).c0;have m3:=(zK.out.drew.below hb).c1;have m4:=(zK.out.drew.below hb).free 0;have m5:=(zK.out.drew.below hb).free 1);have m6:=World.new_ne w5 _ m0;clear ho hb))
  all_goals first
   | (have hx:=au.new w5 #[.int .i64 f,.slice ua i uc] 150
      have hq:=ai w5 (.cells #[.int .i64 f,.slice ua i uc] 150);have WW:Below W4.heap.size W4 (w5.alloc (.cells #[.int .i64 f,.slice ua i uc] 150)):=Below.next (du iu.out) hq;have Ww:b7 (w5.alloc (.cells #[.int .i64 f,.slice ua i uc] 150)) W4.heap.size (.slice ua i uc) (l.take i):=HO5.out.below hq;have G1:W4.heap.size≤w5.heap.size:=iu.out.size;generalize w5.alloc (.cells #[.int .i64 f,.slice ua i uc] 150)=W7 at *;obtain ⟨B9,Qi⟩ : ∃ B,B=w5.heap.size:=⟨_,rfl⟩;rw [← Qi] at hx G1 ⊢;have abG:=ab G1;clear hq)
   | (have hx:=((zK.out.drew.below iu.out).two (.int .i64 f) (.slice ua i uc))
      have WW:Below W4.heap.size W4 ((w5.setCell ⟨W4.heap.size,0,none⟩ (.int .i64 f)).setCell ⟨W4.heap.size,1,none⟩ (.slice ua i uc)):=b9 (Below.next Fw.out (du iu.out)) (aj _);have Ww:b7 ((w5.setCell ⟨W4.heap.size,0,none⟩ (.int .i64 f)).setCell ⟨W4.heap.size,1,none⟩ (.slice ua i uc)) W4.heap.size (.slice ua i uc) (l.take i):=(HO5.out.xh (g:=W4.heap.size) (by have:=sG.out;show W4.heap.size<W5.heap.size;omega) (.int .i64 f) (.slice ua i uc)).mono (by have:=sG.out;show W4.heap.size≤W5.heap.size;omega)
      generalize (w5.setCell ⟨W4.heap.size,0,none⟩ (.int .i64 f)).setCell ⟨W4.heap.size,1,none⟩ (.slice ua i uc)=W7 at *;obtain ⟨B9,Qi⟩ : ∃ B,B=W4.heap.size:=⟨_,rfl⟩;rw [← Qi] at hx ⊢;have abG:Hid (W4.heap.size≤B9):=(by rw [Qi];exact aj _))
  all_goals
   have HX7:=ab hx;have Im:=ab WW;have HO7:=ab Ww;clear hx WW Ww Qi
  all_goals
   try clear G1
   try clear m2 m3 m4 m5
   try clear m6
   clear m0 m1 R8 b1 b2 z0 z1 k0 k1 vg HO5 iu zK Fw hW5 sG;have d1:=((vZ.out).below Im.out).c0;have d2:=((vZ.out).below Im.out).c1;have y1:=((VH.out.below MJ.out).below Im.out);have k1:=y1.c1;have q5:=ai W7 (.cells #[.int .i64 0,.slice none 0 0] 150);have x5:=au.new W7 #[.int .i64 0,.slice none 0 0] 150;have s5:(W7.alloc (.cells #[.int .i64 0,.slice none 0 0] 150)).heap.size=W7.heap.size+1:=by simp
   generalize hW8:W7.alloc (.cells #[.int .i64 0,.slice none 0 0] 150)=W8 at *;have Yi:=ab x5;have HQ8:=ab q5;have z0:=(((vZ.out).below Im.out).below q5).c1;have z1:=(y1.below q5).c1;have Xp:Hid (W8.heap.size=W7.heap.size+1∧w.heap.size+3≤w2.heap.size∧w2.heap.size<W7.heap.size):=by show _∧_∧_;have:=jb.out;have:=bG.out.size;have:=(vZ.out.below Im.out).lt;omega
   have b1:¬ w.heap.size=W7.heap.size:=by have:=Xp.out;omega
   have b2:¬ W7.heap.size=w.heap.size:=by have:=Xp.out;omega
   have b3:¬ w2.heap.size=W7.heap.size:=by have:=Xp.out;omega
   have b4:¬ W7.heap.size=w2.heap.size:=by have:=Xp.out;omega
   have Nn:Hid (∀ W,Below W7.heap.size W7 W→Calls prog 209 #[.slice a2 (n - q) (c1 - q)] W fun e w'=>∃ va vc,e = .returned (.slice va (n - q) vc)∧b7 w' W.heap.size (.slice va (n - q) vc) (l.drop q)∧Below W.heap.size W w'):=fun W h=>by
    have bK:(l.drop q).length=n - q:=by rw [ao];have:=HN.out;have:=HQI.out;omega
    refine (eU _ (l.drop q) W (by rw [bK];omega) (((MI.out.below MJ.out).below Im.out).below h)).mono ?_
    rintro e w' ⟨u,rfl,ho,hb⟩;obtain ⟨ua,uc,hu⟩:=ho.form;rw [bK] at hu;subst hu;exact ⟨ua,uc,rfl,ho,hb⟩
   generalize n - q=nr at *;generalize c1 - q=cr at *;clear q5 x5 y1 s5;go_wp2_with fail;go_region_held3 (fun w'=>w'.cell? ⟨w2.heap.size,1,none⟩=some (.int .i64 p.2)∧w'.cell? ⟨w.heap.size,1,none⟩=some (.slice (some ⟨g,o,none⟩) n c1)) (go_keep)
    (first
     | (go_at_call 209;refine (Nn.out _ ?_).mono ?_;(first | exact (Below.refl _ _).drew | exact HQ8.out.drew);rintro e w8 ⟨va,vc,rfl,ho,hb⟩;have HO8:=ab ho;have HB8:=ab hb;have m0:w8.cell? ⟨w2.heap.size,1,none⟩=some (.int .i64 p.2):=(by first | exact (((vZ.out.below Im.out).below HQ8.out).drew.below hb).c1 | exact ((vZ.out.below Im.out).drew.below hb).c1);have m1:w8.cell? ⟨w.heap.size,1,none⟩=some (.slice (some ⟨g,o,none⟩) n c1):=(by first | exact ((((VH.out.below MJ.out).below Im.out).below HQ8.out).drew.below hb).c1 | exact (((VH.out.below MJ.out).below Im.out).drew.below hb).c1);try (have m2:=(Yi.out.drew.below hb).c0;have m3:=(Yi.out.drew.below hb).c1;have m4:=(Yi.out.drew.below hb).free 0;have m5:=(Yi.out.drew.below hb).free 1);have m6:=World.new_ne w8 _ m0;have m7:=World.new_ne w8 _ m1;clear ho hb))
  all_goals first
   | (have hx:=au.new w8 #[.int .i64 p.2,.slice va nr vc] 150
      have hq:=ai w8 (.cells #[.int .i64 p.2,.slice va nr vc] 150);have WW:Below W7.heap.size W7 (w8.alloc (.cells #[.int .i64 p.2,.slice va nr vc] 150)):=Below.next (du HB8.out) hq;have Ww:b7 (w8.alloc (.cells #[.int .i64 p.2,.slice va nr vc] 150)) W7.heap.size (.slice va nr vc) (l.drop q):=HO8.out.below hq;have G1:W7.heap.size≤w8.heap.size:=HB8.out.size;generalize w8.alloc (.cells #[.int .i64 p.2,.slice va nr vc] 150)=W9 at *;obtain ⟨UF,Qi⟩ : ∃ B,B=w8.heap.size:=⟨_,rfl⟩;rw [← Qi] at hx G1 ⊢;have abF:=ab G1;clear hq)
   | (have hx:=((Yi.out.drew.below HB8.out).two (.int .i64 p.2) (.slice va nr vc))
      have WW:Below W7.heap.size W7 ((w8.setCell ⟨W7.heap.size,0,none⟩ (.int .i64 p.2)).setCell ⟨W7.heap.size,1,none⟩ (.slice va nr vc)):=b9 (Below.next HQ8.out (du HB8.out)) (aj _);have Ww:b7 ((w8.setCell ⟨W7.heap.size,0,none⟩ (.int .i64 p.2)).setCell ⟨W7.heap.size,1,none⟩ (.slice va nr vc)) W7.heap.size (.slice va nr vc) (l.drop q):=(HO8.out.xh (g:=W7.heap.size) (by have:=Xp.out;show W7.heap.size<W8.heap.size;omega) (.int .i64 p.2) (.slice va nr vc)).mono (by have:=Xp.out;show W7.heap.size≤W8.heap.size;omega)
      generalize (w8.setCell ⟨W7.heap.size,0,none⟩ (.int .i64 p.2)).setCell ⟨W7.heap.size,1,none⟩ (.slice va nr vc)=W9 at *;obtain ⟨UF,Qi⟩ : ∃ B,B=W7.heap.size:=⟨_,rfl⟩;rw [← Qi] at hx ⊢;have abF:Hid (W7.heap.size≤UF):=(by rw [Qi];exact aj _))
  all_goals
   have HX9:=ab hx;have Yz:=ab WW;have HO9:=ab Ww;clear hx WW Ww Qi
  all_goals
   try clear G1
   try clear m2 m3 m4 m5
   try clear m6 m7
   clear m0 m1 Nn b1 b2 b3 b4 z0 z1 k1 d1 d2 qC HO8 HB8 Yi HQ8 hW8;have y9:=HX7.out.below Yz.out;have y8:=(vZ.out.below Im.out).below Yz.out;have y1:=(((HH2.out.below MJ.out).below Im.out).below Yz.out);have y2:=(((HH3.out.below MJ.out).below Im.out).below Yz.out);have e1:=y9.c0;have e2:=y9.c1;have e3:=y8.c0;have e4:=HX9.out.c0;have e5:=HX9.out.c1;have e6:=y1.c0;have e7:=y1.c1;have e8:=y2.c0;have e9:=y2.c1;have f1:=y1.free 0;have f2:=y1.free 1;have f3:=y2.free 0;have f4:=y2.free 1;have mW:Hid (W1.heap.size=w.heap.size+1∧W2.heap.size=w.heap.size+2∧w.heap.size+3≤w2.heap.size∧w.heap.size+3≤B9∧w.heap.size+3≤UF∧w.heap.size+3≤W4.heap.size∧w.heap.size+3≤W7.heap.size):=by
    have h1:=jb.out;have h2:=abG.out;have h3:=abF.out;have h4:=MJ.out.size;have h5:=Im.out.size;have h6:=Xp.out;exact ⟨h1.2.2,h1.2.1,h6.2.1,by omega,by omega,by omega,by omega⟩
   have g1:¬ B9=W1.heap.size:=by have:=mW.out;omega
   have g2:¬ W1.heap.size=B9:=by have:=mW.out;omega
   have g3:¬ B9=W2.heap.size:=by have:=mW.out;omega
   have g4:¬ W2.heap.size=B9:=by have:=mW.out;omega
   have g5:¬ UF=W1.heap.size:=by have:=mW.out;omega
   have g6:¬ W1.heap.size=UF:=by have:=mW.out;omega
   have g7:¬ UF=W2.heap.size:=by have:=mW.out;omega
   have g8:¬ W2.heap.size=UF:=by have:=mW.out;omega
   have g9:¬ w2.heap.size=W1.heap.size:=by have:=mW.out;omega
   have g10:¬ W1.heap.size=w2.heap.size:=by have:=mW.out;omega
   have g11:¬ w2.heap.size=W2.heap.size:=by have:=mW.out;omega
   have g12:¬ W2.heap.size=w2.heap.size:=by have:=mW.out;omega
   have g13:¬ W1.heap.size=W2.heap.size:=by have:=mW.out;omega
   have g14:¬ W2.heap.size=W1.heap.size:=by have:=mW.out;omega
   have HY1:=ab y1;have HY2:=ab y2;clear y9 y8 y1 y2;go_wp2_with fail;go_region_held3 (fun w'=>w'.cell? ⟨B9,0,none⟩=some (.int .i64 f)∧w'.cell? ⟨B9,1,none⟩=some (.slice ua i uc)∧w'.cell? ⟨w2.heap.size,0,none⟩=some (.string p.1)∧w'.cell? ⟨UF,0,none⟩=some (.int .i64 p.2)∧w'.cell? ⟨UF,1,none⟩=some (.slice va nr vc)) (go_keep) (fail)
  all_goals
   have r2:au (((((W9.setCell ⟨W1.heap.size,0,none⟩ (.int .i64 f)).setCell ⟨W1.heap.size,1,none⟩ (.slice ua i uc)).setCell ⟨W2.heap.size,0,none⟩ (.int .i64 p.2)).setCell ⟨W2.heap.size,1,none⟩ (.slice va nr vc))) W1.heap.size #[.int .i64 f,.slice ua i uc] 150:=((HY1.out.two _ _).other g13 _).other g13 _;have r3:au (((((W9.setCell ⟨W1.heap.size,0,none⟩ (.int .i64 f)).setCell ⟨W1.heap.size,1,none⟩ (.slice ua i uc)).setCell ⟨W2.heap.size,0,none⟩ (.int .i64 p.2)).setCell ⟨W2.heap.size,1,none⟩ (.slice va nr vc))) W2.heap.size #[.int .i64 p.2,.slice va nr vc] 150:=((HY2.out.other g14 _).other g14 _).two _ _;clear e1 e2 e3 e4 e5 e6 e7 e8 e9 f1 f2 f3 f4;go_wp2_with fail;have o1:=((HO7.out.below Yz.out).xh (g:=W1.heap.size) (by have:=mW.out;omega) (.int .i64 f) (.slice ua i uc)).xh (g:=W2.heap.size) (by have:=mW.out;omega) (.int .i64 p.2) (.slice va nr vc)
   have o2:=(HO9.out.xh (g:=W1.heap.size) (by have:=mW.out;omega) (.int .i64 f) (.slice ua i uc)).xh (g:=W2.heap.size) (by have:=mW.out;omega) (.int .i64 p.2) (.slice va nr vc)
   refine bodyPost_ret (pX rfl _ _ W1.heap.size W2.heap.size 150 150 _ _ (0,0) (0,0) _ _ rfl rfl r2.drew r3.drew underlying150 underlying150 rfl rfl (by kernel_rfl) (by kernel_rfl)) rfl ⟨⟨i,0,p.1,f,p.2,.slice ua i uc,.slice va nr vc,_,rfl,HCN.out,kL.out,.inl ⟨rfl,?_,?_,?_,?_⟩⟩,?_⟩
   ·obtain ⟨h,he⟩:=HI.out;exact ⟨h,rfl,by rw [he],by rw [he]⟩
   ·exact (o1.mono (by have:=mW.out;omega)).drew
   ·rw [← HQI.out];exact (o2.mono (by have:=mW.out;omega)).drew
   ·intro k h1 h2;have a1:=HO7.out.dF k h1;have a2:=HO9.out.dF k h2;omega
   ·exact aK (b9 (b9 (Below.next HQ.out (Below.next bG.out (Below.next MJ.out (Below.next Im.out Yz.out)))) (by have:=mW.out;omega)) (by have:=mW.out;omega))
 ·obtain ⟨k,rfl⟩:=sX fQ hc;have Et:=fun W=>fh (some (A k)) W
  have HCZ:=ab hc;have r1:=vQ.c0;have r2:=vQ.c1;have r3:=ve.c0;have r4:=ve.c1;have z1:=vQ.free 0;have z2:=vQ.free 1;have z3:=ve.free 0;have z4:=ve.free 1;have b1:¬ W1.heap.size=W2.heap.size:=by have:=jb.out;omega
  have b2:¬ W2.heap.size=W1.heap.size:=by have:=jb.out;omega
  have aes:=ab vQ;have aer:=ab ve;clear tp fQ hc sw vQ ve;go_wp2_with fail;have e2:au (((((w2.setCell ⟨W1.heap.size,0,none⟩ (.int .i64 0)).setCell ⟨W1.heap.size,1,none⟩ (.slice none 0 0)).setCell ⟨W2.heap.size,0,none⟩ (.int .i64 0)).setCell ⟨W2.heap.size,1,none⟩ (.slice none 0 0))) W1.heap.size #[.int .i64 0,.slice none 0 0] 150:=((aes.out.two _ _).other b1 _).other b1 _;have e3:au (((((w2.setCell ⟨W1.heap.size,0,none⟩ (.int .i64 0)).setCell ⟨W1.heap.size,1,none⟩ (.slice none 0 0)).setCell ⟨W2.heap.size,0,none⟩ (.int .i64 0)).setCell ⟨W2.heap.size,1,none⟩ (.slice none 0 0))) W2.heap.size #[.int .i64 0,.slice none 0 0] 150:=((aer.out.other b2 _).other b2 _).two _ _;refine bodyPost_ret (pX rfl _ _ W1.heap.size W2.heap.size 150 150 _ _ (0,0) (0,0) _ _ rfl rfl e2 e3 underlying150 underlying150 rfl rfl (by kernel_rfl) (by kernel_rfl)) rfl ⟨⟨i,c,_,0,0,_,_,_,rfl,HCN.out,kL.out,.inr ⟨HCZ.out,rfl,rfl,rfl,rfl,rfl⟩⟩,?_⟩
  exact b9 (b9 (Below.next HQ.out bG.out) (by have:=jb.out;omega)) (by have:=jb.out;omega)
end B
namespace T
open Go.RowKit
theorem NL(l:List B.Lk):iO (l.map (·.1))=B.mj l:=by
 simp [iO,B.mj,B.yT]
theorem SR(A:Nat→Addr)(b:Nat)(n:SN)(pv lv cv:Value)(w:World)(h:dQ w b n pv lv cv)(h0:¬ n.us.length=0)(hlen:n.us.length=n.lk.length+1)(h3:3≤n.lk.length)(hE:jS A w):Calls prog 129 #[.pointer (some ⟨b,0,none⟩)] w fun e w'=>∃ (i:Nat) (k:ByteArray) (f2:Int),dq (jq (iO (n.lk.map (·.1)))) ((iO (n.lk.map (·.1))).length - 2) i∧(∃ x,n.lk[i]?=some (k,x))∧yN w ⟨[],n.f,n.lk.take i,n.us.take (i+1)⟩ k ⟨[],f2,n.lk.drop (i+1),n.us.drop (i+1)⟩ e w':=by
 have HL:=ab (cB b n pv lv cv w h);rw [show decide (n.us.length=0)=false by simp [h0]] at HL
 have yQ:Hid (Calls prog 170 #[.agg #[.int .i64 n.f,lv]] w fun e w'=>∃ (i:Nat) (k:ByteArray) (f2:Int) (mT su:Option Addr) (mS mi:Nat),e = .returned (.tuple #[.agg #[.int .i64 n.f,.slice mT i mS],.string k,.agg #[.int .i64 f2,.slice su (n.lk.length - (i+1)) mi],.nilIface])∧dq (jq (iO (n.lk.map (·.1)))) ((iO (n.lk.map (·.1))).length - 2) i∧(∃ x,n.lk[i]?=some (k,x))∧(1≤i∧i+2≤n.lk.length)∧B.di w' (.slice mT i mS) (n.lk.take i)∧B.di w' (.slice su (n.lk.length - (i+1)) mi) (n.lk.drop (i+1))∧Below w.heap.size w w'):=by
  refine (B.Q1 A n.f lv n.lk w h.ui (by have:=h.fine.2.2.2.1;omega) h.bh hE).mono fun e w' hh=>?_
  obtain ⟨⟨i,cc,key,f1,f2,u1,u2,ev,h1,tp,fQ,fI⟩,hb⟩:=hh;have PQ:(B.mj n.lk).length=n.lk.length:=by simp [B.mj]
  have P1:iq (B.mj n.lk):=fun j hj=>by
   have lY:j<n.lk.length:=by rw [← PQ];exact hj
   have:=h.fine.2.2.1 n.lk[j] (aI lY);unfold cP at this;simp only [B.mj,bT];unfold B.yT;omega
  rcases tp with ⟨g1,_,_⟩ | ⟨_,g1,_⟩ | ⟨_,_,oJ,yn⟩
  ·rw [PQ] at g1;omega
  ·exact absurd P1 g1
  ·subst yn;rcases fI with ⟨_,⟨hi,rfl,rfl,rfl⟩,o1,o2,_⟩ | ⟨dH,_⟩
   ·have BU:=mr fQ;subst BU;have Lq:=oJ.1;rw [PQ] at Lq;obtain ⟨a1,c1,e1⟩:=o1.form;obtain ⟨a2,c2,e2⟩:=o2.form;subst e1 e2;have l1:(n.lk.take i).length=i:=by rw [ag];omega
    have l2:(n.lk.drop (i+1)).length=n.lk.length - (i+1):=by rw [ao]
    have p1:=o1.at;have p2:=o2.at;rw [l1] at h1 p1;rw [l2] at h1 p2;refine ⟨i,_,_,a1,a2,c1,c2,h1,?_,⟨_,af hi⟩,⟨by omega,by omega⟩,p1,p2,hb⟩
    rw [NL];exact oJ
   ·exact absurd rfl dH
 have p1:=h.c1;have p2:=h.c2;have HH:=ab h;have kQ:=ab hlen;obtain ⟨ca,cc,yl⟩:=h.kids.form;subst yl;have cT:n.us.length≤cc:=by
  obtain ⟨_,_,he,hle,_⟩:=h.kids;simp only [Value.slice.injEq] at he;obtain ⟨-,-,rfl⟩:=he;rw [C.et] at hle;exact hle
 obtain ⟨m,hm⟩ : ∃ m,m=n.us.length:=⟨_,rfl⟩;have Hm:=ab hm;have afi:=ab cT;clear hm cT;clear h h0 hE h3 hlen;go_enter func129,ntmps129;go_wp2_with fail;refine HL.out.mono ?_
 rintro e w1 ⟨rfl,rfl⟩;clear HL;go_wp2_with fail;refine yQ.out.mono ?_
 rintro e w2 ⟨I,k,f2,mT,su,mS,mi,rfl,oJ,hkx,Lq,fU,iF,aS⟩;obtain ⟨M,hM⟩ : ∃ M,M=n.lk.length - (I+1):=⟨_,rfl⟩;rw [← hM] at iF ⊢;have FO:=ab hM;clear hM;have qa:=ai w2 (.cells #[.int .i64 n.f,.slice mT I mS] 150);have qb:=ai (w2.alloc (.cells #[.int .i64 n.f,.slice mT I mS] 150)) (.cells #[.int .i64 f2,.slice su M mi] 150);have xa:=(B.au.new w2 #[.int .i64 n.f,.slice mT I mS] 150).below qb;have xb:=B.au.new (w2.alloc (.cells #[.int .i64 n.f,.slice mT I mS] 150)) #[.int .i64 f2,.slice su M mi] 150;have sb:(w2.alloc (.cells #[.int .i64 n.f,.slice mT I mS] 150)).heap.size=w2.heap.size+1:=by simp
 rw [sb] at xb;have vr:=ab xa;have Rg:=ab xb;have iY:=ab (Below.next (Below.next aS qa) qb);have nT:=ab ((fU.below qa).below qb);have oT:=ab ((iF.below qa).below qb);have Bd:=ab oJ;have HKX:=ab hkx;have Nl:=ab Lq;clear yQ p1 p2 oJ hkx Lq fU iF aS qa qb xa xb sb;obtain ⟨H,hH⟩ : ∃ H,H=I+1:=⟨_,rfl⟩;obtain ⟨K,hK⟩ : ∃ K,K=m - H:=⟨_,rfl⟩;have hwH:IntKind.i64.wrap ((I:Int)+1)=(H:Int):=by have:=Nl.out;have:=HH.out.fine.2.2.2.1;rw [IntKind.wrap_i64];omega
 have HHM:Hid (H≤m∧1≤K):=by
  have h1:=Nl.out;have h2:=kQ.out;have h3:=Hm.out;exact ⟨by omega,by omega⟩
 have HHI:=ab hH;have Nj:=ab hK;clear hH hK;go_upto_region 6 with fail
 have hH:=HHI.out;have hK:=Nj.out;have hM:=FO.out;have hm:=Hm.out;have hHm:=HHM.out;have cT:=afi.out;generalize (w2.alloc (.cells #[.int .i64 n.f,.slice mT I mS] 150)).alloc (.cells #[.int .i64 f2,.slice su M mi] 150)=W4 at *;obtain ⟨kb,WH⟩ : ∃ x,x=w2.heap.size+1:=⟨_,rfl⟩;obtain ⟨ka,X6⟩ : ∃ x,x=w2.heap.size:=⟨_,rfl⟩;rw [← WH] at Rg ⊢;rw [← X6] at vr ⊢;clear WH X6;have uA:C.di W4 (.slice ca n.us.length cc) n.us:=(HH.out.below iY.out).kids;obtain ⟨da,P2,qC⟩:=uA.drop (m:=H) (by omega)
 have mf:=uA.take (m:=H) (by omega)
 have vg:=fun W=>C.YM W ca n.us.length cc H (by omega)
 have YY:(n.us.take H).length=H:=by rw [ag];omega
 have YZ:(n.us.drop H).length=K:=by rw [ao];omega
 have hmK:n.us.length - H=K:=by omega
 rw [hmK] at P2 qC;have R8:Hid (∀ W,Below W4.heap.size W4 W→Calls prog 164 #[.slice ca H cc] W fun e w'=>∃ (g c:Nat),e = .returned (.slice (some ⟨g,0,none⟩) H c)∧C.di w' (.slice (some ⟨g,0,none⟩) H c) (n.us.take H)∧Below W.heap.size W w'):=fun W hW=>by
  refine (C.eU _ (n.us.take H) W (by rw [YY];have:=HH.out.fine.2.2.2.2;omega) (mf.below hW)).mono fun e w' ⟨u,h1,h2,h3⟩=>?_
  obtain ⟨g,c,hu,_,_⟩:=rS h2 (by rw [YY];omega)
  subst hu;rw [YY] at h1 h2;exact ⟨g,c,h1,h2.at,h3⟩
 have Nn:Hid (∀ W,Below W4.heap.size W4 W→Calls prog 164 #[.slice da K (cc - H)] W fun e w'=>∃ (g c:Nat),e = .returned (.slice (some ⟨g,0,none⟩) K c)∧C.di w' (.slice (some ⟨g,0,none⟩) K c) (n.us.drop H)∧Below W.heap.size W w'):=fun W hW=>by
  refine (C.eU _ (n.us.drop H) W (by rw [YZ];have:=HH.out.fine.2.2.2.2;omega) (P2.below hW)).mono fun e w' ⟨u,h1,h2,h3⟩=>?_
  obtain ⟨g,c,hu,_,_⟩:=rS h2 (by rw [YZ];omega)
  subst hu;rw [YZ] at h1 h2;exact ⟨g,c,h1,h2.at,h3⟩
 have sm:Hid ((∀ p ∈ n.lk.take I,cP p.1)∧(n.lk.take I).length≤4000∧(n.us.take H).length≤4001∧(∀ p ∈ n.lk.drop H,cP p.1)∧(n.lk.drop H).length≤4000∧(n.us.drop H).length≤4001):=by
  have hf:=HH.out.fine;exact ⟨fun p hp=>hf.2.2.1 p (bn hp),by rw [ag];omega,by rw [YY];omega,fun p hp=>hf.2.2.1 p (bH hp),by rw [ao];omega,by rw [YZ];omega⟩
 rw [← hH] at oT;have k3:=(HH.out.below iY.out).c3;have kA0:=vr.out.c0;have kA1:=vr.out.c1;have kB0:=Rg.out.c0;have kB1:=Rg.out.c1;have Rm:Hid (∀ W,Below W4.heap.size W4 W→(W.cell? ⟨b,3,none⟩=some (.slice ca n.us.length cc)∧W.cell? ⟨ka,0,none⟩=some (.int .i64 n.f)∧W.cell? ⟨ka,1,none⟩=some (.slice mT I mS)∧W.cell? ⟨kb,0,none⟩=some (.int .i64 f2)∧W.cell? ⟨kb,1,none⟩=some (.slice su M mi))∧¬ b=W.heap.size∧¬ ka=W.heap.size∧¬ kb=W.heap.size):=fun W hW=>⟨⟨(HH.out.below (Below.next iY.out hW)).c3,(vr.out.below hW).c0,(vr.out.below hW).c1,(Rg.out.below hW).c0,(Rg.out.below hW).c1⟩,by have:=(HH.out.below iY.out).row.lt;have:=hW.size;omega,by have:=vr.out.lt;have:=hW.size;omega,by have:=Rg.out.lt;have:=hW.size;omega⟩
 have hHI:(H:Int)≤(cc:Int):=by omega
 have hH0:(0:Int)≤(H:Int):=by omega
 clear hH hK hM hHm cT P2 mf YY YZ uA hmK hm;go_region_held3 (fun w'=>w'.cell? ⟨b,3,none⟩=some (.slice ca n.us.length cc)∧w'.cell? ⟨ka,0,none⟩=some (.int .i64 n.f)∧w'.cell? ⟨ka,1,none⟩=some (.slice mT I mS)∧w'.cell? ⟨kb,0,none⟩=some (.int .i64 f2)∧w'.cell? ⟨kb,1,none⟩=some (.slice su M mi)) (go_keep)
  (first
   | (go_at_call_of 164 (Value.slice ca H cc);refine (R8.out _ ?_).mono ?_;(first | exact Bb.out | exact Below.next Bb.out (ai w6 (.cells #[.slice none 0 0,.int .i64 f2,.slice su M mi,.slice (some ⟨g6,0,none⟩) K c6] 155)) | exact (Below.refl _ _).drew);rintro e w5 ⟨g5,c5,rfl,ho,hb⟩;have yO:Hid (Below W4.heap.size W4 w5):=(by first | exact Below.next Bb.out hb | exact Below.next (Below.next Bb.out (ai w6 (.cells #[.slice none 0 0,.int .i64 f2,.slice su M mi,.slice (some ⟨g6,0,none⟩) K c6] 155))) hb | exact B.du hb);have XF:=ab ho;(try (have Ni:=ab (Ni.out.below hb)));(try (have Ni:=ab ((Ni.out.below (ai w6 (.cells #[.slice none 0 0,.int .i64 f2,.slice su M mi,.slice (some ⟨g6,0,none⟩) K c6] 155))).below hb)));(try (have HXO:=ab ((B.au.new w6 #[.slice none 0 0,.int .i64 f2,.slice su M mi,.slice (some ⟨g6,0,none⟩) K c6] 155).below hb)));obtain ⟨⟨m1,m2,m3,m4,m5⟩,m6,m7,m8⟩:=Rm.out _ yO.out;clear ho hb)
   | (go_at_call_of 164 (Value.slice da K (cc - H));refine (Nn.out _ ?_).mono ?_;(first | exact yO.out | exact Below.next yO.out (ai w5 (.cells #[.slice none 0 0,.int .i64 n.f,.slice mT I mS,.slice (some ⟨g5,0,none⟩) H c5] 155)) | exact (Below.refl _ _).drew);rintro e w6 ⟨g6,c6,rfl,ho,hb⟩;have Bb:Hid (Below W4.heap.size W4 w6):=(by first | exact Below.next yO.out hb | exact Below.next (Below.next yO.out (ai w5 (.cells #[.slice none 0 0,.int .i64 n.f,.slice mT I mS,.slice (some ⟨g5,0,none⟩) H c5] 155))) hb | exact B.du hb);have Ni:=ab ho;(try (have XF:=ab (XF.out.below hb)));(try (have XF:=ab ((XF.out.below (ai w5 (.cells #[.slice none 0 0,.int .i64 n.f,.slice mT I mS,.slice (some ⟨g5,0,none⟩) H c5] 155))).below hb)));(try (have HXO:=ab ((B.au.new w5 #[.slice none 0 0,.int .i64 n.f,.slice mT I mS,.slice (some ⟨g5,0,none⟩) H c5] 155).below hb)));obtain ⟨⟨m1,m2,m3,m4,m5⟩,m6,m7,m8⟩:=Rm.out _ Bb.out;clear ho hb))
 all_goals first
  | (have qb:=ai w6 (.cells #[.slice none 0 0,.int .i64 f2,.slice su M mi,.slice (some ⟨g6,0,none⟩) K c6] 155)
     have Fx:Hid (yN w ⟨[],n.f,n.lk.take I,n.us.take H⟩ k ⟨[],f2,n.lk.drop H,n.us.drop H⟩ (.returned (.tuple #[.pointer (some ⟨w5.heap.size,0,none⟩),.string k,.pointer (some ⟨w6.heap.size,0,none⟩)])) (w6.alloc (.cells #[.slice none 0 0,.int .i64 f2,.slice su M mi,.slice (some ⟨g6,0,none⟩) K c6] 155))):=⟨_,_,_,_,_,_,_,_,rfl,⟨HXO.out.below qb,gM.nil _,(nT.out.below Bb.out).below qb,XF.out.below qb,(fun p hp=>by simp at hp),by simp,sm.out.1,sm.out.2.1,sm.out.2.2.1⟩,⟨B.au.new w6 #[.slice none 0 0,.int .i64 f2,.slice su M mi,.slice (some ⟨g6,0,none⟩) K c6] 155,gM.nil _,(oT.out.below Bb.out).below qb,Ni.out.below qb,(fun p hp=>by simp at hp),by simp,sm.out.2.2.2.1,sm.out.2.2.2.2.1,sm.out.2.2.2.2.2⟩,Below.next (Below.next iY.out Bb.out) qb⟩
     clear qb HXO;go_wp2;go_ret3;exact ⟨I,k,f2,Bd.out,HKX.out,by rw [← HHI.out];first | exact Fx.out | exact Fx.out.drew⟩)
  | (have qa:=ai w6 (.cells #[.slice none 0 0,.int .i64 n.f,.slice mT I mS,.slice (some ⟨g5,0,none⟩) H c5] 155)
     have qb:=ai (w6.alloc (.cells #[.slice none 0 0,.int .i64 n.f,.slice mT I mS,.slice (some ⟨g5,0,none⟩) H c5] 155)) (.cells #[.slice none 0 0,.int .i64 f2,.slice su M mi,.slice (some ⟨g6,0,none⟩) K c6] 155);have xa:=(B.au.new w6 #[.slice none 0 0,.int .i64 n.f,.slice mT I mS,.slice (some ⟨g5,0,none⟩) H c5] 155).below qb;have xb:=B.au.new (w6.alloc (.cells #[.slice none 0 0,.int .i64 n.f,.slice mT I mS,.slice (some ⟨g5,0,none⟩) H c5] 155)) #[.slice none 0 0,.int .i64 f2,.slice su M mi,.slice (some ⟨g6,0,none⟩) K c6] 155;have sa:(w6.alloc (.cells #[.slice none 0 0,.int .i64 n.f,.slice mT I mS,.slice (some ⟨g5,0,none⟩) H c5] 155)).heap.size=w6.heap.size+1:=by simp
     rw [sa] at xb;have Fx:Hid (yN w ⟨[],n.f,n.lk.take I,n.us.take H⟩ k ⟨[],f2,n.lk.drop H,n.us.drop H⟩ (.returned (.tuple #[.pointer (some ⟨w6.heap.size,0,none⟩),.string k,.pointer (some ⟨w6.heap.size+1,0,none⟩)])) ((w6.alloc (.cells #[.slice none 0 0,.int .i64 n.f,.slice mT I mS,.slice (some ⟨g5,0,none⟩) H c5] 155)).alloc (.cells #[.slice none 0 0,.int .i64 f2,.slice su M mi,.slice (some ⟨g6,0,none⟩) K c6] 155))):=⟨_,_,_,_,_,_,_,_,rfl,⟨xa,gM.nil _,((nT.out.below Bb.out).below qa).below qb,(XF.out.below qa).below qb,(fun p hp=>by simp at hp),by simp,sm.out.1,sm.out.2.1,sm.out.2.2.1⟩,⟨xb,gM.nil _,((oT.out.below Bb.out).below qa).below qb,(Ni.out.below qa).below qb,(fun p hp=>by simp at hp),by simp,sm.out.2.2.2.1,sm.out.2.2.2.2.1,sm.out.2.2.2.2.2⟩,Below.next (Below.next (Below.next iY.out Bb.out) qa) qb⟩
     clear qa qb xa xb sa;go_wp2;go_ret3;exact ⟨I,k,f2,Bd.out,HKX.out,by rw [← HHI.out];first | exact Fx.out | exact Fx.out.drew⟩)
  | (have qa:=ai w6 (.cells #[.slice none 0 0,.int .i64 f2,.slice su M mi,.slice (some ⟨g6,0,none⟩) K c6] 155)
     have qb:=ai (w6.alloc (.cells #[.slice none 0 0,.int .i64 f2,.slice su M mi,.slice (some ⟨g6,0,none⟩) K c6] 155)) (.cells #[.slice none 0 0,.int .i64 n.f,.slice mT I mS,.slice (some ⟨g5,0,none⟩) H c5] 155);have xa:=(B.au.new w6 #[.slice none 0 0,.int .i64 f2,.slice su M mi,.slice (some ⟨g6,0,none⟩) K c6] 155).below qb;have xb:=B.au.new (w6.alloc (.cells #[.slice none 0 0,.int .i64 f2,.slice su M mi,.slice (some ⟨g6,0,none⟩) K c6] 155)) #[.slice none 0 0,.int .i64 n.f,.slice mT I mS,.slice (some ⟨g5,0,none⟩) H c5] 155;have sa:(w6.alloc (.cells #[.slice none 0 0,.int .i64 f2,.slice su M mi,.slice (some ⟨g6,0,none⟩) K c6] 155)).heap.size=w6.heap.size+1:=by simp
     rw [sa] at xb;have Fx:Hid (yN w ⟨[],n.f,n.lk.take I,n.us.take H⟩ k ⟨[],f2,n.lk.drop H,n.us.drop H⟩ (.returned (.tuple #[.pointer (some ⟨w6.heap.size+1,0,none⟩),.string k,.pointer (some ⟨w6.heap.size,0,none⟩)])) ((w6.alloc (.cells #[.slice none 0 0,.int .i64 f2,.slice su M mi,.slice (some ⟨g6,0,none⟩) K c6] 155)).alloc (.cells #[.slice none 0 0,.int .i64 n.f,.slice mT I mS,.slice (some ⟨g5,0,none⟩) H c5] 155))):=⟨_,_,_,_,_,_,_,_,rfl,⟨xb,gM.nil _,((nT.out.below Bb.out).below qa).below qb,(XF.out.below qa).below qb,(fun p hp=>by simp at hp),by simp,sm.out.1,sm.out.2.1,sm.out.2.2.1⟩,⟨xa,gM.nil _,((oT.out.below Bb.out).below qa).below qb,(Ni.out.below qa).below qb,(fun p hp=>by simp at hp),by simp,sm.out.2.2.2.1,sm.out.2.2.2.2.1,sm.out.2.2.2.2.2⟩,Below.next (Below.next (Below.next iY.out Bb.out) qa) qb⟩
     clear qa qb xa xb sa;go_wp2;go_ret3;exact ⟨I,k,f2,Bd.out,HKX.out,by rw [← HHI.out];first | exact Fx.out | exact Fx.out.drew⟩)
def SN.zo(n:SN):Prop:=n.us.length=0∨n.us.length=n.lk.length+1
def MR(n a:SN)(k:ByteArray)(b:SN):Prop :=
 (n.us.length=0∧∃ (i:Nat) (v:ByteArray),dq (jr (nQ n.ps)) ((nQ n.ps).length - 1) i∧n.ps[i]?=some (k,v)∧a=⟨n.ps.take i,0,[],[]⟩∧b=⟨n.ps.drop i,0,[],[]⟩) ∨
 (¬ n.us.length=0∧∃ (i:Nat) (f2:Int) (x:Int),dq (jq (iO (n.lk.map (·.1)))) ((iO (n.lk.map (·.1))).length - 2) i∧n.lk[i]?=some (k,x)∧a=⟨[],n.f,n.lk.take i,n.us.take (i+1)⟩∧b=⟨[],f2,n.lk.drop (i+1),n.us.drop (i+1)⟩)
theorem DL(A:Nat→Addr)(b:Nat)(n:SN)(pv lv cv:Value)(w:World)(h:dQ w b n pv lv cv)(hk:n.zo)(hb:4072<n.sz)(hE:jS A w):Calls prog 129 #[.pointer (some ⟨b,0,none⟩)] w fun e w'=>∃ a k c,MR n a k c∧yN w a k c e w':=by
 unfold SN.sz at hb;by_cases h0:n.us.length=0
 ·rw [if_pos h0] at hb;have h2:=vD h.fine.1;refine (KT A b n pv lv cv w h h0 (by omega) hE).mono fun e w' hh=>?_
  obtain ⟨i,k,v,h1,h2,h3⟩:=hh;exact ⟨_,k,_,.inl ⟨h0,i,v,h1,h2,rfl,rfl⟩,h3⟩
 ·rw [if_neg h0] at hb;have h2:=NM h.fine.2.2.1;have hlen:n.us.length=n.lk.length+1:=hk.resolve_left h0;refine (SR A b n pv lv cv w h h0 hlen (by omega) hE).mono fun e w' hh=>?_
  obtain ⟨i,k,f2,h1,⟨x,h2⟩,h3⟩:=hh;exact ⟨_,k,_,.inr ⟨h0,i,f2,x,h1,h2,rfl,rfl⟩,h3⟩
def mJ(w:World)(n:SN)(i bb:Nat)(nb:SN)(e:Ending)(w':World):Prop :=
 (¬ 4072<nb.sz∧RX w ⟨[],n.f,n.lk,n.us.set i (.nd bb)⟩ e w') ∨
 (4072<nb.sz∧∃ (a:SN) (k:ByteArray) (c:SN) (ba bc:Nat) (pa la ca pc lc cc:Value),MR nb a k c∧dQ w' ba a pa la ca∧dQ w' bc c pc lc cc∧RX w ⟨[],n.f,B.dJ n.lk i (k,0),C.dJ (n.us.set i (.nd ba)) (i+1) (.nd bc)⟩ e w')
theorem MR.key{n a c:SN}{k:ByteArray}(h:MR n a k c)(h1:∀ p ∈ n.ps,cN p=true)(h2:∀ p ∈ n.lk,cP p.1):cP k:=by
 rcases h with ⟨_,i,v,_,h3,_⟩ | ⟨_,i,_,x,_,h3,_⟩
 ·have:=eS (h1 _ (cG h3));exact ⟨this.1,this.2.1⟩
 ·exact h2 _ (cG h3)
theorem sN(A:Nat→Addr)(b bb:Nat)(n nb:SN)(pv lv cv pb lb cb:Value)(i:Nat)(w:World)(h:dQ w b n pv lv cv)(hb:dQ w bb nb pb lb cb)(hi:i<n.us.length)(hlen:n.us.length=n.lk.length+1)(eh:n.lk.length≤3999)(gT:nb.zo)(hE:jS A w):Calls prog 124 #[.pointer (some ⟨b,0,none⟩),.int .i64 (i:Int),.pointer (some ⟨bb,0,none⟩)] w fun e w'=>mJ w n i bb nb e w':=by
 have Cz:=ab (qh bb nb pb lb cb w hb);have HH:=ab h;have XG:=ab hb;have HE:=ab hE;have UB:Hid (i<n.us.length∧n.us.length=n.lk.length+1∧n.lk.length≤3999):=⟨hi,hlen,eh⟩;clear h hb hE hi hlen eh;by_cases gi:4072<nb.sz
 ·rw [show decide (4072<nb.sz)=true by simp [gi]] at Cz
  have qR:=ab gi;have Cj:=ab gT;clear gi gT;go_enter func124,ntmps124;go_wp2_with fail;refine Cz.out.mono ?_
  rintro e w1 ⟨rfl,aM⟩;have bN:=ab aM;have yQ:=ab (DL A bb nb pb lb cb w1 (XG.out.below aM) Cj.out qR.out (HE.out.below aM));clear aM Cz;go_wp2_with fail;refine yQ.out.mono ?_
  rintro e w2 ⟨a,k,c,hcut,ba,bc,pa,la,ca,pc,lc,cc,rfl,ha,hc,aS⟩;have bG:=ab (Below.next bN.out aS);have HA:=ab ha;have HC:=ab hc;have FQ:=ab hcut;have Ur:=ab (mX b n pv lv cv i (.nd ba) w2 (HH.out.below bG.out) UB.out.1);clear ha hc hcut aS yQ bN;go_wp2_with fail;refine Ur.out.mono ?_
  rintro e w3 ⟨b3,p3,l3,c3,rfl,h3,bQ⟩;have eG:=ab (Below.next bG.out bQ);have HWL:=ab (J0 A b3 _ p3 l3 c3 i k (.nd bc) w3 h3 (by have:=UB.out;show i≤n.lk.length;omega) (by have:=UB.out;show (n.us.set i _).length=n.lk.length+1;rw [cx];omega) UB.out.2.2 (FQ.out.key XG.out.fine.1 XG.out.fine.2.2.1) (HE.out.below eG.out))
  have HA3:=ab (HA.out.below bQ);have HC3:=ab (HC.out.below bQ);clear h3 bQ Ur HA HC bG;go_wp2_with fail;refine HWL.out.mono ?_
  rintro e w4 ⟨b4,p4,l4,c4,rfl,h4,fW⟩;have ch:Hid (mJ w n i bb nb (.returned (.pointer (some ⟨b4,0,none⟩))) w4):=.inr ⟨qR.out,a,k,c,ba,bc,pa,la,ca,pc,lc,cc,FQ.out,HA3.out.below fW,HC3.out.below fW,b4,p4,l4,c4,rfl,h4,Below.next eG.out fW⟩;clear h4 fW HWL HA3 HC3;go_wp2;go_ret;exact ch.out
 ·rw [show decide (4072<nb.sz)=false by simp [gi]] at Cz
  have qR:=ab gi;clear gi gT;go_enter func124,ntmps124;go_wp2_with fail;refine Cz.out.mono ?_
  rintro e w1 ⟨rfl,aM⟩;have bN:=ab aM;have Ur:=ab (mX b n pv lv cv i (.nd bb) w1 (HH.out.below aM) UB.out.1);clear aM Cz;go_wp2_with fail;refine Ur.out.mono ?_
  rintro e w3 ⟨b3,p3,l3,c3,rfl,h3,bQ⟩;have ch:Hid (mJ w n i bb nb (.returned (.pointer (some ⟨b3,0,none⟩))) w3):=.inl ⟨qR.out,b3,p3,l3,c3,rfl,h3,Below.next bN.out bQ⟩;clear h3 bQ Ur;go_wp2;go_ret;exact ch.out
end T
end Go.Proofs.YtihmgigfkmofnaaGreatDoor
