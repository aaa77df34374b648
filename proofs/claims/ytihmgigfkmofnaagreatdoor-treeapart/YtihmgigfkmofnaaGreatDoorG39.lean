import Derived.Test.YtihmgigfkmofnaaGreatDoorG38
import Derived.Test.YtihmgigfkmofnaaGreatDoorRows
import Derived.ProofKit
import Derived.LaidMore
import Derived.LaidSub
import Derived.Lay
import Derived.OpenShut
import Derived.Stop.Joined
import Derived.Lib.LaidTab
import Derived.Lib.SmallJoins
import Derived.SizedLaws
import Derived.ChangeMaps5
import Derived.Deep.Slices
set_option maxHeartbeats 16000000
set_option maxRecDepth 100000
open Go.Proofs.Tryz
namespace Go.Proofs.YtihmgigfkmofnaaGreatDoor
namespace T
open Go.RowKit
theorem pG.get{w:World}{a:Option Addr}{n c:Nat}{ks:List LS}(hs:pG w (.slice a n c) ks)(i:Nat)(hi:i<ks.length):∃ g o,a=some ⟨g,o,none⟩∧w.cell? ⟨g,o+i*6,none⟩=some (.int .i64 ks[i].kind)∧w.cell? ⟨g,o+i*6+1,none⟩=some (.int .i64 ks[i].at')∧w.cell? ⟨g,o+i*6+2,none⟩=some (.int .i64 ks[i].n)∧w.cell? ⟨g,o+i*6+3,none⟩=some (.string ks[i].key)∧w.cell? ⟨g,o+i*6+4,none⟩=some (.string ks[i].value)∧w.cell? ⟨g,o+i*6+5,none⟩=some (.string ks[i].eW):=by
 obtain ⟨a',c',hv,hc⟩:=hs;simp only [Value.slice.injEq] at hv;obtain ⟨rfl,-,-⟩:=hv;exact hc i hi
abbrev Hp(ks:List LS):Prop:=∀ s ∈ ks,s.key.size≤140737488355328∧s.value.size≤140737488355328∧s.n≤9223372036854775807
theorem Mg{A:Nat→Addr}(px pa pb:Int)(sx sa sb:Value)(kx ka kb:List LS)(w:World)(hE:S.Env w.heap.size A w)(hG:dA 13 eR A w)(o8:∀ i,i<13→eR i<w.heap.size∧(A i).block<w.heap.size)(MK:Q.Env w.heap.size A w)(hx:pG w sx kx)(VK:kx.length≤140737488355328)(Zv:Hp kx)(ha:pG w sa ka)(S0:Hp ka)(hb:pG w sb kb)(Rj:Hp kb):Calls prog 6 #[.agg #[.int .i64 px,sx,.int .i64 pa,sa,.int .i64 pb,sb]] w fun e w'=>e = .returned (.bool true)∧Below w.heap.size w w':=by
 obtain ⟨xa,xc,VO⟩ : ∃ a c,sx = .slice a kx.length c:=by obtain ⟨a,c,h,_⟩:=hx;exact ⟨a,c,h⟩
 obtain ⟨aa,ac,SK⟩ : ∃ a c,sa = .slice a ka.length c:=by obtain ⟨a,c,h,_⟩:=ha;exact ⟨a,c,h⟩
 obtain ⟨ba,bc,Uq⟩ : ∃ a c,sb = .slice a kb.length c:=by obtain ⟨a,c,h,_⟩:=hb;exact ⟨a,c,h⟩
 subst VO SK Uq;obtain ⟨KX,hKX⟩ : ∃ K,K=kx.length:=⟨_,rfl⟩;obtain ⟨KA,hKA⟩ : ∃ K,K=ka.length:=⟨_,rfl⟩;obtain ⟨KB,hKB⟩ : ∃ K,K=kb.length:=⟨_,rfl⟩;rw [← hKX] at hx ⊢;rw [← hKA] at ha ⊢;rw [← hKB] at hb ⊢;obtain ⟨W1,gF⟩ : ∃ W1,w.alloc (.cells #[.int .i64 px,.slice xa KX xc,.int .i64 pa,.slice aa KA ac,.int .i64 pb,.slice ba KB bc] 76)=W1:=⟨_,rfl⟩;have q0:=ai w (.cells #[.int .i64 px,.slice xa KX xc,.int .i64 pa,.slice aa KA ac,.int .i64 pb,.slice ba KB bc] 76);have x0:=B.au.new w #[.int .i64 px,.slice xa KX xc,.int .i64 pa,.slice aa KA ac,.int .i64 pb,.slice ba KB bc] 76;rw [gF] at q0 x0;have GI:W1.heap.size=w.heap.size+1:=by rw [← gF];simp
 have rW:=ab (FY px (.slice xa KX xc) kx W1 (zK (hE.up q0) (by omega) (by omega)) (hG.keep q0) (fun i hi=>by have:=o8 i hi;omega) (zP (MK.keep q0) (by omega) (by omega)) (hx.below q0) (by omega) Zv)
 have HX:Hid (∀ W,Below W1.heap.size W1 W→W.cell? ⟨w.heap.size,3,none⟩=some (.slice aa KA ac)∧W.cell? ⟨w.heap.size,5,none⟩=some (.slice ba KB bc)):=fun W hW=>⟨(hW.cell (p:=⟨w.heap.size,3,none⟩) (by show w.heap.size<_;omega)).trans (x0.cell 3 (by simp)),(hW.cell (p:=⟨w.heap.size,5,none⟩) (by show w.heap.size<_;omega)).trans (x0.cell 5 (by simp))⟩
 have HA:Hid (∀ W,Below W1.heap.size W1 W→pG W (.slice aa KA ac) ka):=fun W hW=>(ha.below q0).below hW
 have HB:Hid (∀ W,Below W1.heap.size W1 W→pG W (.slice ba KB bc) kb):=fun W hW=>(hb.below q0).below hW
 have TS:=ab q0;have b0:=x0.cell 0 (by simp)
 have b1:=x0.cell 1 (by simp)
 simp only [bQ,List.getElem_cons_zero,List.getElem_cons_succ] at b0 b1;rw [← gF] at b0 b1;obtain ⟨Q0,GY⟩ : ∃ Q0:Ending→World→Prop,Q0=fun e w'=>e = .returned (.bool true)∧Below w.heap.size w w':=⟨_,rfl⟩
 rw [← GY];have HQ:=ab GY;have zl:=ab gF;have HKA:=ab hKA;have Va:=ab hKB;have HSA:=ab S0;have HSB:=ab Rj;clear hE hG o8 MK hx ha hb Zv S0 Rj hKA hKB hKX q0 x0 GI GY gF VK;go_enter func6,ntmps6;go_wp2_with fail;rw [zl.out];refine rW.out.mono ?_
 rintro e w2 ⟨base,W',ob,db,rfl,VO,bO,Ps⟩;have aax:=ab (VO.store (by omega))
 have Fw:Hid (∀ W,Below base W' W→Below W1.heap.size W1 W):=Ps;clear VO bO Ps rW b0 b1;go_wp2_with fail;refine aax.out.mono ?_
 rintro e w3 ⟨rfl,YG⟩;obtain ⟨tb,fb,fg,F,d,r,T,wv,root,tx,h1,h2,h3,h4⟩:=YG.out;obtain ⟨rv,t1,t2⟩:=h4.ts.tr;obtain ⟨wa,wn,wk,Fb⟩:=et h4.want;subst Fb;have HCP:Hid (∀ W,Below w3.heap.size w3 W→Calls prog 21 #[.pointer (some ⟨tb,0,none⟩)] W fun e w'=>∃ tc,e = .returned (.pointer (some ⟨tc,0,none⟩))∧(w3.heap.size≤tc∧B.au w' tc #[.pointer (some ⟨db,0,none⟩),rv] 100∧tc<w'.heap.size∧Below w3.heap.size w3 w')):=fun W hW=>(Qb (t1.below hW) t2.form).mono fun e w' ⟨tc,e1,e2,e3,e4⟩=>⟨tc,e1,ar hW.size e2,e3,e3.lt,Below.next hW e4⟩
 have HO:=ab h4;have HRV:=ab t2;have QT:Hid ((aB r).length≤302):=h1;have p0:=h4.c.2.2.1;have p1:=h4.c.2.2.2.1;have p2:=h4.c.2.2.2.2.1;have p3:=h4.c.1;have p4:=h4.c.2.1;have p5:=h4.c.2.2.2.2.2.1;have p6:=h4.c.2.2.2.2.2.2;clear h1 h2 h3 h4 t1 t2 YG aax;go_upto_region 5 with fail
 go_cut [5] (fun cv wx=>∃ oc,cv = .pointer (some ⟨oc,0,none⟩)∧Dx base A W' wx ob oc db 302)
 case first =>
  go_region_held3 (fun w'=>w'.cell? ⟨ob,0,none⟩=some (.int .i64 4000)∧w'.cell? ⟨ob,1,none⟩=some (.pointer (some ⟨db,0,none⟩))∧w'.cell? ⟨ob,2,none⟩=some (.pointer (some ⟨fb,0,none⟩))∧w'.cell? ⟨ob,3,none⟩=some (.pointer (some ⟨tb,0,none⟩))∧w'.cell? ⟨ob,4,none⟩=some (.slice wa wn wk)∧w'.cell? ⟨ob,5,none⟩=some (.int .i64 (root:Int))∧w'.cell? ⟨ob,6,none⟩=some (.int .u64 (tx:Int))) (go_keep)
   (first | (go_at_call 21;refine (HCP.out _ ?_).mono ?_;(first | exact (Below.refl _ _).drew | exact aA (Below.refl _ _) _ | exact Below.refl _ _);rintro e w4 ⟨tc,rfl,hg⟩;have HG:=ab hg;have n0:=(HO.out.below hg.2.2.2).c.2.2.1;have n1:=(HO.out.below hg.2.2.2).c.2.2.2.1;have n2:=(HO.out.below hg.2.2.2).c.2.2.2.2.1;have n3:=(HO.out.below hg.2.2.2).c.1;have n4:=(HO.out.below hg.2.2.2).c.2.1;have n5:=(HO.out.below hg.2.2.2).c.2.2.2.2.2.1;have n6:=(HO.out.below hg.2.2.2).c.2.2.2.2.2.2;clear hg))
  all_goals
   have b8:Hid (∀ W,Below w4.heap.size w4 W→W.heap.size=w4.heap.size→Dx base A W' (W.alloc (.cells (jq db fb tc (.slice wa wn wk) root tx) 65)) ob w4.heap.size db 302):=fun W hW hs=>by
    have hg:=HG.out;have lM:Below w3.heap.size w3 W:=Below.next hg.2.2.2 hW;have hx:=B.au.new W (jq db fb tc (.slice wa wn wk) root tx) 65;have eU:=ai W (.cells (jq db fb tc (.slice wa wn wk) root tx) 65);have b7:w3.heap.size≤w4.heap.size:=hg.2.2.2.size;rw [hs] at hx;refine ⟨tb,tc,fb,fg,F,d,r,r,T,_,_,root,tx,root,tx,QT.out,QT.out,(HO.out.below lM).below eU,HO.out.copied HRV.out lM eU hg.1 b7 (by have:=hg.2.2.1;omega) (hg.2.1.below hW) hx,?_,?_⟩
    ·have:=HO.out.row.lt;omega
    ·have:=HO.out.new hg.1;exact this.2.1.symm
   clear p0 p1 p2 p3 p4 p5 p6 n0 n1 n2 n3 n4 n5 n6;go_wp2_with fail;go_meet
   first | exact ⟨_,rfl,b8.out _ (Below.refl _ _) rfl⟩ | exact ⟨_,rfl,b8.out _ (Below.refl _ _).drew rfl⟩ | exact ⟨_,rfl,b8.out _ (aA (Below.refl _ _) _) rfl⟩
 case rest =>
  obtain ⟨oc,rfl,UK⟩:=hcut;have c3:∃ tc,wc.cell? ⟨oc,3,none⟩=some (.pointer (some ⟨tc,0,none⟩)):=by
   obtain ⟨tb,tc,fb,fg,F,d,r,s,T,wv,wu,root,tx,ed,nS,h1,h2,h3⟩:=UK.out;exact ⟨tc,h3.o2.c.1⟩
  obtain ⟨tc,c3⟩:=c3;have HDX:=ab UK;clear UK HO HRV QT HCP p0 p1 p2 p3 p4 p5 p6;go_wp2;go_loopw [4,6] (fun okv iv wr=>∃ i:Nat,okv = .bool true∧iv = .int .i64 (i:Int)∧i≤300∧Dx base A W' wr ob oc db (302+2*i)) (fun _ iv _=>300 - (intOf iv).toNat)
  case atStart=>exact ⟨0,rfl,rfl,by omega,HDX.out⟩
  case round =>
   obtain ⟨i,rfl,rfl,hi,UK⟩:=hrel;have HD:=ab UK;have xa3:=(HX.out wr (Fw.out wr UK.ew)).1;have Xf:=(HX.out wr (Fw.out wr UK.ew)).2;clear UK HDX c3;by_cases bN:i<300∧(i<KA∨i<KB)
   ·obtain ⟨UD,K4⟩:=bN;have acZ:(i:Int)<300:=by omega
    have e0:(0:Int)≤(i:Int):=by omega
    have HI9:Hid (i+1≤300):=by show _≤_;omega
    go_upto_region 9 with fail
    go_cut [77] from 57 to 138 (fun v wx=>v = .bool true∧wx=wr)
    case first =>
     by_cases hA:i<KA
     ·have hAI:(i:Int)<(KA:Int):=by omega
      clear K4;go_wp2_with fail;go_meet
      exact ⟨rfl,rfl⟩
     ·have hAI:¬ (i:Int)<(KA:Int):=by omega
      have hBI:(i:Int)<(KB:Int):=by omega
      clear K4;go_wp2_with fail;go_meet
      exact ⟨rfl,rfl⟩
    case rest =>
     obtain ⟨rfl,rfl⟩:=hcut;clear K4;go_upto_if 85 with fail
     go_cut [4] from 57 to 138 (fun v wx=>v = .bool true∧Dx base A W' wx ob oc db (302+2*i+1))
     case first =>
      by_cases hA:i<KA
      ·have hAI:(i:Int)<(KA:Int):=by omega
       have Fk:i<ka.length:=by have:=HKA.out;omega
       obtain ⟨g,o,SK,s0,s1,s2,s3,s4,s5⟩:=(HA.out wc (Fw.out wc HD.out.ew)).get i Fk;have gD:=ab (HSA.out ka[i] (aG Fk));generalize ka[i]=st at s0 s1 s2 s3 s4 s5 gD;obtain ⟨kind,at',n,key,value,eW⟩:=st;simp only at s0 s1 s2 s3 s4 s5 gD;subst SK;have Rv:=ab (HD.out.Uh kind at' n key value eW (by omega) gD.out.1 gD.out.2.1 gD.out.2.2)
       clear gD hA;go_wp2_with fail;refine Rv.out.mono ?_
       rintro e w5 ⟨rfl,Eg⟩;have XU:=ab Eg;clear Eg Rv s0 s1 s2 s3 s4 s5 xa3 Xf;go_wp2_with fail;go_meet
       exact ⟨rfl,XU.out⟩
      ·have hAI:¬ (i:Int)<(KA:Int):=by omega
       clear hA;go_wp2_with fail;go_meet
       exact ⟨rfl,HD.out.mono (by omega)⟩
     case rest =>
      obtain ⟨rfl,Eg⟩:=hcut;have XU:=ab Eg;clear xa3 Xf HD;rename_i wA
      have Xf:=(HX.out wc (Fw.out wc Eg.ew)).2;clear Eg;go_upto_if 99 with fail
      go_cut [4] from 57 to 138 (fun v wx=>v = .bool true∧Dx base A W' wx ob oc db (302+2*i+2))
      case first =>
       by_cases hB:i<KB
       ·have hBI:(i:Int)<(KB:Int):=by omega
        have Fk:i<kb.length:=by have:=Va.out;omega
        obtain ⟨g,o,Uq,s0,s1,s2,s3,s4,s5⟩:=(HB.out wc (Fw.out wc XU.out.ew)).get i Fk;have gD:=ab (HSB.out kb[i] (aG Fk));generalize kb[i]=st at s0 s1 s2 s3 s4 s5 gD;obtain ⟨kind,at',n,key,value,eW⟩:=st;simp only at s0 s1 s2 s3 s4 s5 gD;subst Uq;have Rv:=ab (XU.out.swap.Uh kind at' n key value eW (by omega) gD.out.1 gD.out.2.1 gD.out.2.2)
        clear gD hB;go_wp2_with fail;refine Rv.out.mono ?_
        rintro e w6 ⟨rfl,Xy⟩;have HD6:=ab Xy.swap;clear Xy Rv s0 s1 s2 s3 s4 s5 Xf;go_wp2_with fail;go_meet
        exact ⟨rfl,HD6.out⟩
       ·have hBI:¬ (i:Int)<(KB:Int):=by omega
        clear hB;go_wp2_with fail;go_meet
        exact ⟨rfl,XU.out.mono (by omega)⟩
      case rest =>
       obtain ⟨rfl,Xy⟩:=hcut;have HD6:=ab Xy;clear XU Xf;obtain ⟨tb,tc,fb,fg,F,d,r,s,T,wv,wu,root,tx,ed,nS,g1,g2,g3⟩:=Xy.out;obtain ⟨wa,wn,wk,Fb⟩:=et g3.o1.want;obtain ⟨ua,un,uk,GF⟩:=et g3.o2.want;subst Fb GF;have Hw:Hid (∀ W,Du base A W' W ob oc db tb tc fb fg F d r s T (.slice wa wn wk) (.slice ua un uk) root tx ed nS→Calls prog 23 #[.pointer (some ⟨tb,0,none⟩),.slice wa wn wk] W fun e w'=>e = .returned (.bool true)∧Du base A W' w' ob oc db tb tc fb fg F d r s T (.slice wa wn wk) (.slice ua un uk) root tx ed nS):=fun W h=>h.has (by omega)
       have Vc:Hid (∀ W,Du base A W' W ob oc db tb tc fb fg F d r s T (.slice wa wn wk) (.slice ua un uk) root tx ed nS→Calls prog 23 #[.pointer (some ⟨tc,0,none⟩),.slice ua un uk] W fun e w'=>e = .returned (.bool true)∧Du base A W' w' ob oc db tb tc fb fg F d r s T (.slice wa wn wk) (.slice ua un uk) root tx ed nS):=fun W h=>(h.swap.has (by omega)).mono fun _ _ ⟨h1,h2⟩=>⟨h1,h2.swap⟩
       have WZ:Hid (∀ W,Below wc.heap.size wc W→Du base A W' W ob oc db tb tc fb fg F d r s T (.slice wa wn wk) (.slice ua un uk) root tx ed nS):=fun W hW=>g3.below hW
       have qI:Hid ((aB r).length≤302+2*i+2∧(aB s).length≤302+2*i+2):=⟨g1,g2⟩;have p3:=g3.o1.c.1;have p4:=g3.o1.c.2.1;have p5:=g3.o2.c.1;have p6:=g3.o2.c.2.1;obtain ⟨m9,hm9⟩ : ∃ m,Int.tmod (i:Int) 9=m:=⟨_,rfl⟩;clear g1 g2 g3 Xy;go_upto_region 15 with fail
       by_cases h4:m9=4
       ·have h4b:(m9 != 4)=false:=by simp [h4]
        clear h4;go_region_held3 (fun w'=>w'.cell? ⟨ob,3,none⟩=some (.pointer (some ⟨tb,0,none⟩))∧w'.cell? ⟨ob,4,none⟩=some (.slice wa wn wk)∧w'.cell? ⟨oc,3,none⟩=some (.pointer (some ⟨tc,0,none⟩))∧w'.cell? ⟨oc,4,none⟩=some (.slice ua un uk)) (go_keep)
         (first
          | (go_at_call_of 23 (Value.pointer (some ⟨tb,0,none⟩));refine (Hw.out _ (WZ.out _ ?_)).mono ?_;(first | exact (Below.refl _ _).drew | exact aA (Below.refl _ _) _ | exact Below.refl _ _);rintro e w8 ⟨rfl,Lc⟩;have m3:=Lc.o1.c.1;have m4:=Lc.o1.c.2.1;have m5:=Lc.o2.c.1;have m6:=Lc.o2.c.2.1;have HD8:=ab Lc;clear Lc)
          | (go_at_call_of 23 (Value.pointer (some ⟨tc,0,none⟩));refine (Vc.out _ (HD8.out.below ?_)).mono ?_;(first | exact (Below.refl _ _).drew | exact aA (Below.refl _ _) _ | exact Below.refl _ _);rintro e w9 ⟨rfl,Lb⟩;have l3:=Lb.o1.c.1;have l4:=Lb.o1.c.2.1;have l5:=Lb.o2.c.1;have l6:=Lb.o2.c.2.1;have HD9:=ab Lb;clear Lb))
        all_goals
         have HDZ:Hid (∀ k,Dx base A W' (w9.drewN k) ob oc db (302+2*(i+1))):=fun k=>⟨tb,tc,fb,fg,F,d,r,s,T,_,_,root,tx,ed,nS,by have:=qI.out.1;omega,by have:=qI.out.2;omega,HD9.out.below (aA (Below.refl _ _) k)⟩
         clear HD6 Hw Vc WZ qI p3 p4 p5 p6 hm9 m3 m4 m5 m6 l3 l4 l5 l6 h4b;go_wp2;go_roundw
         case rel =>
          refine ⟨i+1,?_,?_,HI9.out,HDZ.out 0⟩
          ·rfl
          ·go_num
         case measure=>simp [intOf];omega
       ·have h4b:(m9 != 4)=true:=by simp [h4]
        have HDZ:Hid (∀ k,Dx base A W' (wc.drewN k) ob oc db (302+2*(i+1))):=fun k=>⟨tb,tc,fb,fg,F,d,r,s,T,_,_,root,tx,ed,nS,by have:=qI.out.1;omega,by have:=qI.out.2;omega,WZ.out _ (aA (Below.refl _ _) k)⟩
        clear h4;go_quiet (fail)
        clear HD6 Hw Vc WZ qI p3 p4 p5 p6 hm9 h4b;go_wp2;go_roundw
        case rel =>
         refine ⟨i+1,?_,?_,HI9.out,HDZ.out _⟩
         ·rfl
         ·go_num
        case measure=>simp [intOf];omega
   ·have fH:(¬ (i:Int)<300)∨((i:Int)<300∧¬ (i:Int)<(KA:Int)∧¬ (i:Int)<(KB:Int)):=by omega
    obtain ⟨tb,tc,fb,fg,F,d,r,s,T,wv,wu,root,tx,ed,nS,g1,g2,g3⟩:=HD.out.out;obtain ⟨wa,wn,wk,Fb⟩:=et g3.o1.want;obtain ⟨ua,un,uk,GF⟩:=et g3.o2.want;subst Fb GF;have Hw:Hid (∀ W,Du base A W' W ob oc db tb tc fb fg F d r s T (.slice wa wn wk) (.slice ua un uk) root tx ed nS→Calls prog 23 #[.pointer (some ⟨tb,0,none⟩),.slice wa wn wk] W fun e w'=>e = .returned (.bool true)∧Du base A W' w' ob oc db tb tc fb fg F d r s T (.slice wa wn wk) (.slice ua un uk) root tx ed nS):=fun W h=>h.has (by omega)
    have Vc:Hid (∀ W,Du base A W' W ob oc db tb tc fb fg F d r s T (.slice wa wn wk) (.slice ua un uk) root tx ed nS→Calls prog 23 #[.pointer (some ⟨tc,0,none⟩),.slice ua un uk] W fun e w'=>e = .returned (.bool true)∧Du base A W' w' ob oc db tb tc fb fg F d r s T (.slice wa wn wk) (.slice ua un uk) root tx ed nS):=fun W h=>(h.swap.has (by omega)).mono fun _ _ ⟨h1,h2⟩=>⟨h1,h2.swap⟩
    have WZ:Hid (∀ W,Below wr.heap.size wr W→Du base A W' W ob oc db tb tc fb fg F d r s T (.slice wa wn wk) (.slice ua un uk) root tx ed nS):=fun W hW=>g3.below hW
    have p3:=g3.o1.c.1;have p4:=g3.o1.c.2.1;have p5:=g3.o2.c.1;have p6:=g3.o2.c.2.1;have mB:Hid (∀ W,Below base W' W→Q0 (.returned (.bool true)) W):=fun W h=>by rw [HQ.out];exact ⟨rfl,Below.next TS.out (Fw.out W h)⟩
    clear bN HD g1 g2 g3;rcases fH with h1 | ⟨h1,h2,h3⟩
    all_goals
     go_wp2_with fail;go_region_held3 (fun w'=>w'.cell? ⟨ob,3,none⟩=some (.pointer (some ⟨tb,0,none⟩))∧w'.cell? ⟨ob,4,none⟩=some (.slice wa wn wk)∧w'.cell? ⟨oc,3,none⟩=some (.pointer (some ⟨tc,0,none⟩))∧w'.cell? ⟨oc,4,none⟩=some (.slice ua un uk)) (go_keep)
      (first
       | (go_at_call_of 23 (Value.pointer (some ⟨tb,0,none⟩));refine (Hw.out _ (WZ.out _ ?_)).mono ?_;(first | exact (Below.refl _ _).drew | exact aA (Below.refl _ _) _ | exact Below.refl _ _);rintro e w8 ⟨rfl,Lc⟩;have m3:=Lc.o1.c.1;have m4:=Lc.o1.c.2.1;have m5:=Lc.o2.c.1;have m6:=Lc.o2.c.2.1;have HD8:=ab Lc;clear Lc)
       | (go_at_call_of 23 (Value.pointer (some ⟨tc,0,none⟩));refine (Vc.out _ (HD8.out.below ?_)).mono ?_;(first | exact (Below.refl _ _).drew | exact aA (Below.refl _ _) _ | exact Below.refl _ _);rintro e w9 ⟨rfl,Lb⟩;have l3:=Lb.o1.c.1;have l4:=Lb.o1.c.2.1;have l5:=Lb.o2.c.1;have l6:=Lb.o2.c.2.1;have HD9:=ab Lb;clear Lb))
     all_goals
      clear Hw Vc WZ p3 p4 p5 p6 m3 m4 m5 m6 l3 l4 l5 l6 xa3 Xf;go_wp2;exact mB.out _ HD9.out.o1.ew
end T
end Go.Proofs.YtihmgigfkmofnaaGreatDoor
namespace Go.Proofs.YtihmgigfkmofnaaGreatDoor.S
open Go.ChangeShapes Go.WideShapes Go.ChangeAt Go.WideMaps Go.WideElems Go.RowKit
theorem PR:prog.globalNamed "copse/codec.halfByteSteps" = some 15:=by kernel_rfl
theorem Vk:(prog.globals[15]?).map (·.type)=some 330:=by kernel_rfl
theorem aah:prog.globalNamed "copse/sheet.layout" = some 14:=by kernel_rfl
theorem acd:(prog.globals[14]?).map (·.type)=some 327:=by kernel_rfl
theorem Tw:prog.cellsOf 225=1:=by kernel_rfl
theorem xY:prog.cellsOf 330=16:=by kernel_rfl
theorem EH:prog.cellsOf 3=1:=by kernel_rfl
theorem Qj:prog.cellsOf 327=10:=by kernel_rfl
theorem Qh:prog.cellsOf 326=2:=by kernel_rfl
theorem nU{W:World}(h:laidMet prog [("copse/codec.halfByteSteps",Rows.laid_copse_codec_halfByteSteps)] W):EW W:=by
 have e:(Rows.laid_copse_codec_halfByteSteps:DataW Unit)=Lib.tabData .u32 (JX.map Int.ofNat):=by simp [Rows.laid_copse_codec_halfByteSteps,Lib.tabData,JX]
 rw [e] at h;have hv:=Lib.tabIs_of_head PR Vk underlying330 underlying225 Tw xY h;have hc:=World.var?_cell PR hv;have h16:∀ j,j<16→W.cell? ⟨15,j,none⟩=some (.int .u32 (tab j:Nat)):=by
  intro j hj;have h1:=hc j;rw [h1];have:∀ i:Fin 16,((JX.map Int.ofNat).map fun z=>Value.int .u32 z).toArray[i.1]?=some (.int .u32 ((tab i.1:Nat):Int)):=by
   intro i;simp only [eF,List.getElem?_toArray,aM];have hi:i.1<JX.length:=i.2;rw [af hi];simp only [j7,Function.comp];unfold tab;rw [List.getD,af hi];rfl
  exact this ⟨j,hj⟩
 refine ⟨h16,?_⟩;exact World.block_lt_of_cell? W _ (h16 0 (by decide))
theorem jb{W:World}{m:Nat}{a b:Value}{y:DataW Unit × List MemPlace}{p q:Int}(h:DataW.trod (fun _=>()) prog W 0 (fun _=>true) false m 326 [a,b]=some y)(hy:y.1 = .agg [.lit (.int .i64 p),.lit (.int .i64 q)]):a = .int .i64 p∧b = .int .i64 q:=by
 obtain ⟨y0,y1,n,rfl,_,h0,h1⟩:=trod_struct2 underlying326 h;have Ll:DataW.trod (fun _=>()) prog W 0 (fun _=>true) false n 3 [a]=some y0:=by simpa [EH] using h0
 have Jf:DataW.trod (fun _=>()) prog W 0 (fun _=>true) false n 3 [b]=some y1:=by simpa [EH] using h1
 obtain ⟨k0,e0,rfl,_⟩:=DataW.trod_int underlying3 Ll;obtain ⟨k1,e1,rfl,_⟩:=DataW.trod_int underlying3 Jf;simp only [List.cons.injEq,and_true] at e0 e1;subst e0 e1;simp only [DataW.agg.injEq,List.cons.injEq,DataW.lit.injEq,Lit.int.injEq,true_and,and_true] at hy;obtain ⟨rfl,rfl⟩:=hy;exact ⟨rfl,rfl⟩
theorem DJ{W:World}(h:laidMet prog [("copse/sheet.layout",Rows.laid_copse_sheet_layout)] W):Lay W:=by
 obtain ⟨ps,⟨g,t,cs,fuel,p,q,hg,ht,SF,hd,_,_⟩,_,_⟩:=h;obtain rfl:=Option.some.inj (aah.symm.trans hg);obtain rfl:=Option.some.inj (acd.symm.trans ht);have hc:=World.var?_cell aah SF;obtain ⟨xs,m,_,hx,qN,VK,hf⟩:=DataW.trod_array underlying327 hd;rw [Qj] at qN;obtain ⟨cl⟩:=cs;match xs,VK,cl,qN with
 | [y0,y1,y2,y3,y4],_,[v0,v1,v2,v3,v4,v5,v6,v7,v8,v9],_ =>
  have g0:=hf 0 (by decide)
  have g1:=hf 1 (by decide)
  have g2:=hf 2 (by decide)
  have g3:=hf 3 (by decide)
  have g4:=hf 4 (by decide)
  simp [Qh] at g0 g1 g2 g3 g4
  have sd:=congrArg Prod.fst hx;simp only [Rows.laid_copse_sheet_layout,List.map_cons,List.map_nil,DataW.agg.injEq,List.cons.injEq,and_true] at sd;obtain ⟨x0,x1,x2,x3,x4⟩:=sd;obtain ⟨rfl,rfl⟩:=jb g0 x0.symm;obtain ⟨rfl,rfl⟩:=jb g1 x1.symm;obtain ⟨rfl,rfl⟩:=jb g2 x2.symm;obtain ⟨rfl,rfl⟩:=jb g3 x3.symm;obtain ⟨rfl,rfl⟩:=jb g4 x4.symm;have k0:=hc 0;have k1:=hc 1;have k2:=hc 2;have k3:=hc 3;have k4:=hc 4;have k5:=hc 5;have k6:=hc 6;have k7:=hc 7;have k8:=hc 8;have k9:=hc 9;simp at k0 k1 k2 k3 k4 k5 k6 k7 k8 k9
  exact ⟨World.block_lt_of_cell? W _ k0,k0,k1,k2,k3,k4,k5,k6,k7,k8,k9⟩
end Go.Proofs.YtihmgigfkmofnaaGreatDoor.S
namespace Go.Proofs.YtihmgigfkmofnaaGreatDoor
open Go.ChangeShapes Go.WideShapes Go.ChangeAt Go.WideMaps Go.WideElems Go.RowKit Go.Joins
theorem own:ownKnob prog.godebug=none:=by kernel_rfl
theorem laidOut:laidOutB prog=true:=by kernel_rfl
def BF:List (String × List UInt8):=[("copse/api.ErrArg",gZ Rows.laid_copse_api_ErrArg),("copse/api.ErrText",gZ Rows.laid_copse_api_ErrText),("copse/api.ErrMany",gZ Rows.laid_copse_api_ErrMany),("copse/api.ErrShort",gZ Rows.laid_copse_api_ErrShort),("copse/api.ErrTwice",gZ Rows.laid_copse_api_ErrTwice),("copse/api.ErrLost",gZ Rows.laid_copse_api_ErrLost),("copse/api.ErrFull",gZ Rows.laid_copse_api_ErrFull),("copse/api.ErrDead",gZ Rows.laid_copse_api_ErrDead),("copse/api.ErrCorrupt",gZ Rows.laid_copse_api_ErrCorrupt),("copse/api.ErrStatus",gZ Rows.laid_copse_api_ErrStatus),("copse/api.ErrTxid",gZ Rows.laid_copse_api_ErrTxid),("copse/api.ErrOrder",gZ Rows.laid_copse_api_ErrOrder),("copse/api.ErrKind",gZ Rows.laid_copse_api_ErrKind)]
theorem LB:BF.map Og++[]=[("copse/api.ErrArg",Rows.laid_copse_api_ErrArg),("copse/api.ErrText",Rows.laid_copse_api_ErrText),("copse/api.ErrMany",Rows.laid_copse_api_ErrMany),("copse/api.ErrShort",Rows.laid_copse_api_ErrShort),("copse/api.ErrTwice",Rows.laid_copse_api_ErrTwice),("copse/api.ErrLost",Rows.laid_copse_api_ErrLost),("copse/api.ErrFull",Rows.laid_copse_api_ErrFull),("copse/api.ErrDead",Rows.laid_copse_api_ErrDead),("copse/api.ErrCorrupt",Rows.laid_copse_api_ErrCorrupt),("copse/api.ErrStatus",Rows.laid_copse_api_ErrStatus),("copse/api.ErrTxid",Rows.laid_copse_api_ErrTxid),("copse/api.ErrOrder",Rows.laid_copse_api_ErrOrder),("copse/api.ErrKind",Rows.laid_copse_api_ErrKind)]:=rfl
theorem G6:((List.range 13).all fun i=>match BF[i]? with
  | some x=>(prog.globalNamed x.1 == some (eR i)) && ((prog.globals[eR i]?).map (·.type) == some 32)
  | none=>false)=true:=by kernel_rfl
theorem Es:∀ i x,BF[i]?=some x→prog.globalNamed x.1=some (eR i)∧(prog.globals[eR i]?).map (·.type)=some 32:=by
 intro i x hx;have hi:i<13:=by
  rcases bg i 13 with h | h
  ·exact h
  ·rw [bD (by exact h)] at hx;cases hx
 have h:=List.all_eq_true.1 G6 i (List.mem_range.2 hi);rw [hx] at h;simpa using h
def Sz(x:String × DataW Unit):Bool:=x.1 == "copse/api.ErrArg" || x.1 == "copse/api.ErrText" || x.1 == "copse/api.ErrMany" || x.1 == "copse/api.ErrShort" || x.1 == "copse/api.ErrTwice" || x.1 == "copse/api.ErrLost" || x.1 == "copse/api.ErrFull" || x.1 == "copse/api.ErrDead" || x.1 == "copse/api.ErrCorrupt" || x.1 == "copse/api.ErrStatus" || x.1 == "copse/api.ErrTxid" || x.1 == "copse/api.ErrOrder" || x.1 == "copse/api.ErrKind"
theorem zg{W:World}(h:laidMet prog [("copse/api.ErrArg",Rows.laid_copse_api_ErrArg),("copse/api.ErrText",Rows.laid_copse_api_ErrText),("copse/api.ErrMany",Rows.laid_copse_api_ErrMany),("copse/api.ErrShort",Rows.laid_copse_api_ErrShort),("copse/api.ErrTwice",Rows.laid_copse_api_ErrTwice),("copse/api.ErrLost",Rows.laid_copse_api_ErrLost),("copse/api.ErrFull",Rows.laid_copse_api_ErrFull),("copse/api.ErrDead",Rows.laid_copse_api_ErrDead),("copse/api.ErrCorrupt",Rows.laid_copse_api_ErrCorrupt),("copse/api.ErrStatus",Rows.laid_copse_api_ErrStatus),("copse/api.ErrTxid",Rows.laid_copse_api_ErrTxid),("copse/api.ErrOrder",Rows.laid_copse_api_ErrOrder),("copse/api.ErrKind",Rows.laid_copse_api_ErrKind)] W):∃ A,dA 13 eR A W:=by
 obtain ⟨A,hA,_⟩:=Te (rest:=[]) eR (show BF.length=13 from rfl) Es (by rw [LB];exact h)
 exact ⟨A,hA⟩
namespace T
def VD(x:String × DataW Unit):Bool:=x.1 == "copse/codec.halfByteSteps"
def Ys(x:String × DataW Unit):Bool:=x.1 == "copse/sheet.layout"
end T
end Go.Proofs.YtihmgigfkmofnaaGreatDoor
namespace Go.Proofs.YtihmgigfkmofnaaGreatDoor
namespace T
open Go.ChangeShapes Go.WideShapes Go.ChangeAt Go.WideMaps Go.WideElems Go.RowKit Go.Joins
theorem nQ{H:Type}{P:Program}{e:TypeId}:∀ {l:List (DataW H)} {d:DataW H},d ∈ l→∀ n ∈ d.weights P e,n ∈ DataW.weightsAll P e l
 | d'::r,d,hd,n,hn=>by
  simp only [DataW.weightsAll,cu];rcases List.mem_cons.1 hd with rfl | h
  ·exact Or.inl hn
  ·exact Or.inr (nQ h n hn)
theorem J4{W:World}{a:Addr}{v:Value}(h:W.cell? a=some v):a=⟨a.block,a.off,none⟩:=by
 have Fc:a.spot=none:=by
  unfold World.cell? at h;split at h
  ·split at h
   ·cases h
   ·rename_i hs;simpa using hs
  ·cases h
 cases a;simp at Fc;rw [Fc]
theorem add_plain(b o c:Nat):(⟨b,o,none⟩ : Addr).add c=⟨b,o+c,none⟩:=by
 unfold Addr.add;split
 ·rename_i h;rw [h,Nat.add_zero]
 ·rfl
theorem Ks{H:Type}{enc:TypeId × Value→H}{W:World}{t e:TypeId}{size bs:Nat}(hu:prog.underlying t=some (.slice e))(hc:prog.cellsOf e=size)(hy:prog.bytesOf e=bs)(hp:0<size)(R:List Value→Prop)(fuel:Nat)(v:Value)(x:DataW H × List MemPlace)(h:DataW.trod enc prog W 0 (fun _=>true) true fuel t [v]=some x)(hw:∀ z ∈ x.1.weights prog t,z≤reachBytes)(each:∀ k cs y,DataW.trod enc prog W 0 (fun _=>true) true k e cs=some y→cs.length=size→(∀ z ∈ y.1.weights prog e,z≤reachBytes)→R cs):∃ (a:Option Addr) (len cap:Nat),v = .slice a len cap∧len*bs≤reachBytes∧∀ i,i<len→∃ g off cs,a=some ⟨g,off,none⟩∧g<W.heap.size∧R cs∧cs.length=size∧∀ j,j<size→W.cell? ⟨g,off+i*size+j,none⟩=cs[j]?:=by
 rcases DataW.trod_slice hu h with ⟨h0,_⟩ | ⟨a,len,cap,elems,rest,n,hn,hv,hx,_,hl,hm,hlen,hel,_⟩
 ·simp only [List.cons.injEq,and_true] at h0;subst h0;exact ⟨none,0,0,rfl,by rw [Nat.zero_mul];exact aD _,fun i h=>absurd h (by simp)⟩
 ·simp only [List.cons.injEq,and_true] at hv;subst hv hx hn;have hwt:(elems.length+rest.length)*bs≤reachBytes:=hw _ (by
   simp only [DataW.weights,hu,hy,az];exact dj)
  have hlB:len*bs≤reachBytes:=ar (Nat.mul_le_mul_right bs (by omega)) hwt
  have UO:∀ i,i<len→∃ cs,R cs∧cs.length=size∧∀ j,j<size→W.cell? ((a.add (i*size)).add j)=cs[j]?:=by
   intro i hi;have h1:=hel i hi;rw [hc,af (by omega)] at h1
   obtain ⟨cs',h2,h3⟩:=Option.bind_eq_some_iff.1 h1;obtain ⟨_,qN,bh⟩:=World.cells?_some h2;refine ⟨cs',each n cs' _ h3 qN (fun z hz=>hw z ?_),qN,fun j hj=>bh j (by omega)⟩
   simp only [DataW.weights,hu];exact dQ _ (dR _ (nQ (List.mem_map.2 ⟨elems[i],aG (by omega),rfl⟩) z hz))
  refine ⟨some a,len,cap,rfl,hlB,fun i hi=>?_⟩
  obtain ⟨cs0,_,Rh,xL⟩:=UO 0 (by omega)
  have h00:=xL 0 hp;rw [Nat.zero_mul,af (by omega)] at h00
  have ea:=J4 (a:=a) h00;obtain ⟨cs,hr,UD,Av⟩:=UO i hi;refine ⟨a.block,a.off,cs,congrArg some ea,World.block_lt_of_cell? W a h00,hr,UD,fun j hj=>?_⟩
  have:=Av j hj;rw [ea,add_plain,add_plain] at this;exact this
theorem IY{α:Type}{P:Nat→α→Prop}:∀ (n:Nat),(∀ i,i<n→∃ x,P i x)→∃ l:List α,l.length=n∧∀ i (h:i<l.length),P i l[i]
 | 0,_=>⟨[],rfl,fun i h=>by simp at h⟩
 | n+1,h=>by
  obtain ⟨l,hl,hp⟩:=IY n fun i hi=>h i (by omega)
  obtain ⟨x,hx⟩:=h n (by omega)
  refine ⟨l++[x],by simp [hl],fun i hi=>?_⟩
  by_cases bN:i<l.length
  ·rw [aI bN];exact hp i bN
  ·have:i=l.length:=by simp at hi;omega
   subst this;rw [bo (aj _)];simp [hl] at hx ⊢
   exact hx
theorem Ql:prog.cellsOf 3=1:=by kernel_rfl
theorem Wv:prog.cellsOf 9=1:=by kernel_rfl
theorem Tv:prog.cellsOf 44=6:=by kernel_rfl
theorem Ty:prog.bytesOf 44=72:=by kernel_rfl
theorem Qi:prog.cellsOf 23=1:=by kernel_rfl
theorem zO:reachBytes=140737488351232:=rfl
end T
end Go.Proofs.YtihmgigfkmofnaaGreatDoor
namespace Go.Proofs.YtihmgigfkmofnaaGreatDoor.Q
open Go.ChangeShapes Go.WideShapes Go.ChangeAt Go.WideMaps Go.WideElems Go.RowKit Go.Joins
theorem PR:prog.globalNamed "math/bits.deBruijn64tab" = some 13:=by kernel_rfl
theorem Vk:(prog.globals[13]?).map (·.type)=some 266:=by kernel_rfl
theorem He:prog.cellsOf 5=1:=by kernel_rfl
theorem xY:prog.cellsOf 266=64:=by kernel_rfl
def Yr(x:String × DataW Unit):Bool:=x.1 == "math/bits.deBruijn64tab"
theorem nU{W:World}(h:laidMet prog [("math/bits.deBruijn64tab",Rows.laid_math_bits_deBruijn64tab)] W):tJ W:=by
 have e:(Rows.laid_math_bits_deBruijn64tab:DataW Unit)=Lib.tabData .u8 (Lib.deBruijn64tab.map Int.ofNat):=by simp [Rows.laid_math_bits_deBruijn64tab,Lib.tabData,Lib.deBruijn64tab]
 rw [e] at h;have hv:=Lib.tabIs_of_head PR Vk underlying266 underlying5 He xY h;have hc:=World.var?_cell PR hv;intro j hj;rw [hc j];have hi:j<Lib.deBruijn64tab.length:=hj;simp only [eF,List.getElem?_toArray,aM];rw [af hi];simp only [j7,Function.comp];rw [List.getD,af hi];rfl
theorem Ws{W:World}{A:Nat→Addr}(hE:dA 13 eR A W)(hT:tJ W):Env W.heap.size A W:=by
 refine ⟨hE,hT,fun i hi=>?_,World.block_lt_of_cell? W _ (hT 0 (by decide)),aj _⟩
 obtain ⟨h1,c,t,h2⟩:=hE.1 i hi;exact ⟨World.block_lt_of_cell? W _ h1,lt_of_heap h2⟩
end Go.Proofs.YtihmgigfkmofnaaGreatDoor.Q
namespace Go.Proofs.YtihmgigfkmofnaaGreatDoor.T
open Go.ChangeShapes Go.WideShapes Go.ChangeAt Go.WideMaps Go.WideElems Go.RowKit Go.Joins
theorem N6{H:Type}{enc:TypeId × Value→H}{W:World}(fuel:Nat)(v:Value)(x:DataW H × List MemPlace)(h:DataW.trod enc prog W 0 (fun _=>true) true fuel 23 [v]=some x)(hw:∀ z ∈ x.1.weights prog 23,z≤reachBytes):∃ l:List LS,pG W v l∧l.length≤140737488355328∧∀ s ∈ l,s.key.size≤140737488355328∧s.value.size≤140737488355328∧s.n≤9223372036854775807:=by
 obtain ⟨a,len,cap,hv,hl,hc⟩:=Ks underlying23 Tv Ty (by decide) (fun cs=>∃ (k a n:Int) (b1 b2 b3:ByteArray),cs=[.int .i64 k,.int .i64 a,.int .i64 n,.string b1,.string b2,.string b3]∧b1.size≤140737488355328∧b2.size≤140737488355328∧n≤9223372036854775807) fuel v x h hw (by
  intro k cs y hy qN hw;obtain ⟨xs,k',_,hxy,_,VK,hf⟩:=DataW.trod_struct underlying44 hy;match xs,VK,cs,qN with
  | [y0,y1,y2,y3,y4,y5],_,[v0,v1,v2,v3,v4,v5],_ =>
   have g0:=hf 0 _ rfl;have g1:=hf 1 _ rfl;have g2:=hf 2 _ rfl;have g3:=hf 3 _ rfl;have g4:=hf 4 _ rfl;have g5:=hf 5 _ rfl;simp [Ql,Wv] at g0 g1 g2 g3 g4 g5
   obtain ⟨k0,d0,rfl,w0⟩:=DataW.trod_int underlying3 g0;obtain ⟨k1,d1,rfl,w1⟩:=DataW.trod_int underlying3 g1;obtain ⟨k2,d2,rfl,w2⟩:=DataW.trod_int underlying3 g2;obtain ⟨b3,d3,rfl,w3⟩:=DataW.trod_string underlying9 g3;obtain ⟨b4,d4,rfl,w4⟩:=DataW.trod_string underlying9 g4;obtain ⟨b5,d5,rfl,w5⟩:=DataW.trod_string underlying9 g5;simp only [List.cons.injEq,and_true] at d0 d1 d2 d3 d4 d5;subst d0 d1 d2 d3 d4 d5;rw [hxy] at hw;have h3:b3.size≤reachBytes:=hw b3.size (by simp [DataW.weights,underlying44,DataW.weightsEach])
   have h4:b4.size≤reachBytes:=hw b4.size (by simp [DataW.weights,underlying44,DataW.weightsEach])
   rw [zO] at h3 h4;exact ⟨k0,k1,k2,b3,b4,b5,rfl,by omega,by omega,(bounds_i64 w2).2⟩)
 obtain ⟨l,I8,hp⟩:=IY (α:=LS) (P:=fun i x=>(∃ g o,a=some ⟨g,o,none⟩∧W.cell? ⟨g,o+i*6,none⟩=some (.int .i64 x.kind)∧W.cell? ⟨g,o+i*6+1,none⟩=some (.int .i64 x.at')∧W.cell? ⟨g,o+i*6+2,none⟩=some (.int .i64 x.n)∧W.cell? ⟨g,o+i*6+3,none⟩=some (.string x.key)∧W.cell? ⟨g,o+i*6+4,none⟩=some (.string x.value)∧W.cell? ⟨g,o+i*6+5,none⟩=some (.string x.eW))∧x.key.size≤140737488355328∧x.value.size≤140737488355328∧x.n≤9223372036854775807) len (fun i hi=>by
  obtain ⟨g,off,cs,ha,_,⟨k,at1,n,b1,b2,b3,rfl,h1,h2,h3⟩,_,bh⟩:=hc i hi;exact ⟨⟨k,at1,n,b1,b2,b3⟩,⟨g,off,ha,bh 0 (by omega),bh 1 (by omega),bh 2 (by omega),bh 3 (by omega),bh 4 (by omega),bh 5 (by omega)⟩,h1,h2,h3⟩)
 refine ⟨l,⟨a,cap,by rw [hv,I8],fun j hj=>(hp j hj).1⟩,?_,fun s hs=>?_⟩
 ·rw [zO] at hl;omega
 ·obtain ⟨j,hj,rfl⟩:=aQ hs;exact (hp j hj).2
theorem Qg:prog.cellsOf 37=2:=by kernel_rfl
end Go.Proofs.YtihmgigfkmofnaaGreatDoor.T
namespace Go.Proofs.YtihmgigfkmofnaaGreatDoor
namespace T
open Go.ChangeShapes Go.WideShapes Go.ChangeAt Go.WideMaps Go.WideElems Go.RowKit Go.Joins
theorem vT{W:World}(h:laidMetH prog Rows.treeApartRow.laid W):∃ A,S.Env W.heap.size A W∧dA 13 eR A W∧(∀ i,i<13→eR i<W.heap.size∧(A i).block<W.heap.size)∧Q.Env W.heap.size A W:=by
 rw [MakeChecks.laidMetH_plain _ _ _ (by kernel_rfl)] at h
 obtain ⟨A,hA⟩:=zg (h.filter Sz);have hT:=S.nU (h.filter VD);have hL:=S.DJ (h.filter Ys);have hQ:=Q.Ws hA (Q.nU (h.filter Q.Yr));refine ⟨A,⟨⟨(hA.1 0 (by decide)).1,(hA.1 2 (by decide)).1,(hA.1 7 (by decide)).1,⟨World.block_lt_of_cell? W _ (hA.1 0 (by decide)).1,World.block_lt_of_cell? W _ (hA.1 2 (by decide)).1,World.block_lt_of_cell? W _ (hA.1 7 (by decide)).1⟩,aj _⟩,(hA.1 1 (by decide)).1,⟨World.block_lt_of_cell? W _ (hA.1 1 (by decide)).1,hL.1,hT.2⟩,hL,hT⟩,hA,fun i hi=>?_,hQ⟩
 obtain ⟨h1,c,t,h2⟩:=hA.1 i hi;exact ⟨World.block_lt_of_cell? W _ h1,(Array.getElem?_eq_some_iff.1 h2).1⟩
theorem L3:prog.cellsOf 76=6:=by kernel_rfl
theorem Kt{H:Type}{enc:TypeId × Value→H}{W:World}{r:Reach}{b0:Nat}{v:Value}{d:DataW H}{p:List MemPlace}(hv:Value.okWide prog W r b0 76 v)(h:DataW.Trod enc prog W 0 (fun _=>true) true 76 v d p)(hw:∀ z ∈ d.weights prog 76,z≤reachBytes):∃ px sx pa sa pb sb kx ka kb,v = .agg #[.int .i64 px,sx,.int .i64 pa,sa,.int .i64 pb,sb]∧(pG W sx kx∧kx.length≤140737488355328∧Hp kx)∧(pG W sa ka∧Hp ka)∧(pG W sb kb∧Hp kb):=by
 obtain ⟨cs,rfl,b7⟩:=okWide_struct underlying76 hv;rw [L3] at b7;obtain ⟨fuel,Ee⟩:=h;obtain ⟨xs,k',_,hxy,qN,VK,hf⟩:=DataW.trod_struct underlying76 Ee;obtain ⟨cl⟩:=cs;simp only [Value.cells] at hf;simp only [Prod.mk.injEq] at hxy;match xs,VK,cl,b7 with
 | [y0,y1,y2],_,[v0,v1,v2,v3,v4,v5],_ =>
  have g0:=hf 0 _ rfl;have g1:=hf 1 _ rfl;have g2:=hf 2 _ rfl;simp [Qg] at g0 g1 g2
  rw [hxy.1] at hw;have one:∀ {va vb:Value} {y:DataW H × List MemPlace},DataW.trod enc prog W 0 (fun _=>true) true k' 37 [va,vb]=some y→(∀ z ∈ y.1.weights prog 37,z≤reachBytes)→∃ wO ks,va = .int .i64 wO∧pG W vb ks∧ks.length≤140737488355328∧Hp ks:=by
   intro va vb y hy hwy;obtain ⟨xs,k2,_,acr,aiz,acu,Ed⟩:=DataW.trod_struct underlying37 hy;match xs,acu with
   | [z0,z1],_ =>
    have e0:=Ed 0 _ rfl;have e1:=Ed 1 _ rfl;simp [Ql,Qi] at e0 e1
    obtain ⟨k0,d0,rfl,w0⟩:=DataW.trod_int underlying3 e0;simp only [List.cons.injEq,and_true] at d0;rw [acr] at hwy;obtain ⟨ks,jv,qM,hk3⟩:=N6 k2 vb z1 e1 (fun z hz=>hwy z (by
     simp only [DataW.weights,underlying37,List.map_cons,List.map_nil,DataW.weightsEach];simp [hz]))
    exact ⟨k0,ks,d0,jv,qM,hk3⟩
  obtain ⟨px,kx,rfl,a1,a2,a3⟩:=one g0 (fun z hz=>hw z (by
   simp only [DataW.weights,underlying76,List.map_cons,List.map_nil,DataW.weightsEach];simp [hz]))
  obtain ⟨pa,ka,rfl,b1,b2,b3⟩:=one g1 (fun z hz=>hw z (by
   simp only [DataW.weights,underlying76,List.map_cons,List.map_nil,DataW.weightsEach];simp [hz]))
  obtain ⟨pb,kb,rfl,c1,c2,c3⟩:=one g2 (fun z hz=>hw z (by
   simp only [DataW.weights,underlying76,List.map_cons,List.map_nil,DataW.weightsEach];simp [hz]))
  exact ⟨px,v1,pa,v3,pb,v5,kx,ka,kb,rfl,⟨a1,a2,a3⟩,⟨b1,b3⟩,⟨c1,c3⟩⟩
end T
end Go.Proofs.YtihmgigfkmofnaaGreatDoor
