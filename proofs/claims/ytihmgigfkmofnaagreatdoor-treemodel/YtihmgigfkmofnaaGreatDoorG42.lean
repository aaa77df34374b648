import Derived.Test.YtihmgigfkmofnaaGreatDoorG41
import Derived.Test.YtihmgigfkmofnaaGreatDoorRows
import Derived.ProofKit
import Derived.LaidMore
import Derived.LaidSub
import Derived.Lay
import Derived.OpenShut
import Derived.Stop.Joined
import Derived.Lib.LaidTab
import Derived.Lib.SmallJoins
import Derived.SizedLaws
import Derived.ChangeMaps5
import Derived.Deep.Slices
set_option maxHeartbeats 16000000
set_option maxRecDepth 100000
open Go.Proofs.Tryz
namespace Go.Proofs.YtihmgigfkmofnaaGreatDoor
namespace T
open Go.RowKit
theorem Kn{base b2:Nat}{A:Nat→Addr}{w:World}(h:S.Env base A w)(h1:base≤b2)(h2:b2≤w.heap.size):S.Env b2 A w:=by
 obtain ⟨⟨a1,a2,a3,⟨b1,b2',b3⟩,hs⟩,c,⟨d1,d2,d3⟩,hL,hT⟩:=h;exact ⟨⟨a1,a2,a3,⟨by omega,by omega,by omega⟩,h2⟩,c,⟨by omega,by omega,by omega⟩,hL,hT⟩
theorem Kt{base b2:Nat}{A:Nat→Addr}{w:World}(h:Q.Env base A w)(h1:base≤b2)(h2:b2≤w.heap.size):Q.Env b2 A w :=
 ⟨h.errs,h.tab,fun i hi=>by have:=h.lo i hi;omega,by have:=h.lt;omega,h2⟩
theorem SE.eV{base:Nat}{A:Nat→Addr}{w0 w:World}{ob db i:Nat}(h:SE base A w0 w ob db i):Below base w0 w:=by
 obtain ⟨tb,fb,fg,F,d,r,T,wv,root,tx,h1,h2,h3,h4⟩:=h.out;exact h4.eV
theorem Hj{r':cQ}{key value:ByteArray}(hm:cP (key,value)=true)(hu:qZ key (fun l=>fc l key value) none r'):aC r'=[(key,value)]:=(lK (su hm) (r:=none) trivial hu).2
theorem Ar(key value:ByteArray):bh [(key,value)] key=true:=by
 have h:=cp [(key,value)] key;have h0:aJ [(key,value)] key=0:=mE (by simp) (fun j hj=>absurd hj (eX _)) (gS key)
 have:=mD (l:=[(key,value)]) (key:=key) (by rw [h0];simp)
 rw [this];simp [h0]
theorem Ol(key value:ByteArray):cU [(key,value)] key=[]:=by
 have h0:aJ [(key,value)] key=0:=mE (by simp) (fun j hj=>absurd hj (eX _)) (gS key)
 unfold cU bZ;rw [Ar,h0];simp
theorem KM{A:Nat→Addr}(rM:Int)(sv:Value)(ks:List LS)(w:World)(hE:S.Env w.heap.size A w)(hG:du 13 fl A w)(si:∀ i,i<13→fl i<w.heap.size∧(A i).block<w.heap.size)(Wk:Q.Env w.heap.size A w)(hs:Ms w sv ks)(_aiC:ks.length≤140737488355328)(jE:∀ s ∈ ks,s.key.size≤140737488355328∧s.value.size≤140737488355328∧s.n≤9223372036854775807):Calls prog 4 #[.agg #[.int .i64 rM,sv]] w fun e w'=>e = .returned (.bool true)∧Below w.heap.size w w':=by
 obtain ⟨sa,sc,hsv⟩ : ∃ a c,sv = .slice a ks.length c:=by obtain ⟨a,c,h,_⟩:=hs;exact ⟨a,c,h⟩
 subst hsv;obtain ⟨K,hK⟩ : ∃ K,K=ks.length:=⟨_,rfl⟩;rw [← hK] at hs ⊢;obtain ⟨W1,iy⟩ : ∃ W1,w.alloc (.cells #[.int .i64 rM,.slice sa K sc] 37)=W1:=⟨_,rfl⟩;have q0:=ai w (.cells #[.int .i64 rM,.slice sa K sc] 37);have x0:=B.ax.new w #[.int .i64 rM,.slice sa K sc] 37;rw [iy] at q0 x0;have Pd:W1.heap.size=w.heap.size+1:=by rw [← iy];simp
 obtain ⟨XB,pI⟩ : ∃ XB,XB=w.heap.size:=⟨_,rfl⟩;obtain ⟨base,hB⟩ : ∃ base,base=W1.heap.size:=⟨_,rfl⟩;have mh:=ab (KH (base:=base) (A:=A) W1 (Kt (Wk.keep q0) (by omega) (by omega)) (Kn (hE.up q0) (by omega) (by omega)) (hG.keep q0) (fun i hi=>by have:=si i hi;omega))
 have gY:=ab (hs.below q0);have HBS:Hid (base=W1.heap.size):=hB;have HX:Hid (B.ax W1 XB #[.int .i64 rM,.slice sa K sc] 37∧XB<base):=⟨by rw [pI];exact x0,by omega⟩
 have nY:Hid (∀ w',Below base W1 w'→Below w.heap.size w w'):=fun w' h=>by rw [hB] at h;exact Below.next q0 h
 have HK:=ab hK;have HKS:=ab jE;obtain ⟨Q0,PW⟩ : ∃ Q0:Ending→World→Prop,Q0=fun e w'=>e = .returned (.bool true)∧Below w.heap.size w w':=⟨_,rfl⟩
 rw [← PW];have HQ:=ab PW;have QV:=ab pI;have rn:=ab iy;clear hE hG si Wk hs jE hK q0 x0 Pd PW hB iy;go_enter func4,ntmps4;go_wp2_with fail;rw [rn.out,← pI];clear pI;refine mh.out.mono ?_
 rintro e w2 ⟨ob,db,tb,fb0,fg0,F0,d0,rfl,gC⟩;have Et:cP (⟨#[98,101,103,105,110]⟩,⟨#[49]⟩)=true:=by decide
 have aat:=ab (IY ⟨#[98,101,103,105,110]⟩ ⟨#[49]⟩ (r:=none) gC (by simp [aC]) (by simp [ByteArray.size]) (by simp [ByteArray.size]))
 have HM:=ab Et;clear gC mh Et;go_wp2_with fail;refine aat.out.mono ?_
 rintro e w3 ⟨rfl,r3,wv3,fs,jh,_⟩;have hu3:qZ ⟨#[98,101,103,105,110]⟩ (fun l=>fc l ⟨#[98,101,103,105,110]⟩ ⟨#[49]⟩) none r3:=by
  rcases fs with ⟨_,h⟩ | ⟨h,_⟩
  ·exact h
  ·exact absurd HM.out h
 have tM:=Hj HM.out hu3;have HDR:=ab (DG ⟨#[98,101,103,105,110]⟩ jh (by rw [tM];simp) (by simp [ByteArray.size]))
 have adW:=ab jh.ts.ok;have CC:=ab tM;clear fs jh hu3 aat tM;go_wp2_with fail;refine HDR.out.mono ?_
 rintro e w4 ⟨rfl,r4,wv4,fs,MN,_⟩;have Zw:aC r4=[]:=by
  rcases fs with ⟨_,_,hu⟩ | ⟨h,_⟩
  ·rw [(lK (fit_drop _) adW.out hu).2,CC.out];exact Ol _ _
  ·refine absurd ⟨?_,?_⟩ h
   ·decide
   ·rw [CC.out];exact Ar _ _
 have HHN:=ab (BA (v:=.slice none 0 0) MN (by rw [Zw];simp) (.inr ⟨rfl,Zw⟩))
 have p3:=MN.c.1;have aal:Hid (∀ w',Os base A W1 w' ob db tb fb0 fg0 F0 d0 r4 (Q.T0 4000) wv4 0 0 (aC r4)→SE base A W1 w' ob db 2):=fun w' h=>⟨tb,fb0,fg0,F0,d0,r4,_,wv4,0,0,by rw [Zw];simp,by omega,by rw [show (4000:Nat)=3998+2 from rfl,Bf 3998 (by decide)];decide,h⟩
 clear fs MN Zw HDR;go_wp2_with fail;refine HHN.out.mono ?_
 rintro e w5 ⟨rfl,ho5⟩;have HFW:=ab (aal.out w5 ho5);clear ho5 HHN p3 aal;go_wp2;go_loopw [4,5] (fun okv iv wr=>∃ i:Nat,okv = .bool true∧iv = .int .i64 (i:Int)∧i≤300∧i≤K∧SE base A W1 wr ob db (i+2)) (fun _ iv _=>300 - (intOf iv).toNat)
 case atStart=>exact ⟨0,rfl,rfl,by omega,aD _,HFW.out⟩
 case round =>
  obtain ⟨i,rfl,rfl,hi,hiK,hse⟩:=hrel;have FO:=ab hse;have xc:wr.cell? ⟨XB,1,none⟩=some (.slice sa K sc):=(hse.eV.cell (p:=⟨XB,1,none⟩) HX.out.2).trans HX.out.1.c1;clear hse HFW;by_cases bP:i<K∧i<300
  ·obtain ⟨V1,Ta⟩:=bP;have HI9:Hid (i+1≤300∧i+1≤K):=⟨by omega,by omega⟩
   have ahF:(i:Int)<(K:Int):=by omega
   have ahE:(i:Int)<300:=by omega
   have e0:(0:Int)≤(i:Int):=by omega
   have Zp:i<ks.length:=by have:=HK.out;omega
   obtain ⟨g,o,YI,s0,s1,s2,s3,s4,s5⟩:=(show ∀ j (h:j<ks.length),∃ g o,sa=some ⟨g,o,none⟩∧wr.cell? ⟨g,o+j*6,none⟩=some (.int .i64 ks[j].kind)∧wr.cell? ⟨g,o+j*6+1,none⟩=some (.int .i64 ks[j].at')∧wr.cell? ⟨g,o+j*6+2,none⟩=some (.int .i64 ks[j].n)∧wr.cell? ⟨g,o+j*6+3,none⟩=some (.string ks[j].key)∧wr.cell? ⟨g,o+j*6+4,none⟩=some (.string ks[j].value)∧wr.cell? ⟨g,o+j*6+5,none⟩=some (.string ks[j].iV) from fun j h=>by
    obtain ⟨a,c,hv,hc⟩:=gY.out;simp only [Value.slice.injEq] at hv;obtain ⟨rfl,-,-⟩:=hv;obtain ⟨g,o,ha,h0,h1,h2,h3,h4,h5⟩:=hc j h;have f:∀ {m:Nat} {u:Value},W1.cell? ⟨g,m,none⟩=some u→wr.cell? ⟨g,m,none⟩=some u:=fun {m u} hu=>(FO.out.eV.cell (p:=⟨g,m,none⟩) (by have h9:=HBS.out;have h8:g<W1.heap.size:=World.block_lt_of_cell? W1 _ hu;show g<base;omega)).trans hu
    exact ⟨g,o,ha,f h0,f h1,f h2,f h3,f h4,f h5⟩) i Zp
   have ji:=ab (HKS.out ks[i] (aH Zp));generalize ks[i]=st at s0 s1 s2 s3 s4 s5 ji;obtain ⟨kind,at',n,key,value,iV⟩:=st;simp only at s0 s1 s2 s3 s4 s5 ji;subst YI;have HSP:=ab (FO.out.step kind at' n key value iV (by omega) ji.out.1 ji.out.2.1 ji.out.2.2)
   clear ji;go_wp2_with fail;refine HSP.out.mono ?_
   rintro e w6 ⟨rfl,YH⟩;have adM:=ab YH;clear YH HSP s0 s1 s2 s3 s4 s5 xc;go_wp2;go_roundw
   case rel =>
    refine ⟨i+1,?_,?_,HI9.out.1,HI9.out.2,adM.out⟩
    ·rfl
    ·go_num
   case measure=>simp [intOf];omega
  ·have fs:(¬ (i:Int)<(K:Int))∨((i:Int)<(K:Int)∧¬ (i:Int)<300):=by omega
   obtain ⟨tb6,fb6,fg6,F6,d6,r6,T6,Vg,Uh,tx6,g1,g2,g3,YW⟩:=FO.out.out;have p3:=YW.c.1;have p4:=YW.c.2.1;have p3d:wr.drew.cell? ⟨ob,3,none⟩=some (.pointer (some ⟨tb6,0,none⟩)):=p3;have p4d:wr.drew.cell? ⟨ob,4,none⟩=some Vg:=p4;obtain ⟨wa,wn,wc,MJ⟩:=gR YW.want;have HH:Hid (∀ W,Below wr.heap.size wr W→Calls prog 23 #[.pointer (some ⟨tb6,0,none⟩),Vg] W fun e w'=>e = .returned (.bool true)∧Os base A W1 w' ob db tb6 fb6 fg6 F6 d6 r6 T6 Vg Uh tx6 (aC r6)):=fun W hW=>BA (YW.below hW) (by omega) (.inl ⟨rfl,rfl⟩)
   have HRE:Hid (∀ W,Os base A W1 W ob db tb6 fb6 fg6 F6 d6 r6 T6 Vg Uh tx6 (aC r6)→Calls prog 25 #[.pointer (some ⟨ob,0,none⟩)] W fun e w'=>e = .returned (.bool true)∧∃ tb7,w'.cell? ⟨ob,3,none⟩=some (.pointer (some ⟨tb7,0,none⟩))∧w'.cell? ⟨ob,4,none⟩=some Vg∧∀ W2,Below w'.heap.size w' W2→Calls prog 23 #[.pointer (some ⟨tb7,0,none⟩),Vg] W2 fun e w3=>e = .returned (.bool true)∧Below base W1 w3∧w3.cell? ⟨ob,4,none⟩=some Vg):=fun W ho=>by
    have uL:=ky ho.ts.ok;refine (xu ho (by omega) (by omega) (by omega)).mono fun e w' ⟨he,fi⟩=>⟨he,?_⟩
    obtain ⟨pP,Z5,Z4,F2,d2,L,Jm,gC,_⟩:=fi.out;have iB:aC (laid T6 r6)=aC r6:=(vP ho.ts.ok).2;rw [← iB] at gC;exact ⟨pP,gC.c.1,gC.c.2.1,fun W2 Hc=>(BA (gC.below Hc) (by rw [iB];omega) (.inl ⟨rfl,rfl⟩)).mono fun e w3 ⟨h1,h2⟩=>⟨h1,h2.eV,h2.c.2.1⟩⟩
   subst MJ;clear bP FO YW;rcases fs with h1 | ⟨h1,h2⟩
   all_goals
    go_wp2_with fail;refine wp_region_held_drew (S:=(fun w'=>w'.cell? ⟨ob,4,none⟩=some (.slice wa wn wc))) (by kernel_rfl) p4d (fun cR=>?_)
    refine wpAnyH_take (i:=0) (oi:={ dst:=some 46,op:=Op.move (Operand.tmp 4),type:=4,pos := "outright.go:222",after:=#[],guard:=none }) (v:=?_) rfl (by kernel_rfl) (by kernel_rfl) (by kernel_rfl) (fun _ _ _ h=>h) (Or.inl ⟨by rfl,?_⟩) (by assumption) ?_
    rotate_left
    ·(intro w' gJ;(try dsimp only at gJ);go_simp;try with_reducible rfl)
    simp only [Act.put,au,List.set_cons_zero,List.set_cons_succ];refine wpAnyH_take (i:=1) (oi:={ dst:=some 47,op:=Op.move (Operand.tmp 46),type:=4,pos := "outright.go:222",after:=#[{ on:=0,ground:=Ground.data }],guard:=none }) (v:=?_) rfl (by kernel_rfl) (by kernel_rfl) (by kernel_rfl) (fun _ _ _ h=>h) (Or.inl ⟨by rfl,?_⟩) (by assumption) ?_
    rotate_left
    ·(intro w' gJ;(try dsimp only at gJ);go_simp;try with_reducible rfl)
    simp only [Act.put,au,List.set_cons_zero,List.set_cons_succ];refine wpAnyH_take (i:=2) (oi:={ dst:=some 48,op:=Op.move (Operand.tmp 3),type:=26,pos := "outright.go:222",after:=#[{ on:=1,ground:=Ground.guard }],guard:=some (1,true) }) (v:=?_) rfl (by kernel_rfl) (by kernel_rfl) (by kernel_rfl) (fun _ _ _ h=>h) (Or.inl ⟨by rfl,?_⟩) (by assumption) ?_
    rotate_left
    ·(intro w' gJ;(try dsimp only at gJ);go_simp;try with_reducible rfl)
    simp only [Act.put,au,List.set_cons_zero,List.set_cons_succ];refine wpAnyH_take (i:=3) (oi:={ dst:=some 49,op:=Op.nilCheck (Operand.tmp 48),type:=0,pos := "outright.go:222",after:=#[{ on:=2,ground:=Ground.data },{ on:=1,ground:=Ground.guard }],guard:=some (1,true) }) (v:=?_) rfl (by kernel_rfl) (by kernel_rfl) (by kernel_rfl) (fun _ _ _ h=>h) (Or.inl ⟨by rfl,?_⟩) (by assumption) ?_
    rotate_left
    ·(intro w' gJ;(try dsimp only at gJ);go_simp;try with_reducible rfl)
    simp only [Act.put,au,List.set_cons_zero,List.set_cons_succ];refine wpAnyH_take (i:=4) (oi:={ dst:=some 50,op:=Op.fieldAddr 65 (Operand.tmp 49) 3,type:=0,pos := "outright.go:222",after:=#[{ on:=3,ground:=Ground.data },{ on:=1,ground:=Ground.guard }],guard:=some (1,true) }) (v:=?_) rfl (by kernel_rfl) (by kernel_rfl) (by kernel_rfl) (fun _ _ _ h=>h) (Or.inl ⟨by rfl,?_⟩) (by assumption) ?_
    rotate_left
    ·(intro w' gJ;(try dsimp only at gJ);go_simp;try with_reducible rfl)
    simp only [Act.put,au,List.set_cons_zero,List.set_cons_succ];refine wpAnyH_take (i:=6) (oi:={ dst:=some 52,op:=Op.move (Operand.tmp 3),type:=26,pos := "outright.go:222",after:=#[{ on:=1,ground:=Ground.guard }],guard:=some (1,true) }) (v:=?_) rfl (by kernel_rfl) (by kernel_rfl) (by kernel_rfl) (fun _ _ _ h=>h) (Or.inl ⟨by rfl,?_⟩) (by assumption) ?_
    rotate_left
    ·(intro w' gJ;(try dsimp only at gJ);go_simp;try with_reducible rfl)
    simp only [Act.put,au,List.set_cons_zero,List.set_cons_succ];refine wpAnyH_take (i:=7) (oi:={ dst:=some 53,op:=Op.nilCheck (Operand.tmp 52),type:=0,pos := "outright.go:222",after:=#[{ on:=6,ground:=Ground.data },{ on:=1,ground:=Ground.guard }],guard:=some (1,true) }) (v:=?_) rfl (by kernel_rfl) (by kernel_rfl) (by kernel_rfl) (fun _ _ _ h=>h) (Or.inl ⟨by rfl,?_⟩) (by assumption) ?_
    rotate_left
    ·(intro w' gJ;(try dsimp only at gJ);go_simp;try with_reducible rfl)
    simp only [Act.put,au,List.set_cons_zero,List.set_cons_succ];refine wpAnyH_take (i:=8) (oi:={ dst:=some 54,op:=Op.fieldAddr 65 (Operand.tmp 53) 4,type:=0,pos := "outright.go:222",after:=#[{ on:=7,ground:=Ground.data },{ on:=1,ground:=Ground.guard }],guard:=some (1,true) }) (v:=?_) rfl (by kernel_rfl) (by kernel_rfl) (by kernel_rfl) (fun _ _ _ h=>h) (Or.inl ⟨by rfl,?_⟩) (by assumption) ?_
    rotate_left
    ·(intro w' gJ;(try dsimp only at gJ);go_simp;try with_reducible rfl)
    simp only [Act.put,au,List.set_cons_zero,List.set_cons_succ];refine wpAnyH_take (i:=9) (oi:={ dst:=some 55,op:=Op.load 63 (Operand.tmp 54),type:=63,pos := "outright.go:222",after:=#[{ on:=8,ground:=Ground.data },{ on:=1,ground:=Ground.guard }],guard:=some (1,true) }) (v:=?_) rfl (by kernel_rfl) (by kernel_rfl) (by kernel_rfl) (fun _ _ _ h=>h) (Or.inl ⟨by rfl,?_⟩) (by assumption) ?_
    rotate_left
    ·(intro w' gJ;(try dsimp only at gJ);go_simp;try with_reducible rfl)
    simp only [Act.put,au,List.set_cons_zero,List.set_cons_succ];refine wpAnyH_ready (rs:=[5]) (by kernel_rfl) (by simp) ?_
    refine AllReadyH.cons (o:={ dst:=some 51,op:=Op.load 38 (Operand.tmp 50),type:=38,pos := "outright.go:222",after:=#[{ on:=4,ground:=Ground.data },{ on:=1,ground:=Ground.guard }],guard:=some (1,true) }) rfl (fun K hK=>?_) AllReadyH.nil
    clear cR;go_simp
    refine hK.out _ _ p4d (fun cR=>?_)
    clear hK K;refine wpAnyH_ready (rs:=[10]) (by kernel_rfl) (by simp) ?_
    refine AllReadyH.cons (o:={ dst:=some 56,op:=Op.call { callee:=Callee.value (Operand.func 23),args:=#[Operand.tmp 51,Operand.tmp 55],argTypes:=#[38,63] },type:=4,pos := "outright.go:222",after:=#[{ on:=5,ground:=Ground.data },{ on:=9,ground:=Ground.data },{ on:=1,ground:=Ground.chain },{ on:=1,ground:=Ground.guard }],guard:=some (1,true) }) rfl (fun K hK=>?_) AllReadyH.nil
    clear cR;go_simp
    refine (HH.out _ (by first | exact (Below.refl _ _).drew | exact aB (Below.refl _ _) _ | exact Below.refl _ _)).mono ?_
    rintro e w7 ⟨rfl,Pn⟩;have n4:=Pn.c.2.1;have HO7:=ab Pn;clear Pn;refine hK.out _ _ n4 (fun cR=>?_)
    clear hK K;refine wpAnyH_take (i:=11) (oi:={ dst:=some 57,op:=Op.pick (Operand.tmp 47) (Operand.tmp 56) (Operand.const (Value.bool false)),type:=4,pos := "outright.go:222",after:=#[{ on:=1,ground:=Ground.data },{ on:=10,ground:=Ground.data }],guard:=none }) (v:=?_) rfl (by kernel_rfl) (by kernel_rfl) (by kernel_rfl) (fun _ _ _ h=>h) (Or.inl ⟨by rfl,?_⟩) (by assumption) ?_
    rotate_left
    ·(intro w' gJ;(try dsimp only at gJ);go_simp;try with_reducible rfl)
    simp only [Act.put,au,List.set_cons_zero,List.set_cons_succ];refine wpAnyH_take (i:=12) (oi:={ dst:=some 58,op:=Op.move (Operand.tmp 57),type:=4,pos := "outright.go:222",after:=#[{ on:=11,ground:=Ground.data },{ on:=10,ground:=Ground.chain }],guard:=none }) (v:=?_) rfl (by kernel_rfl) (by kernel_rfl) (by kernel_rfl) (fun _ _ _ h=>h) (Or.inl ⟨by rfl,?_⟩) (by assumption) ?_
    rotate_left
    ·(intro w' gJ;(try dsimp only at gJ);go_simp;try with_reducible rfl)
    simp only [Act.put,au,List.set_cons_zero,List.set_cons_succ];refine wpAnyH_take (i:=13) (oi:={ dst:=some 59,op:=Op.move (Operand.tmp 3),type:=26,pos := "outright.go:222",after:=#[{ on:=12,ground:=Ground.guard }],guard:=some (12,true) }) (v:=?_) rfl (by kernel_rfl) (by kernel_rfl) (by kernel_rfl) (fun _ _ _ h=>h) (Or.inl ⟨by rfl,?_⟩) (by assumption) ?_
    rotate_left
    ·(intro w' gJ;(try dsimp only at gJ);go_simp;try with_reducible rfl)
    simp only [Act.put,au,List.set_cons_zero,List.set_cons_succ];refine wpAnyH_ready (rs:=[14]) (by kernel_rfl) (by simp) ?_
    refine AllReadyH.cons (o:={ dst:=some 60,op:=Op.call { callee:=Callee.value (Operand.func 25),args:=#[Operand.tmp 59],argTypes:=#[26] },type:=4,pos := "outright.go:222",after:=#[{ on:=13,ground:=Ground.data },{ on:=12,ground:=Ground.chain },{ on:=12,ground:=Ground.guard }],guard:=some (12,true) }) rfl (fun K hK=>?_) AllReadyH.nil
    clear cR;go_simp
    refine (HRE.out _ HO7.out).mono ?_
    rintro e w8 ⟨rfl,tb7,m3,m4,hh8⟩;have HH8:=ab hh8;clear hh8 HO7;refine hK.out _ _ m4 (fun cR=>?_)
    clear hK K;refine wpAnyH_take (i:=15) (oi:={ dst:=some 61,op:=Op.pick (Operand.tmp 58) (Operand.tmp 60) (Operand.const (Value.bool false)),type:=4,pos := "outright.go:222",after:=#[{ on:=12,ground:=Ground.data },{ on:=14,ground:=Ground.data }],guard:=none }) (v:=?_) rfl (by kernel_rfl) (by kernel_rfl) (by kernel_rfl) (fun _ _ _ h=>h) (Or.inl ⟨by rfl,?_⟩) (by assumption) ?_
    rotate_left
    ·(intro w' gJ;(try dsimp only at gJ);go_simp;try with_reducible rfl)
    simp only [Act.put,au,List.set_cons_zero,List.set_cons_succ];refine wpAnyH_take (i:=16) (oi:={ dst:=some 62,op:=Op.move (Operand.tmp 61),type:=4,pos := "outright.go:222",after:=#[{ on:=15,ground:=Ground.data },{ on:=14,ground:=Ground.chain }],guard:=none }) (v:=?_) rfl (by kernel_rfl) (by kernel_rfl) (by kernel_rfl) (fun _ _ _ h=>h) (Or.inl ⟨by rfl,?_⟩) (by assumption) ?_
    rotate_left
    ·(intro w' gJ;(try dsimp only at gJ);go_simp;try with_reducible rfl)
    simp only [Act.put,au,List.set_cons_zero,List.set_cons_succ];refine wpAnyH_take (i:=17) (oi:={ dst:=some 63,op:=Op.move (Operand.tmp 3),type:=26,pos := "outright.go:222",after:=#[{ on:=16,ground:=Ground.guard }],guard:=some (16,true) }) (v:=?_) rfl (by kernel_rfl) (by kernel_rfl) (by kernel_rfl) (fun _ _ _ h=>h) (Or.inl ⟨by rfl,?_⟩) (by assumption) ?_
    rotate_left
    ·(intro w' gJ;(try dsimp only at gJ);go_simp;try with_reducible rfl)
    simp only [Act.put,au,List.set_cons_zero,List.set_cons_succ];refine wpAnyH_take (i:=18) (oi:={ dst:=some 64,op:=Op.nilCheck (Operand.tmp 63),type:=0,pos := "outright.go:222",after:=#[{ on:=17,ground:=Ground.data },{ on:=16,ground:=Ground.guard }],guard:=some (16,true) }) (v:=?_) rfl (by kernel_rfl) (by kernel_rfl) (by kernel_rfl) (fun _ _ _ h=>h) (Or.inl ⟨by rfl,?_⟩) (by assumption) ?_
    rotate_left
    ·(intro w' gJ;(try dsimp only at gJ);go_simp;try with_reducible rfl)
    simp only [Act.put,au,List.set_cons_zero,List.set_cons_succ];refine wpAnyH_take (i:=19) (oi:={ dst:=some 65,op:=Op.fieldAddr 65 (Operand.tmp 64) 3,type:=0,pos := "outright.go:222",after:=#[{ on:=18,ground:=Ground.data },{ on:=16,ground:=Ground.guard }],guard:=some (16,true) }) (v:=?_) rfl (by kernel_rfl) (by kernel_rfl) (by kernel_rfl) (fun _ _ _ h=>h) (Or.inl ⟨by rfl,?_⟩) (by assumption) ?_
    rotate_left
    ·(intro w' gJ;(try dsimp only at gJ);go_simp;try with_reducible rfl)
    simp only [Act.put,au,List.set_cons_zero,List.set_cons_succ];refine wpAnyH_take (i:=21) (oi:={ dst:=some 67,op:=Op.move (Operand.tmp 3),type:=26,pos := "outright.go:222",after:=#[{ on:=16,ground:=Ground.guard }],guard:=some (16,true) }) (v:=?_) rfl (by kernel_rfl) (by kernel_rfl) (by kernel_rfl) (fun _ _ _ h=>h) (Or.inl ⟨by rfl,?_⟩) (by assumption) ?_
    rotate_left
    ·(intro w' gJ;(try dsimp only at gJ);go_simp;try with_reducible rfl)
    simp only [Act.put,au,List.set_cons_zero,List.set_cons_succ];refine wpAnyH_take (i:=22) (oi:={ dst:=some 68,op:=Op.nilCheck (Operand.tmp 67),type:=0,pos := "outright.go:222",after:=#[{ on:=21,ground:=Ground.data },{ on:=16,ground:=Ground.guard }],guard:=some (16,true) }) (v:=?_) rfl (by kernel_rfl) (by kernel_rfl) (by kernel_rfl) (fun _ _ _ h=>h) (Or.inl ⟨by rfl,?_⟩) (by assumption) ?_
    rotate_left
    ·(intro w' gJ;(try dsimp only at gJ);go_simp;try with_reducible rfl)
    simp only [Act.put,au,List.set_cons_zero,List.set_cons_succ];refine wpAnyH_take (i:=23) (oi:={ dst:=some 69,op:=Op.fieldAddr 65 (Operand.tmp 68) 4,type:=0,pos := "outright.go:222",after:=#[{ on:=22,ground:=Ground.data },{ on:=16,ground:=Ground.guard }],guard:=some (16,true) }) (v:=?_) rfl (by kernel_rfl) (by kernel_rfl) (by kernel_rfl) (fun _ _ _ h=>h) (Or.inl ⟨by rfl,?_⟩) (by assumption) ?_
    rotate_left
    ·(intro w' gJ;(try dsimp only at gJ);go_simp;try with_reducible rfl)
    simp only [Act.put,au,List.set_cons_zero,List.set_cons_succ];refine wpAnyH_take (i:=24) (oi:={ dst:=some 70,op:=Op.load 63 (Operand.tmp 69),type:=63,pos := "outright.go:222",after:=#[{ on:=23,ground:=Ground.data },{ on:=16,ground:=Ground.guard }],guard:=some (16,true) }) (v:=?_) rfl (by kernel_rfl) (by kernel_rfl) (by kernel_rfl) (fun _ _ _ h=>h) (Or.inl ⟨by rfl,?_⟩) (by assumption) ?_
    rotate_left
    ·(intro w' gJ;(try dsimp only at gJ);go_simp;try with_reducible rfl)
    simp only [Act.put,au,List.set_cons_zero,List.set_cons_succ];refine wpAnyH_ready (rs:=[20]) (by kernel_rfl) (by simp) ?_
    refine AllReadyH.cons (o:={ dst:=some 66,op:=Op.load 38 (Operand.tmp 65),type:=38,pos := "outright.go:222",after:=#[{ on:=19,ground:=Ground.data },{ on:=16,ground:=Ground.guard }],guard:=some (16,true) }) rfl (fun K hK=>?_) AllReadyH.nil
    clear cR;go_simp
    refine hK.out _ _ m4 (fun cR=>?_)
    clear hK K;refine wpAnyH_ready (rs:=[25]) (by kernel_rfl) (by simp) ?_
    refine AllReadyH.cons (o:={ dst:=some 71,op:=Op.call { callee:=Callee.value (Operand.func 23),args:=#[Operand.tmp 66,Operand.tmp 70],argTypes:=#[38,63] },type:=4,pos := "outright.go:222",after:=#[{ on:=20,ground:=Ground.data },{ on:=24,ground:=Ground.data },{ on:=16,ground:=Ground.chain },{ on:=16,ground:=Ground.guard }],guard:=some (16,true) }) rfl (fun K hK=>?_) AllReadyH.nil
    clear cR;go_simp
    refine (HH8.out _ (by first | exact (Below.refl _ _).drew | exact aB (Below.refl _ _) _ | exact Below.refl _ _)).mono ?_
    rintro e w9 ⟨rfl,Ct⟩;have Vd:=ab Ct.1;have z4:=Ct.2;clear Ct;refine hK.out _ _ z4 (fun cR=>?_)
    clear hK K;refine wpAnyH_take (i:=26) (oi:={ dst:=some 72,op:=Op.pick (Operand.tmp 62) (Operand.tmp 71) (Operand.const (Value.bool false)),type:=4,pos := "outright.go:222",after:=#[{ on:=16,ground:=Ground.data },{ on:=25,ground:=Ground.data }],guard:=none }) (v:=?_) rfl (by kernel_rfl) (by kernel_rfl) (by kernel_rfl) (fun _ _ _ h=>h) (Or.inl ⟨by rfl,?_⟩) (by assumption) ?_
    rotate_left
    ·(intro w' gJ;(try dsimp only at gJ);go_simp;try with_reducible rfl)
    simp only [Act.put,au,List.set_cons_zero,List.set_cons_succ];refine wpAnyH_take (i:=27) (oi:={ dst:=some 2,op:=Op.assign (Operand.tmp 72),type:=4,pos := "outright.go:222",after:=#[{ on:=26,ground:=Ground.data },{ on:=25,ground:=Ground.chain },{ on:=0,ground:=Ground.phase },{ on:=1,ground:=Ground.phase },{ on:=2,ground:=Ground.phase },{ on:=3,ground:=Ground.phase },{ on:=4,ground:=Ground.phase },{ on:=5,ground:=Ground.phase },{ on:=6,ground:=Ground.phase },{ on:=7,ground:=Ground.phase },{ on:=8,ground:=Ground.phase },{ on:=9,ground:=Ground.phase },{ on:=10,ground:=Ground.phase },{ on:=11,ground:=Ground.phase },{ on:=12,ground:=Ground.phase },{ on:=13,ground:=Ground.phase },{ on:=14,ground:=Ground.phase },{ on:=15,ground:=Ground.phase },{ on:=16,ground:=Ground.phase },{ on:=17,ground:=Ground.phase },{ on:=18,ground:=Ground.phase },{ on:=19,ground:=Ground.phase },{ on:=20,ground:=Ground.phase },{ on:=21,ground:=Ground.phase },{ on:=22,ground:=Ground.phase },{ on:=23,ground:=Ground.phase },{ on:=24,ground:=Ground.phase },{ on:=25,ground:=Ground.phase },{ on:=26,ground:=Ground.phase }],guard:=none }) (v:=?_) rfl (by kernel_rfl) (by kernel_rfl) (by kernel_rfl) (fun _ _ _ h=>h) (Or.inl ⟨by rfl,?_⟩) (by assumption) ?_
    rotate_left
    ·(intro w' gJ;(try dsimp only at gJ);go_simp;try with_reducible rfl)
    simp only [Act.put,au,List.set_cons_zero,List.set_cons_succ];refine wpAnyH_done (by kernel_rfl) ?_ _
    clear cR;go_wp2;rw [HQ.out];exact ⟨rfl,nY.out _ Vd.out⟩
end T
end Go.Proofs.YtihmgigfkmofnaaGreatDoor
namespace Go.Proofs.YtihmgigfkmofnaaGreatDoor.S
open Go.ChangeShapes Go.WideShapes Go.ChangeAt Go.WideMaps Go.WideElems Go.RowKit
theorem P8:prog.globalNamed "copse/codec.halfByteSteps" = some 15:=by kernel_rfl
theorem Vi:(prog.globals[15]?).map (·.type)=some 330:=by kernel_rfl
theorem Z2:prog.globalNamed "copse/sheet.layout" = some 14:=by kernel_rfl
theorem abU:(prog.globals[14]?).map (·.type)=some 327:=by kernel_rfl
theorem TK:prog.cellsOf 225=1:=by kernel_rfl
theorem yu:prog.cellsOf 330=16:=by kernel_rfl
theorem E1:prog.cellsOf 3=1:=by kernel_rfl
theorem Qy:prog.cellsOf 327=10:=by kernel_rfl
theorem Qw:prog.cellsOf 326=2:=by kernel_rfl
theorem om{W:World}(h:laidMet prog [("copse/codec.halfByteSteps",Rows.laid_copse_codec_halfByteSteps)] W):Fi W:=by
 have e:(Rows.laid_copse_codec_halfByteSteps:DataW Unit)=Lib.tabData .u32 (J9.map Int.ofNat):=by simp [Rows.laid_copse_codec_halfByteSteps,Lib.tabData,J9]
 rw [e] at h;have hv:=Lib.tabIs_of_head P8 Vi underlying330 underlying225 TK yu h;have hc:=World.var?_cell P8 hv;have h16:∀ j,j<16→W.cell? ⟨15,j,none⟩=some (.int .u32 (tab j:Nat)):=by
  intro j hj;have h1:=hc j;rw [h1];have:∀ i:Fin 16,((J9.map Int.ofNat).map fun z=>Value.int .u32 z).toArray[i.1]?=some (.int .u32 ((tab i.1:Nat):Int)):=by
   intro i;simp only [eH,List.getElem?_toArray,aL];have hi:i.1<J9.length:=i.2;rw [af hi];simp only [kC,Function.comp];unfold tab;rw [List.getD,af hi];rfl
  exact this ⟨j,hj⟩
 refine ⟨h16,?_⟩;exact World.block_lt_of_cell? W _ (h16 0 (by decide))
theorem jq{W:World}{m:Nat}{a b:Value}{y:DataW Unit × List MemPlace}{p q:Int}(h:DataW.trod (fun _=>()) prog W 0 (fun _=>true) false m 326 [a,b]=some y)(hy:y.1 = .agg [.lit (.int .i64 p),.lit (.int .i64 q)]):a = .int .i64 p∧b = .int .i64 q:=by
 obtain ⟨y0,y1,n,rfl,_,h0,h1⟩:=trod_struct2 underlying326 h;have Lq:DataW.trod (fun _=>()) prog W 0 (fun _=>true) false n 3 [a]=some y0:=by simpa [E1] using h0
 have Jo:DataW.trod (fun _=>()) prog W 0 (fun _=>true) false n 3 [b]=some y1:=by simpa [E1] using h1
 obtain ⟨k0,e0,rfl,_⟩:=DataW.trod_int underlying3 Lq;obtain ⟨k1,e1,rfl,_⟩:=DataW.trod_int underlying3 Jo;simp only [List.cons.injEq,and_true] at e0 e1;subst e0 e1;simp only [DataW.agg.injEq,List.cons.injEq,DataW.lit.injEq,Lit.int.injEq,true_and,and_true] at hy;obtain ⟨rfl,rfl⟩:=hy;exact ⟨rfl,rfl⟩
theorem D3{W:World}(h:laidMet prog [("copse/sheet.layout",Rows.laid_copse_sheet_layout)] W):Lay W:=by
 obtain ⟨ps,⟨g,t,cs,fuel,p,q,hg,ht,SU,hd,_,_⟩,_,_⟩:=h;obtain rfl:=Option.some.inj (Z2.symm.trans hg);obtain rfl:=Option.some.inj (abU.symm.trans ht);have hc:=World.var?_cell Z2 SU;obtain ⟨xs,m,_,hx,rl,Yp,hf⟩:=DataW.trod_array underlying327 hd;rw [Qy] at rl;obtain ⟨cl⟩:=cs;match xs,Yp,cl,rl with
 | [y0,y1,y2,y3,y4],_,[v0,v1,v2,v3,v4,v5,v6,v7,v8,v9],_ =>
  have g0:=hf 0 (by decide)
  have g1:=hf 1 (by decide)
  have g2:=hf 2 (by decide)
  have g3:=hf 3 (by decide)
  have g4:=hf 4 (by decide)
  simp [Qw] at g0 g1 g2 g3 g4
  have sN:=congrArg Prod.fst hx;simp only [Rows.laid_copse_sheet_layout,List.map_cons,List.map_nil,DataW.agg.injEq,List.cons.injEq,and_true] at sN;obtain ⟨x0,x1,x2,x3,x4⟩:=sN;obtain ⟨rfl,rfl⟩:=jq g0 x0.symm;obtain ⟨rfl,rfl⟩:=jq g1 x1.symm;obtain ⟨rfl,rfl⟩:=jq g2 x2.symm;obtain ⟨rfl,rfl⟩:=jq g3 x3.symm;obtain ⟨rfl,rfl⟩:=jq g4 x4.symm;have k0:=hc 0;have k1:=hc 1;have k2:=hc 2;have k3:=hc 3;have k4:=hc 4;have k5:=hc 5;have k6:=hc 6;have k7:=hc 7;have k8:=hc 8;have k9:=hc 9;simp at k0 k1 k2 k3 k4 k5 k6 k7 k8 k9
  exact ⟨World.block_lt_of_cell? W _ k0,k0,k1,k2,k3,k4,k5,k6,k7,k8,k9⟩
end Go.Proofs.YtihmgigfkmofnaaGreatDoor.S
namespace Go.Proofs.YtihmgigfkmofnaaGreatDoor
open Go.ChangeShapes Go.WideShapes Go.ChangeAt Go.WideMaps Go.WideElems Go.RowKit Go.Joins
theorem own:ownKnob prog.godebug=none:=by kernel_rfl
theorem laidOut:laidOutB prog=true:=by kernel_rfl
def BX:List (String × List UInt8):=[("copse/api.ErrArg",ie Rows.laid_copse_api_ErrArg),("copse/api.ErrText",ie Rows.laid_copse_api_ErrText),("copse/api.ErrMany",ie Rows.laid_copse_api_ErrMany),("copse/api.ErrShort",ie Rows.laid_copse_api_ErrShort),("copse/api.ErrTwice",ie Rows.laid_copse_api_ErrTwice),("copse/api.ErrLost",ie Rows.laid_copse_api_ErrLost),("copse/api.ErrFull",ie Rows.laid_copse_api_ErrFull),("copse/api.ErrDead",ie Rows.laid_copse_api_ErrDead),("copse/api.ErrCorrupt",ie Rows.laid_copse_api_ErrCorrupt),("copse/api.ErrStatus",ie Rows.laid_copse_api_ErrStatus),("copse/api.ErrTxid",ie Rows.laid_copse_api_ErrTxid),("copse/api.ErrOrder",ie Rows.laid_copse_api_ErrOrder),("copse/api.ErrKind",ie Rows.laid_copse_api_ErrKind)]
theorem LH:BX.map Ow++[]=[("copse/api.ErrArg",Rows.laid_copse_api_ErrArg),("copse/api.ErrText",Rows.laid_copse_api_ErrText),("copse/api.ErrMany",Rows.laid_copse_api_ErrMany),("copse/api.ErrShort",Rows.laid_copse_api_ErrShort),("copse/api.ErrTwice",Rows.laid_copse_api_ErrTwice),("copse/api.ErrLost",Rows.laid_copse_api_ErrLost),("copse/api.ErrFull",Rows.laid_copse_api_ErrFull),("copse/api.ErrDead",Rows.laid_copse_api_ErrDead),("copse/api.ErrCorrupt",Rows.laid_copse_api_ErrCorrupt),("copse/api.ErrStatus",Rows.laid_copse_api_ErrStatus),("copse/api.ErrTxid",Rows.laid_copse_api_ErrTxid),("copse/api.ErrOrder",Rows.laid_copse_api_ErrOrder),("copse/api.ErrKind",Rows.laid_copse_api_ErrKind)]:=rfl
theorem Hl:((List.range 13).all fun i=>match BX[i]? with
  | some x=>(prog.globalNamed x.1 == some (fl i)) && ((prog.globals[fl i]?).map (·.type) == some 32)
  | none=>false)=true:=by kernel_rfl
theorem EL:∀ i x,BX[i]?=some x→prog.globalNamed x.1=some (fl i)∧(prog.globals[fl i]?).map (·.type)=some 32:=by
 intro i x hx;have hi:i<13:=by
  rcases a7 i 13 with h | h
  ·exact h
  ·rw [bE (by exact h)] at hx;cases hx
 have h:=List.all_eq_true.1 Hl i (List.mem_range.2 hi);rw [hx] at h;simpa using h
def SM(x:String × DataW Unit):Bool:=x.1 == "copse/api.ErrArg" || x.1 == "copse/api.ErrText" || x.1 == "copse/api.ErrMany" || x.1 == "copse/api.ErrShort" || x.1 == "copse/api.ErrTwice" || x.1 == "copse/api.ErrLost" || x.1 == "copse/api.ErrFull" || x.1 == "copse/api.ErrDead" || x.1 == "copse/api.ErrCorrupt" || x.1 == "copse/api.ErrStatus" || x.1 == "copse/api.ErrTxid" || x.1 == "copse/api.ErrOrder" || x.1 == "copse/api.ErrKind"
theorem zK{W:World}(h:laidMet prog [("copse/api.ErrArg",Rows.laid_copse_api_ErrArg),("copse/api.ErrText",Rows.laid_copse_api_ErrText),("copse/api.ErrMany",Rows.laid_copse_api_ErrMany),("copse/api.ErrShort",Rows.laid_copse_api_ErrShort),("copse/api.ErrTwice",Rows.laid_copse_api_ErrTwice),("copse/api.ErrLost",Rows.laid_copse_api_ErrLost),("copse/api.ErrFull",Rows.laid_copse_api_ErrFull),("copse/api.ErrDead",Rows.laid_copse_api_ErrDead),("copse/api.ErrCorrupt",Rows.laid_copse_api_ErrCorrupt),("copse/api.ErrStatus",Rows.laid_copse_api_ErrStatus),("copse/api.ErrTxid",Rows.laid_copse_api_ErrTxid),("copse/api.ErrOrder",Rows.laid_copse_api_ErrOrder),("copse/api.ErrKind",Rows.laid_copse_api_ErrKind)] W):∃ A,du 13 fl A W:=by
 obtain ⟨A,hA,_⟩:=Tq (rest:=[]) fl (show BX.length=13 from rfl) EL (by rw [LH];exact h)
 exact ⟨A,hA⟩
namespace T
def VB(x:String × DataW Unit):Bool:=x.1 == "copse/codec.halfByteSteps"
def Ym(x:String × DataW Unit):Bool:=x.1 == "copse/sheet.layout"
end T
end Go.Proofs.YtihmgigfkmofnaaGreatDoor
namespace Go.Proofs.YtihmgigfkmofnaaGreatDoor
namespace T
open Go.ChangeShapes Go.WideShapes Go.ChangeAt Go.WideMaps Go.WideElems Go.RowKit Go.Joins
theorem og{H:Type}{P:Program}{e:TypeId}:∀ {l:List (DataW H)} {d:DataW H},d ∈ l→∀ n ∈ d.weights P e,n ∈ DataW.weightsAll P e l
 | d'::r,d,hd,n,hn=>by
  simp only [DataW.weightsAll,cA];rcases List.mem_cons.1 hd with rfl | h
  ·exact Or.inl hn
  ·exact Or.inr (og h n hn)
theorem Kh{W:World}{a:Addr}{v:Value}(h:W.cell? a=some v):a=⟨a.block,a.off,none⟩:=by
 have FC:a.spot=none:=by
  unfold World.cell? at h;split at h
  ·split at h
   ·cases h
   ·rename_i hs;simpa using hs
  ·cases h
 cases a;simp at FC;rw [FC]
theorem add_plain(b o c:Nat):(⟨b,o,none⟩ : Addr).add c=⟨b,o+c,none⟩:=by
 unfold Addr.add;split
 ·rename_i h;rw [h,Nat.add_zero]
 ·rfl
theorem KI{H:Type}{enc:TypeId × Value→H}{W:World}{t e:TypeId}{size bs:Nat}(hu:prog.underlying t=some (.slice e))(hc:prog.cellsOf e=size)(hy:prog.bytesOf e=bs)(hp:0<size)(R:List Value→Prop)(fuel:Nat)(v:Value)(x:DataW H × List MemPlace)(h:DataW.trod enc prog W 0 (fun _=>true) true fuel t [v]=some x)(hw:∀ z ∈ x.1.weights prog t,z≤reachBytes)(each:∀ k cs y,DataW.trod enc prog W 0 (fun _=>true) true k e cs=some y→cs.length=size→(∀ z ∈ y.1.weights prog e,z≤reachBytes)→R cs):∃ (a:Option Addr) (len cap:Nat),v = .slice a len cap∧len*bs≤reachBytes∧∀ i,i<len→∃ g off cs,a=some ⟨g,off,none⟩∧g<W.heap.size∧R cs∧cs.length=size∧∀ j,j<size→W.cell? ⟨g,off+i*size+j,none⟩=cs[j]?:=by
 rcases DataW.trod_slice hu h with ⟨h0,_⟩ | ⟨a,len,cap,elems,rest,n,hn,hv,hx,_,hl,hm,hlen,hel,_⟩
 ·simp only [List.cons.injEq,and_true] at h0;subst h0;exact ⟨none,0,0,rfl,by rw [Nat.zero_mul];exact aD _,fun i h=>absurd h (by simp)⟩
 ·simp only [List.cons.injEq,and_true] at hv;subst hv hx hn;have hwt:(elems.length+rest.length)*bs≤reachBytes:=hw _ (by
   simp only [DataW.weights,hu,hy,aA];exact dq)
  have hlB:len*bs≤reachBytes:=al (Nat.mul_le_mul_right bs (by omega)) hwt
  have UO:∀ i,i<len→∃ cs,R cs∧cs.length=size∧∀ j,j<size→W.cell? ((a.add (i*size)).add j)=cs[j]?:=by
   intro i hi;have h1:=hel i hi;rw [hc,af (by omega)] at h1
   obtain ⟨Z9,h2,h3⟩:=Option.bind_eq_some_iff.1 h1;obtain ⟨_,rl,aX⟩:=World.cells?_some h2;refine ⟨Z9,each n Z9 _ h3 rl (fun z hz=>hw z ?_),rl,fun j hj=>aX j (by omega)⟩
   simp only [DataW.weights,hu];exact dU _ (dV _ (og (List.mem_map.2 ⟨elems[i],aH (by omega),rfl⟩) z hz))
  refine ⟨some a,len,cap,rfl,hlB,fun i hi=>?_⟩
  obtain ⟨cs0,_,Rq,yh⟩:=UO 0 (by omega)
  have h00:=yh 0 hp;rw [Nat.zero_mul,af (by omega)] at h00
  have ea:=Kh (a:=a) h00;obtain ⟨cs,hr,V1,AS⟩:=UO i hi;refine ⟨a.block,a.off,cs,congrArg some ea,World.block_lt_of_cell? W a h00,hr,V1,fun j hj=>?_⟩
  have:=AS j hj;rw [ea,add_plain,add_plain] at this;exact this
theorem I6{α:Type}{P:Nat→α→Prop}:∀ (n:Nat),(∀ i,i<n→∃ x,P i x)→∃ l:List α,l.length=n∧∀ i (h:i<l.length),P i l[i]
 | 0,_=>⟨[],rfl,fun i h=>by simp at h⟩
 | n+1,h=>by
  obtain ⟨l,hl,hp⟩:=I6 n fun i hi=>h i (by omega)
  obtain ⟨x,hx⟩:=h n (by omega)
  refine ⟨l++[x],by simp [hl],fun i hi=>?_⟩
  by_cases bP:i<l.length
  ·rw [aI bP];exact hp i bP
  ·have:i=l.length:=by simp at hi;omega
   subst this;rw [bt (aj _)];simp [hl] at hx ⊢
   exact hx
theorem QA:prog.cellsOf 3=1:=by kernel_rfl
theorem Wv:prog.cellsOf 9=1:=by kernel_rfl
theorem TJ:prog.cellsOf 44=6:=by kernel_rfl
theorem TM:prog.bytesOf 44=72:=by kernel_rfl
theorem Qx:prog.cellsOf 23=1:=by kernel_rfl
theorem Aj:reachBytes=140737488351232:=rfl
end T
end Go.Proofs.YtihmgigfkmofnaaGreatDoor
namespace Go.Proofs.YtihmgigfkmofnaaGreatDoor.Q
open Go.ChangeShapes Go.WideShapes Go.ChangeAt Go.WideMaps Go.WideElems Go.RowKit Go.Joins
theorem P8:prog.globalNamed "math/bits.deBruijn64tab" = some 13:=by kernel_rfl
theorem Vi:(prog.globals[13]?).map (·.type)=some 266:=by kernel_rfl
theorem Ht:prog.cellsOf 5=1:=by kernel_rfl
theorem yu:prog.cellsOf 266=64:=by kernel_rfl
def Yl(x:String × DataW Unit):Bool:=x.1 == "math/bits.deBruijn64tab"
theorem om{W:World}(h:laidMet prog [("math/bits.deBruijn64tab",Rows.laid_math_bits_deBruijn64tab)] W):uo W:=by
 have e:(Rows.laid_math_bits_deBruijn64tab:DataW Unit)=Lib.tabData .u8 (Lib.deBruijn64tab.map Int.ofNat):=by simp [Rows.laid_math_bits_deBruijn64tab,Lib.tabData,Lib.deBruijn64tab]
 rw [e] at h;have hv:=Lib.tabIs_of_head P8 Vi underlying266 underlying5 Ht yu h;have hc:=World.var?_cell P8 hv;intro j hj;rw [hc j];have hi:j<Lib.deBruijn64tab.length:=hj;simp only [eH,List.getElem?_toArray,aL];rw [af hi];simp only [kC,Function.comp];rw [List.getD,af hi];rfl
theorem Ws{W:World}{A:Nat→Addr}(hE:du 13 fl A W)(hT:uo W):Env W.heap.size A W:=by
 refine ⟨hE,hT,fun i hi=>?_,World.block_lt_of_cell? W _ (hT 0 (by decide)),aj _⟩
 obtain ⟨h1,c,t,h2⟩:=hE.1 i hi;exact ⟨World.block_lt_of_cell? W _ h1,lt_of_heap h2⟩
end Go.Proofs.YtihmgigfkmofnaaGreatDoor.Q
namespace Go.Proofs.YtihmgigfkmofnaaGreatDoor.T
open Go.ChangeShapes Go.WideShapes Go.ChangeAt Go.WideMaps Go.WideElems Go.RowKit Go.Joins
theorem Oj{H:Type}{enc:TypeId × Value→H}{W:World}(fuel:Nat)(v:Value)(x:DataW H × List MemPlace)(h:DataW.trod enc prog W 0 (fun _=>true) true fuel 23 [v]=some x)(hw:∀ z ∈ x.1.weights prog 23,z≤reachBytes):∃ l:List LS,Ms W v l∧l.length≤140737488355328∧∀ s ∈ l,s.key.size≤140737488355328∧s.value.size≤140737488355328∧s.n≤9223372036854775807:=by
 obtain ⟨a,len,cap,hv,hl,hc⟩:=KI underlying23 TJ TM (by decide) (fun cs=>∃ (k a n:Int) (b1 b2 b3:ByteArray),cs=[.int .i64 k,.int .i64 a,.int .i64 n,.string b1,.string b2,.string b3]∧b1.size≤140737488355328∧b2.size≤140737488355328∧n≤9223372036854775807) fuel v x h hw (by
  intro k cs y hy rl hw;obtain ⟨xs,k',_,hxy,_,Yp,hf⟩:=DataW.trod_struct underlying44 hy;match xs,Yp,cs,rl with
  | [y0,y1,y2,y3,y4,y5],_,[v0,v1,v2,v3,v4,v5],_ =>
   have g0:=hf 0 _ rfl;have g1:=hf 1 _ rfl;have g2:=hf 2 _ rfl;have g3:=hf 3 _ rfl;have g4:=hf 4 _ rfl;have g5:=hf 5 _ rfl;simp [QA,Wv] at g0 g1 g2 g3 g4 g5
   obtain ⟨k0,d0,rfl,w0⟩:=DataW.trod_int underlying3 g0;obtain ⟨k1,d1,rfl,w1⟩:=DataW.trod_int underlying3 g1;obtain ⟨k2,d2,rfl,w2⟩:=DataW.trod_int underlying3 g2;obtain ⟨b3,d3,rfl,w3⟩:=DataW.trod_string underlying9 g3;obtain ⟨b4,d4,rfl,w4⟩:=DataW.trod_string underlying9 g4;obtain ⟨b5,d5,rfl,w5⟩:=DataW.trod_string underlying9 g5;simp only [List.cons.injEq,and_true] at d0 d1 d2 d3 d4 d5;subst d0 d1 d2 d3 d4 d5;rw [hxy] at hw;have h3:b3.size≤reachBytes:=hw b3.size (by simp [DataW.weights,underlying44,DataW.weightsEach])
   have h4:b4.size≤reachBytes:=hw b4.size (by simp [DataW.weights,underlying44,DataW.weightsEach])
   rw [Aj] at h3 h4;exact ⟨k0,k1,k2,b3,b4,b5,rfl,by omega,by omega,(bounds_i64 w2).2⟩)
 obtain ⟨l,Jh,hp⟩:=I6 (α:=LS) (P:=fun i x=>(∃ g o,a=some ⟨g,o,none⟩∧W.cell? ⟨g,o+i*6,none⟩=some (.int .i64 x.kind)∧W.cell? ⟨g,o+i*6+1,none⟩=some (.int .i64 x.at')∧W.cell? ⟨g,o+i*6+2,none⟩=some (.int .i64 x.n)∧W.cell? ⟨g,o+i*6+3,none⟩=some (.string x.key)∧W.cell? ⟨g,o+i*6+4,none⟩=some (.string x.value)∧W.cell? ⟨g,o+i*6+5,none⟩=some (.string x.iV))∧x.key.size≤140737488355328∧x.value.size≤140737488355328∧x.n≤9223372036854775807) len (fun i hi=>by
  obtain ⟨g,off,cs,ha,_,⟨k,at1,n,b1,b2,b3,rfl,h1,h2,h3⟩,_,aX⟩:=hc i hi;exact ⟨⟨k,at1,n,b1,b2,b3⟩,⟨g,off,ha,aX 0 (by omega),aX 1 (by omega),aX 2 (by omega),aX 3 (by omega),aX 4 (by omega),aX 5 (by omega)⟩,h1,h2,h3⟩)
 refine ⟨l,⟨a,cap,by rw [hv,Jh],fun j hj=>(hp j hj).1⟩,?_,fun s hs=>?_⟩
 ·rw [Aj] at hl;omega
 ·obtain ⟨j,hj,rfl⟩:=aQ hs;exact (hp j hj).2
theorem Qv:prog.cellsOf 37=2:=by kernel_rfl
theorem Oi{H:Type}{enc:TypeId × Value→H}{W:World}{r:Reach}{b0:Nat}{v:Value}{d:DataW H}{p:List MemPlace}(hv:Value.okWide prog W r b0 37 v)(h:DataW.Trod enc prog W 0 (fun _=>true) true 37 v d p)(hw:∀ z ∈ d.weights prog 37,z≤reachBytes):∃ rM sv ks,v = .agg #[.int .i64 rM,sv]∧Ms W sv ks∧ks.length≤140737488355328∧∀ s ∈ ks,s.key.size≤140737488355328∧s.value.size≤140737488355328∧s.n≤9223372036854775807:=by
 obtain ⟨cs,rfl,cx⟩:=okWide_struct underlying37 hv;rw [Qv] at cx;obtain ⟨fuel,MO⟩:=h;obtain ⟨xs,k',_,hxy,rl,Yp,hf⟩:=DataW.trod_struct underlying37 MO;obtain ⟨cl⟩:=cs;simp only [Value.cells] at hf;simp only [Prod.mk.injEq] at hxy;match xs,Yp,cl,cx with
 | [y0,y1],_,[v0,v1],_ =>
  have g0:=hf 0 _ rfl;have g1:=hf 1 _ rfl;simp [QA,Qx] at g0 g1
  obtain ⟨k0,d0,rfl,w0⟩:=DataW.trod_int underlying3 g0;simp only [List.cons.injEq,and_true] at d0;rw [hxy.1] at hw;obtain ⟨ks,jA,qg,Xw⟩:=Oj k' v1 y1 g1 (fun z hz=>hw z (by
   simp only [DataW.weights,underlying37,List.map_cons,List.map_nil,DataW.weightsEach];simp [hz]))
  exact ⟨k0,v1,ks,by rw [d0],jA,qg,Xw⟩
end Go.Proofs.YtihmgigfkmofnaaGreatDoor.T
namespace Go.Proofs.YtihmgigfkmofnaaGreatDoor
namespace T
open Go.ChangeShapes Go.WideShapes Go.ChangeAt Go.WideMaps Go.WideElems Go.RowKit Go.Joins
theorem wF{W:World}(h:laidMetH prog Rows.treeModelRow.laid W):∃ A,S.Env W.heap.size A W∧du 13 fl A W∧(∀ i,i<13→fl i<W.heap.size∧(A i).block<W.heap.size)∧Q.Env W.heap.size A W:=by
 rw [MakeChecks.laidMetH_plain _ _ _ (by kernel_rfl)] at h
 obtain ⟨A,hA⟩:=zK (h.filter SM);have hT:=S.om (h.filter VB);have hL:=S.D3 (h.filter Ym);have hQ:=Q.Ws hA (Q.om (h.filter Q.Yl));refine ⟨A,⟨⟨(hA.1 0 (by decide)).1,(hA.1 2 (by decide)).1,(hA.1 7 (by decide)).1,⟨World.block_lt_of_cell? W _ (hA.1 0 (by decide)).1,World.block_lt_of_cell? W _ (hA.1 2 (by decide)).1,World.block_lt_of_cell? W _ (hA.1 7 (by decide)).1⟩,aj _⟩,(hA.1 1 (by decide)).1,⟨World.block_lt_of_cell? W _ (hA.1 1 (by decide)).1,hL.1,hT.2⟩,hL,hT⟩,hA,fun i hi=>?_,hQ⟩
 obtain ⟨h1,c,t,h2⟩:=hA.1 i hi;exact ⟨World.block_lt_of_cell? W _ h1,(Array.getElem?_eq_some_iff.1 h2).1⟩
end T
end Go.Proofs.YtihmgigfkmofnaaGreatDoor
