import Derived.Test.YtihmgigfkmofnaaGreatDoorG36
set_option maxHeartbeats 8000000
set_option maxRecDepth 100000
open Go.Proofs.Tryz
namespace Go.Proofs.YtihmgigfkmofnaaGreatDoor
namespace T
open Go.RowKit
theorem LY(a:Option Addr)(m c:Nat)(l:List W.Lk)(q:W.Lk)(n:SN)(pv lv cv:Value)(w:World)(hm:m=l.length)(jD:m≤100000)(hr:W.dm w (.slice a (m+1) c) (l++[q]))(hs:dP w q.1 n pv lv cv)(cY:n.ps≠[]):Calls prog 53 #[.slice a (m+1) c,.nilIface] w fun e w'=>e = .returned (.tuple #[.agg #[.string (iy n.ps).1,.string (iy n.ps).2],.bool true,.nilIface])∧Below w.heap.size w w':=by
 have q0:=ai w (.cells #[.string ⟨#[]⟩,.string ⟨#[]⟩] 52);have x0:=B.au.new w #[.string ⟨#[]⟩,.string ⟨#[]⟩] 52;have HX:=ab x0;have z0:=x0.c0;have z1:=x0.c1;have y0:=x0.free 0;have y1:=x0.free 1;have vY:=ab q0;have wQ:=ab (jk a m c l q n pv lv cv _ hm jD (by
  obtain ⟨a',cap,e,hle,hn,hc⟩:=hr;exact ⟨a',cap,e,hle,hn,fun j hj=>by
   obtain ⟨g,o,ha,h1,h2⟩:=hc j hj;exact ⟨g,o,ha,(q0.cell (p:=⟨g,o+j*2,none⟩) (World.block_lt_of_cell? w _ h1)).trans h1,(q0.cell (p:=⟨g,o+j*2+1,none⟩) (World.block_lt_of_cell? w _ h2)).trans h2⟩⟩) (hs.below q0))
 have FY:=ab (hs.iH.below q0);have HF:Hid (n.ps.length≤4000):=hs.fine.2.1;obtain ⟨xa,xc,wG⟩:=hs.iH.form;subst wG;obtain ⟨M,hM⟩ : ∃ M,M=m+1:=⟨_,rfl⟩;rw [← hM] at wQ ⊢;clear q0 x0 hr hs hm jD hM;obtain ⟨N,hN⟩ : ∃ N,N=n.ps.length:=⟨_,rfl⟩;have HN:=ab hN;rw [← hN] at wQ FY HF;clear hN;have h0:¬ N=0:=fun e=>cY (List.length_eq_zero_iff.1 (by rw [← HN.out];exact e))
 have bO:N - 1<n.ps.length:=by have:=HN.out;omega
 have CS:iy n.ps=n.ps[N - 1]:=pJ (by have:=HN.out;omega)
 obtain ⟨_,_,lM,_,_,bq⟩:=FY.out;simp only [Value.slice.injEq] at lM;obtain ⟨rfl,-,rfl⟩:=lM;obtain ⟨g,o,rfl,c1,c2⟩:=bq (N - 1) bO;rw [← CS] at c1 c2;generalize (iy n.ps).1=s1 at *;generalize (iy n.ps).2=s2 at *;obtain ⟨j,rfl⟩ : ∃ j,N=j+1:=⟨N - 1,by omega⟩
 rw [Nat.add_sub_cancel] at c1 c2;have Sy:(0:Int)≤(j:Int):=by omega
 have Qq:(j:Int)<(j:Int)+1:=by omega
 have H7:(j:Int)≤4000:=by have:=HF.out;omega
 have hq3:(((j+1:Nat):Int) == 0)=false:=by simp;omega
 clear bq bO h0 CS cY;go_enter func53,ntmps53;go_wp2_with fail;refine wQ.out.mono ?_
 rintro e w1 ⟨rfl,rfl⟩;go_wp2_with fail
 (try simp only [Exit.inBlock,Exit.then])
 exact bodyPost_ret (ff rfl _ _ w.heap.size 52 _ (0,0) _ rfl (B.au.new w #[.string s1,.string s2] 52) underlying52 rfl (by kernel_rfl)) rfl ⟨rfl,ai w _⟩
def Kq(r:cT)(e:Ending)(w':World):Prop :=
 (r=none∧e = .returned (.tuple #[.slice none 0 0,.nilIface])) ∨
 ∃ (m:Nat) (a:Option Addr) (c:Nat) (l:List W.Lk) (q:W.Lk) (n:SN) (pv lv cv:Value),e = .returned (.tuple #[.slice a (m+1) c,.nilIface])∧m=l.length∧m≤100000∧W.dm w' (.slice a (m+1) c) (l++[q])∧dP w' q.1 n pv lv cv∧n.ps≠[]∧∃ Y,aD r=Y++n.ps
theorem Kq.of{d:S.V.bE}{A:Nat→Addr}{x:XT}{bs:Nat}{e:Ending}{w':World}(cM:eD (some x))(h:nN (dh d) (fun n q=>q=n.lk.length) A [] x bs e w'):Kq (some x) e w':=by
 rcases h with ⟨hE,_⟩ | ⟨ss,s,a,c,he,ho,hw,⟨⟨pv,lv,cv,hs⟩,hn⟩,h0,sB,hl⟩
 ·exact (hE:False).elim
 ·simp only [List.length_nil,Nat.zero_add,List.nil_append] at he ho hl;obtain ⟨hn,hg⟩:=hn;obtain ⟨b,n,i,⟨hh,t⟩⟩:=s;cases hh with
  | zero =>
   obtain ⟨⟨Y,hY⟩,cY⟩:=Ld hw cM;have kt:n.ps=t.2:=hn.2;exact .inr ⟨ss.length,a,c,ss.map gF.lk,(b,(i:Int)),n,pv,lv,cv,he,by rw [az],by omega,ho.1.at,hs,by rw [kt];exact cY,Y,by rw [kt];exact hY⟩
  | succ h=>exact absurd (List.length_eq_zero_iff.1 h0) hn.2.1
section
variable {base:Nat} {A:Nat→Addr} {db:Nat} {F:Nat→Prop} {d:S.V.bE} {W0:World} {r:cT}
theorem zC{w w1:World}{tb:Nat}(hc:Ts base A db F d W0 w tb r)(hn:(aD r).length≤4611686018427387904)(hb:Below w.heap.size w w1):Calls prog 54 #[.pointer (some ⟨tb,0,none⟩),.func (.func 55) #[] #[]] w1 fun e w'=>Kq r e w'∧Dv base A db F d w'∧Mv db F w w':=by
 obtain ⟨rv,ht,hr⟩:=hc.tr;have hv:=hc.dv.below hb;have hm:Mv db F w w1:=Mv.of hb;rcases hr with ⟨rfl,rfl⟩ | ⟨p,h,t,rfl,rfl,hk⟩
 ·refine (xg _ ⟨_,_,_,rfl⟩ tb _ w1 (ht.below hb)).mono fun e w' ⟨he,hw⟩=>?_
  subst hw;exact ⟨.inl ⟨rfl,he⟩,hv,hm⟩
 ·refine (BL (dh d) (fun n q=>q=n.lk.length) (fun _=>True) (fun _ _ _ h=>h) p ⟨h,t⟩ tb 55 #[] Tryz.call55 w w1 ⟨hk.cN (df.of hb),jK hc.ok⟩ (ht.below hb) hv hm hc.dv trivial (.inr (lh hc.ok hn)) (fun W b n pv lv cv y _ hs hn yu=>?_)).mono fun e w' ⟨h1,h2,h3⟩=>⟨Kq.of hc.ok h1,h2,h3⟩
  have hk:=((dh d).fit hn).1.resolve_left yu;exact (Ap n lv W hs.bn).mono fun e w' ⟨he,hb⟩=>⟨n.lk.length,he,rfl,by omega,hb⟩
theorem EA{a:Option Addr}{n c:Nat}{v:Value}{w:World}{l:List Pr}(h:(.returned (.tuple #[.slice a n c,v])=Ending.returned (.tuple #[.slice none 0 0,.nilIface])∧l=[])∨∃ (m:Nat) (a':Option Addr) (c':Nat) (l':List W.Lk) (q:W.Lk) (sn:SN) (pv lv cv:Value),Ending.returned (.tuple #[.slice a n c,v]) = .returned (.tuple #[.slice a' (m+1) c',.nilIface])∧m=l'.length∧m≤100000∧W.dm w (.slice a' (m+1) c') (l'++[q])∧dP w q.1 sn pv lv cv∧sn.ps≠[]∧∃ Y,l=Y++sn.ps):Calls prog 53 #[.slice a n c,v] w fun e w'=>e = .returned (.tuple #[.agg #[.string (iy l).1,.string (iy l).2],.bool (!l.isEmpty),.nilIface])∧Below w.heap.size w w':=by
 rcases h with ⟨he,rfl⟩ | ⟨m,a',c',l',q,sn,pv,lv,cv,he,hm,jD,hr,hs,cY,Y,rfl⟩
 ·cases he;exact ve _ (.inl rfl) w
 ·cases he;rw [AY cY,show (Y++sn.ps).isEmpty=false by cases h:Y++sn.ps with | nil=>exact absurd (List.append_eq_nil_iff.1 h).2 cY | cons _ _=>rfl]
  exact LY a m c l' q sn pv lv cv w hm jD hr hs cY
end
def U7(d:S.V.bE)(key:ByteArray)(r:cT)(bs:Nat)(e:Ending)(w':World):Prop :=
 (r=none∧e = .returned (.tuple #[.slice none 0 0,.nilIface])) ∨
 ∃ (x:XT) (ss:List (gF XT)) (s:gF XT) (a:Option Addr) (c:Nat) (pv lv cv:Value) (t0:Nd 0),r=some x∧e = .returned (.tuple #[.slice a (ss.length+1) c,.nilIface])∧uF w' bs (.slice a (ss.length+1) c) (ss.map gF.lk++[s.lk])∧Way (dh d) (fun n q=>B.fK n.lk key q) w' x ss s.x∧s.x=⟨0,t0⟩∧s.at'=0∧dP w' s.b s.n pv lv cv∧s.n.ps=t0.2∧fB t0.2≤4072∧ss.length≤63
theorem U7.of{A:Nat→Addr}{d:S.V.bE}{key:ByteArray}{x:XT}{bs:Nat}{e:Ending}{w':World}(h:nN (dh d) (fun n q=>B.fK n.lk key q) A [] x bs e w'):U7 d key (some x) bs e w':=by
 rcases h with ⟨hE,_⟩ | ⟨ss,s,a,c,he,ho,hw,⟨⟨pv,lv,cv,hs⟩,hn⟩,h0,sB,hl⟩
 ·exact (hE:False).elim
 ·simp only [List.length_nil,Nat.zero_add,List.nil_append] at he ho hl;obtain ⟨hn,hg⟩:=hn;obtain ⟨b,n,i,⟨hh,t⟩⟩:=s;cases hh with
  | zero=>exact .inr ⟨x,ss,⟨b,n,i,⟨0,t⟩⟩,a,c,pv,lv,cv,t,rfl,he,ho,hw,rfl,sB,hs,hn.2,hg.2,hl⟩
  | succ h=>exact absurd (List.length_eq_zero_iff.1 h0) hn.2.1
section
variable {base:Nat} {A:Nat→Addr} {db:Nat} {F:Nat→Prop} {d:S.V.bE} {W0:World} {r:cT}
theorem S4{w w1:World}{tb:Nat}(key:ByteArray)(hc:Ts base A db F d W0 w tb r)(hn:(aD r).length≤4611686018427387904)(hb:Below w.heap.size w w1):Calls prog 46 #[.pointer (some ⟨tb,0,none⟩),.string key] w1 fun e w'=>U7 d key r w.heap.size e w'∧Dv base A db F d w'∧Mv db F w w':=by
 obtain ⟨rv,ht,hr⟩:=hc.tr;have hv:=hc.dv.below hb;have hm:Mv db F w w1:=Mv.of hb;rcases hr with ⟨rfl,rfl⟩ | ⟨p,h,t,rfl,rfl,hk⟩
 ·refine (wZ tb _ key w1 (ht.below hb)).mono fun e w' ⟨he,hb⟩=>⟨.inl ⟨rfl,he⟩,hv.below hb,hm.trans (Mv.of hb)⟩
 ·refine (wY (dh d) p ⟨h,t⟩ tb key w w1 ⟨hk.cN (df.of hb),jK hc.ok⟩ (ht.below hb) hv hm hc.dv (.inr (lh hc.ok hn))).mono fun e w' ⟨h1,h2,h3⟩=>⟨U7.of h1,h2,h3⟩
theorem FD{w w1:World}{b:Nat}(hb:base≤w.heap.size)(fc:w.heap.size≤b)(hF:∀ k,F k→k<w.heap.size)(hm:Mv db F w w1)(hv:Dv base A db F d w1)(x y:Value):Dv base A db F d ((w1.setCell ⟨b,0,none⟩ x).setCell ⟨b,1,none⟩ y)∧Mv db F w ((w1.setCell ⟨b,0,none⟩ x).setCell ⟨b,1,none⟩ y):=by
 have hf:¬ F b:=fun hf=>by
  have:=hF _ hf;omega
 have hs:=(bG.set b 0 w1 x).trans (bG.set b 1 _ y);exact ⟨(hv.tree (by omega) hf 0 x).tree (by omega) hf 1 y,⟨⟨hs.os.trans hm.step.os,hs.tape.trans hm.step.tape,hs.output.trans hm.step.output,ar hm.size hs.size,fun k hk hn=>(hs.block k (aq hk hm.size) (by omega)).trans (hm.step.block k hk hn),fun _ h=>.inl h⟩,⟨hs.os.trans hm.step.os,hs.tape.trans hm.step.tape,hs.output.trans hm.step.output,ar hm.size hs.size,fun k hk hn=>(hs.block k (aq hk hm.size) (by omega)).trans (hm.one.block k hk hn),fun _ h=>.inl h⟩⟩⟩
theorem Ts.boxed{w w1:World}{tb:Nat}(h:Ts base A db F d W0 w tb r)(hm:Mv db F w w1)(hv:Dv base A db F d w1)(x y:Value):Dv base A db F d ((w1.setCell ⟨w.heap.size,0,none⟩ x).setCell ⟨w.heap.size,1,none⟩ y)∧Mv db F w ((w1.setCell ⟨w.heap.size,0,none⟩ x).setCell ⟨w.heap.size,1,none⟩ y):=by
 obtain ⟨d',_,hd⟩:=h.dv.dev;exact FD h.dv.env.errs.size (aj _) (fun k hk=>hd.lt _ hk) hm hv x y
theorem FG{w:World}{tb:Nat}(key:ByteArray)(hc:Ts base A db F d W0 w tb r)(hn:(aD r).length≤4611686018427387904):Calls prog 18 #[.pointer (some ⟨tb,0,none⟩),.string key] w fun e w'=>e = .returned (.tuple #[.agg #[.string (iy (sL (aD r) key)).1,.string (iy (sL (aD r) key)).2],.bool (!(sL (aD r) key).isEmpty),.nilIface])∧Dv base A db F d w'∧Mv db F w w':=by
 have q0:=ai w (.cells #[.string ⟨#[]⟩,.string ⟨#[]⟩] 52);have x0:=B.au.new w #[.string ⟨#[]⟩,.string ⟨#[]⟩] 52;have HX:Hid (∀ w1,Mv db F (w.alloc (.cells #[.string ⟨#[]⟩,.string ⟨#[]⟩] 52)) w1→B.au w1 w.heap.size #[.string ⟨#[]⟩,.string ⟨#[]⟩] 52):=fun w1 hm=>tF hm x0 (by have:=hc.dv.Ct;omega)
 have HQ:=ab q0;have HC:=ab hc;have HCA:=ab (hc.below q0);have Sp:=ab (hc.dv.below q0);have HN:=ab hn;have od:=ab hc.ok;clear hc x0 q0 hn;obtain ⟨L,hL⟩ : ∃ L,L=sL (aD r) key:=⟨_,rfl⟩;rw [← hL];have kR:=ab hL;clear hL;obtain ⟨s1,ja⟩ : ∃ s1,s1=(iy L).1:=⟨_,rfl⟩;obtain ⟨s2,iL⟩ : ∃ s2,s2=(iy L).2:=⟨_,rfl⟩;obtain ⟨bb,Cn⟩ : ∃ bb,bb=!L.isEmpty:=⟨_,rfl⟩;rw [← ja,← iL,← Cn];have mf:=ab ja;have lD:=ab iL;have mU:=ab Cn;clear ja iL Cn;by_cases hk:key=⟨#[]⟩
 ·subst hk;have wR:Hid (L=aD r):=by show _=_;rw [kR.out];unfold sL;rw [if_pos rfl]
  have HW:=ab (zC HCA.out HN.out (Below.refl _ _));go_enter func18,ntmps18;go_wp2_with fail;refine HW.out.mono ?_
  rintro e w1 ⟨Hv,fD,fo⟩;obtain ⟨a,n,c,he⟩ : ∃ a n c,e = .returned (.tuple #[.slice a n c,.nilIface]):=by
   rcases Hv with ⟨_,he⟩ | ⟨m,a,c,_,_,_,_,_,_,he,_⟩
   ·exact ⟨_,_,_,he⟩
   ·exact ⟨_,_,_,he⟩
  subst he;have hl:=EA (l:=L) (w:=w1) (by
   rcases Hv with ⟨h1,h2⟩ | ⟨m,a',c',l',q,sn,pv,lv,cv,h1,h2,h3,h4,h5,h6,Y,h7⟩
   ·exact .inl ⟨h2,by rw [wR.out,h1];rfl⟩
   ·exact .inr ⟨m,a',c',l',q,sn,pv,lv,cv,h1,h2,h3,h4,h5,h6,Y,by rw [wR.out];exact h7⟩)
  rw [← mf.out,← lD.out,← mU.out] at hl;have HL:=ab hl;clear hl;have uK:=ab fD;have Oa:=ab fo;clear Hv fD fo HW;go_wp2_with fail;refine HL.out.mono ?_
  rintro e w2 ⟨rfl,aV⟩;have vX:=ab (Oa.out.trans (Mv.of aV));have uJ:=ab (uK.out.below aV);have nL:=ab (HX.out w2 vX.out);have z0:=nL.out.c0;have z1:=nL.out.c1;have y0:=nL.out.free 0;have y1:=nL.out.free 1;clear aV HL Oa uK;go_wp2_with fail
  (try simp only [Exit.inBlock,Exit.then])
  exact bodyPost_ret (ff rfl _ _ w.heap.size 52 _ (0,0) _ rfl (nL.out.two _ _) underlying52 rfl (by kernel_rfl)) rfl ⟨rfl,HC.out.boxed ((Mv.of HQ.out).trans vX.out) uJ.out _ _⟩
 ·have nG:key.toList.isEmpty=false:=by
   cases h:key.toList with
   | nil=>exact absurd (ib (by rw [← ByteArray.toList_eq,h])) hk
   | cons _ _=>rfl
  have HW:=ab (S4 key HCA.out HN.out (Below.refl _ _));have HK:=ab hk;clear hk;go_enter func18,ntmps18;go_wp2_with fail;refine HW.out.mono ?_
  rintro e w1 ⟨Hv,fD,fo⟩;have uK:=ab fD;have Oa:=ab fo;have Ad:=ab (HX.out w1 fo);rcases Hv with ⟨VN,rfl⟩ | ⟨x,ss,s,a,c,pv,lv,cv,t0,Xw,rfl,ho,jr,hsx,sB,hs,kt,b8,hl⟩
  ·have XZ:L=[]:=by rw [kR.out,VN];unfold sL;rw [if_neg HK.out];rfl
   have HE1:Hid (s1=⟨#[]⟩):=by show _=_;rw [mf.out,XZ];rfl
   have WB:Hid (s2=⟨#[]⟩):=by show _=_;rw [lD.out,XZ];rfl
   have HE3:Hid (bb=false):=by show _=_;rw [mU.out,XZ];rfl
   clear XZ;clear fD fo HW VN;go_wp2_with fail;refine (gW w1).mono ?_
   rintro e w1' ⟨rfl,rfl⟩;go_wp2_with fail;refine (iT (.slice none 0 0) [] key w1 (by simp) (gM.nil _)).mono ?_
   rintro e w2 ⟨rfl,aV⟩;rw [show bm [] key=false from rfl,show aS [] key=0 from rfl]
   have vX:=ab (Oa.out.trans (Mv.of aV));have uJ:=ab (uK.out.below aV);clear aV;go_wp2_with fail;refine (zD tb w2).mono ?_
   rintro e w2' ⟨rfl,rfl⟩;go_wp2_with fail;refine (ve .nilIface (.inl rfl) w2).mono ?_
   rintro e w3 ⟨rfl,bW⟩;have C0:=ab (vX.out.trans (Mv.of bW));have FV:=ab (uJ.out.below bW);have zu:=ab (HX.out w3 C0.out);have z0:=zu.out.c0;have z1:=zu.out.c1;have y0:=zu.out.free 0;have y1:=zu.out.free 1;clear bW;go_wp2_with fail
   (try simp only [Exit.inBlock,Exit.then])
   exact bodyPost_ret (ff rfl _ _ w.heap.size 52 _ (0,0) _ rfl (zu.out.two _ _) underlying52 rfl (by kernel_rfl)) rfl ⟨by rw [HE1.out,WB.out,HE3.out];rfl,HC.out.boxed ((Mv.of HQ.out).trans C0.out) FV.out _ _⟩
  ·subst Xw;have IU:Hid (∃ rv,B.au w1 tb #[.pointer (some ⟨db,0,none⟩),rv] 100):=by
    obtain ⟨rv,h1,_⟩:=(HCA.out.mv fo fD).tr;exact ⟨rv,h1⟩
   obtain ⟨il,hX,hZ⟩:=C9 (lo:=none) (hi:=none) (hsx▸jr) od.out.1;have XZ:L=fQ ss++(s.n.ps).take (aS s.n.ps key):=by
    rw [kR.out];show sL (flat x.1 x.2) key=_
    rw [il,RN HK.out hX hZ,kt]
   have wR:=ab XZ;have HO:=ab ho;have HWY:=ab jr;have HL:=ab hl;have zB:=ab sB;have jc:Hid (fB s.n.ps≤4072):=by show _≤_;rw [kt];exact b8
   have YC:Hid (x.1+1≤64):=lh (h:=x.1) (t:=x.2) od.out HN.out;have wQ:=ab (jk a ss.length c (ss.map gF.lk) s.lk s.n pv lv cv w1 (by rw [az]) (by omega) ho.1.at hs)
   have FY:=ab hs.iH;obtain ⟨m,A9⟩ : ∃ m,m=ss.length:=⟨_,rfl⟩;have Gm:=ab A9;rw [← A9] at wQ HO ⊢;obtain ⟨xa,xc,wG⟩:=hs.iH.form;subst wG;clear ho jr hs b8 sB hl fD fo HW A9 il hX hZ kt hsx XZ;go_wp2_with fail;refine wQ.out.mono ?_
   rintro e w1' ⟨rfl,rfl⟩;go_wp2_with fail;refine (iT _ s.n.ps key w1 (by have:=gT s.n.ps;have:=jc.out;omega) FY.out).mono ?_
   rintro e w2 ⟨rfl,aV⟩;have vX:=ab (Oa.out.trans (Mv.of aV));have uJ:=ab (uK.out.below aV);have nL:=ab (HX.out w2 vX.out);have age:=ab (FY.out.below aV);have jx:=ab (HO.out.below aV);have af5:=ab (HWY.out.cN (df.of aV));have BD:Hid (∃ rv,B.au w2 tb #[.pointer (some ⟨db,0,none⟩),rv] 100):=by
    obtain ⟨rv,h1⟩:=IU.out;exact ⟨rv,h1.below aV⟩
   have il:=cH s.n.ps key;clear aV;generalize aS s.n.ps key=fq at *;by_cases hp:0<fq
   ·obtain ⟨j,rfl⟩ : ∃ j,fq=j+1:=⟨fq - 1,by omega⟩
    obtain ⟨_,_,lM,_,_,bq⟩:=age.out;simp only [Value.slice.injEq] at lM;obtain ⟨rfl,-,rfl⟩:=lM;obtain ⟨g,o,rfl,c1,c2⟩:=bq j (by omega)
    have cY:(s.n.ps).take (j+1)≠[]:=fun e=>by
     have:=congrArg List.length e;rw [ag,List.length_nil] at this;omega
    have CS:iy L=s.n.ps[j]:=by
     rw [wR.out,AY cY,pJ (j:=j) (by rw [ag];omega),bF]
    have hem:(!L.isEmpty)=true:=by
     rw [wR.out];cases h:fQ ss++(s.n.ps).take (j+1) with
     | nil=>exact absurd (List.append_eq_nil_iff.1 h).2 cY
     | cons _ _=>rfl
    rw [← CS,← mf.out] at c1;rw [← CS,← lD.out] at c2;have HE3:Hid (bb=true):=by show _=_;rw [mU.out,hem]
    have Gg:(0:Int)≤(j:Int):=by omega
    have hj1:(j:Int)<(s.n.ps.length:Int):=by omega
    have hj2:(s.n.ps.length:Int)≤4072:=by have:=gT s.n.ps;have:=jc.out;omega
    have hj3:(0:Int)<((j+1:Nat):Int):=by omega
    have z0:=nL.out.c0;have z1:=nL.out.c1;have y0:=nL.out.free 0;have y1:=nL.out.free 1;clear bq il hp cY CS hem;go_wp2_with fail
    (try simp only [Exit.inBlock,Exit.then])
    exact bodyPost_ret (ff rfl _ _ w.heap.size 52 _ (0,0) _ rfl (nL.out.two _ _) underlying52 rfl (by kernel_rfl)) rfl ⟨by rw [HE3.out];rfl,HC.out.boxed ((Mv.of HQ.out).trans vX.out) uJ.out _ _⟩
   ·have hz:fq=0:=by omega
    subst hz;have ags:Hid (L=fQ ss):=by show _=_;rw [wR.out];simp
    obtain ⟨rv2,tX⟩:=BD.out;have Hv:=xf (rv:=rv2) a c ss s Sp.out vX.out uJ.out tX (by rw [← Gm.out];exact jx.out.1.at) x af5.out YC.out zB.out HL.out
    rw [← Gm.out] at Hv;have HWA:=ab Hv;clear Hv il hp tX;go_wp2_with fail;refine HWA.out.mono ?_
    rintro e w3 ⟨hah,rr,lX⟩;obtain ⟨a3,n3,c3,he⟩ : ∃ a n c,e = .returned (.tuple #[.slice a n c,.nilIface]):=by
     rcases hah with ⟨he,_⟩ | ⟨m,a,c,_,_,_,_,_,_,he,_⟩
     ·exact ⟨_,_,_,he⟩
     ·exact ⟨_,_,_,he⟩
    subst he;have CS:=EA (l:=L) (w:=w3) (by rw [ags.out];exact hah)
    rw [← mf.out,← lD.out,← mU.out] at CS;have HLA:=ab CS;clear CS;have FV:=ab rr;have C0:=ab lX;clear hah rr lX HWA;go_wp2_with fail;refine HLA.out.mono ?_
    rintro e w4 ⟨rfl,fS⟩;have Wt:=ab (C0.out.trans (Mv.of fS));have HV4:=ab (FV.out.below fS);have wO:=ab (HX.out w4 Wt.out);have z0:=wO.out.c0;have z1:=wO.out.c1;have y0:=wO.out.free 0;have y1:=wO.out.free 1;clear fS HLA;go_wp2_with fail
    (try simp only [Exit.inBlock,Exit.then])
    exact bodyPost_ret (ff rfl _ _ w.heap.size 52 _ (0,0) _ rfl (wO.out.two _ _) underlying52 rfl (by kernel_rfl)) rfl ⟨rfl,HC.out.boxed ((Mv.of HQ.out).trans Wt.out) HV4.out _ _⟩
end
section
variable {base:Nat} {A:Nat→Addr} {w0:World} {ob db tb fb fg:Nat} {F:Nat→Prop} {d:S.V.bE} {r:cT} {T:Nat→Bool} {wv:Value} {root tx:Nat} {l:List Pr}
structure Al(base:Nat)(A:Nat→Addr)(w0 w:World)(ob db tb fb fg:Nat)(F:Nat→Prop)(d:S.V.bE)(r:cT)(T:Nat→Bool)(wv:Value)(root tx:Nat)(l:List Pr)(XB:Nat)(row:Array Value):Prop where
 os:Os base A w0 w ob db tb fb fg F d r T wv root tx l
 bx:B.au w XB row 44
 ne:¬ F XB∧XB≠tb∧XB≠ob
section
variable {XB:Nat} {row:Array Value}
theorem Al.fr{w w1:World}(h:Al base A w0 w ob db tb fb fg F d r T wv root tx l XB row)(ho:Os base A w0 w1 ob db tb fb fg F d r T wv root tx l)(hf:Fr F tb ob w w1):Al base A w0 w1 ob db tb fb fg F d r T wv root tx l XB row:=⟨ho,(hf.2 XB h.bx.lt h.ne.1 h.ne.2.1 h.ne.2.2).trans h.bx,h.ne⟩
theorem Al.below{w w1:World}(h:Al base A w0 w ob db tb fb fg F d r T wv root tx l XB row)(hb:Below w.heap.size w w1):Al base A w0 w1 ob db tb fb fg F d r T wv root tx l XB row:=h.fr (h.os.below hb) (dM hb)
end
theorem Os.box{w:World}(h:Os base A w0 w ob db tb fb fg F d r T wv root tx l)(row:Array Value):Al base A w0 (w.alloc (.cells row 44)) ob db tb fb fg F d r T wv root tx l w.heap.size row:=by
 have hn:=h.new (aj w.heap.size);exact ⟨h.below (ai w _),B.au.new w row 44,hn.1,hn.2.1,hn.2.2.1⟩
theorem Da{l:List Pr}{key:ByteArray}(h:bm l key=true):valOf l key=(l[aS l key]'(gC h)).2:=by unfold valOf;rw [dif_pos h]
theorem KG{l:List Pr}{key:ByteArray}(h:bm l key=false):valOf l key=⟨#[]⟩:=by unfold valOf;rw [dif_neg (by rw [h];decide)]
theorem Nn{w:World}(at' n:Int)(key value iO:ByteArray)(h:Os base A w0 w ob db tb fb fg F d r T wv root tx (aD r))(hn:(aD r).length≤1000000)(cZ:key.size≤140737488355328):Calls prog 61 #[.pointer (some ⟨ob,0,none⟩),.agg #[.int .i64 3,.int .i64 at',.int .i64 n,.string key,.string value,.string iO]] w fun e w'=>e = .returned (.bool true)∧Os base A w0 w' ob db tb fb fg F d r T wv root tx (aD r)∧Fr F tb ob w w':=by
 obtain ⟨row,bH⟩ : ∃ row:Array Value,row=#[.int .i64 3,.int .i64 at',.int .i64 n,.string key,.string value,.string iO]:=⟨_,rfl⟩;have h1:=h.box row;have Aj:=ab (dM (F:=F) (tb:=tb) (ob:=ob) (ai w (.cells row 44)));rw [bH] at h1 Aj;obtain ⟨W1,ig⟩ : ∃ W1,w.alloc (.cells #[.int .i64 3,.int .i64 at',.int .i64 n,.string key,.string value,.string iO] 44)=W1:=⟨_,rfl⟩;obtain ⟨XB,sV⟩ : ∃ XB,XB=w.heap.size:=⟨_,rfl⟩;rw [ig,← sV] at h1;rw [ig] at Aj;rw [← bH] at h1;have HC:Hid (∀ W,Al base A w0 W ob db tb fb fg F d r T wv root tx (aD r) XB row→W.cell? ⟨ob,3,none⟩=some (.pointer (some ⟨tb,0,none⟩))∧W.cell? ⟨ob,4,none⟩=some wv∧W.cell? ⟨XB,0,none⟩=some (.int .i64 3)∧W.cell? ⟨XB,3,none⟩=some (.string key)):=fun W hb=>by
  have hx:=hb.bx;rw [bH] at hx;refine ⟨hb.os.c.1,hb.os.c.2.1,?_,?_⟩
  ·have:=hx.cell 0 (by simp)
   simpa using this
  ·have:=hx.cell 3 (by simp)
   simpa using this
 have Ai:Hid (∀ W,Below W1.heap.size W1 W→Calls prog 17 #[.pointer (some ⟨tb,0,none⟩),.string key] W fun e w'=>e = .returned (if cQ (key,⟨#[]⟩)=true then .tuple #[.string (valOf (aD r) key),.bool (bm (aD r) key),.nilIface] else .tuple #[.string ⟨#[]⟩,.bool false,.iface 360 (.pointer (some (A 0)))])∧Al base A w0 w' ob db tb fb fg F d r T wv root tx (aD r) XB row∧Fr F tb ob W1 w'):=fun W hW=>by
  have hb:=h1.below hW;refine (Mu key hb.os.ts (by omega) cZ).mono fun e w' ⟨he,ht⟩=>⟨he,hb.fr (hb.os.tree ht (List.Sublist.refl _)) (pM ht.st),(dM hW).trans (pM ht.st)⟩
 have mM:Hid (∀ W,Calls prog 29 #[.string key,.string ⟨#[]⟩] W fun e w'=>e = .returned (.bool (cQ (key,⟨#[]⟩)))∧W=w'):=fun W=>yF key ⟨#[]⟩ W cZ (by simp [ByteArray.size])
 have zh:Hid (∀ W,Al base A w0 W ob db tb fb fg F d r T wv root tx (aD r) XB row→∀ W2,Below W.heap.size W W2→Calls prog 28 #[wv,.string key] W2 fun e w'=>e = .returned (.tuple #[.int .i64 (aS (aD r) key:Int),.bool (bm (aD r) key)])∧Below W.heap.size W w'):=fun W hb W2 hW=>(mn wv (aD r) key W2 (by omega) (hb.below hW).os.want.at).mono fun e w' ⟨he,k,hk⟩=>⟨he,by rw [hk];exact Below.next hW (aA (Below.refl _ _) k)⟩
 obtain ⟨q0,q4,x0,x3⟩:=HC.out W1 h1;obtain ⟨wa,wn,wc,NK⟩:=jl h.want;have ZE:=ab (cH (aD r) key);have HN:=ab hn;subst NK;have CH:=ab ig;have R6:=ab sV;clear h h1 hn cZ bH ig;by_cases hm:cQ (key,⟨#[]⟩)=true
 ·simp only [hm,if_true] at Ai mM;clear hm;cases hf:bm (aD r) key with
  | false =>
   simp only [KG hf,hf] at Ai zh;clear hf;go_enter func61,ntmps61;go_wp2_with fail;rw [CH.out,← sV];clear sV;go_wp2_with fail;go_region_held3 (fun w'=>w'.cell? ⟨ob,3,none⟩=some (.pointer (some ⟨tb,0,none⟩))∧w'.cell? ⟨XB,3,none⟩=some (.string key)) (go_keep)
    (first | (go_at_call 17;refine (Ai.out _ ?_).mono ?_;(first | exact (Below.refl _ _).drew | exact aA (Below.refl _ _) _ | exact Below.refl _ _);rintro e w2 ⟨rfl,aV,hf2⟩;have bL:=ab aV;have NB:=ab hf2;have n0:=HC.out w2 aV;obtain ⟨n3,n4,m0,m3⟩:=n0;clear aV hf2))
   all_goals
    clear q0 q4 x0 x3 Ai;go_wp2_with fail;refine (mM.out _).mono ?_
    rintro e wq ⟨rfl,rfl⟩;have vM:=ab (zh.out w2 bL.out);clear zh;go_wp2_with fail;go_region_held3 (fun w'=>w'.cell? ⟨ob,4,none⟩=some (.slice wa wn wc)∧w'.cell? ⟨XB,3,none⟩=some (.string key)) (go_keep)
     (first | (go_at_call 28;refine (vM.out _ ?_).mono ?_;(first | exact (Below.refl _ _).drew | exact aA (Below.refl _ _) _ | exact Below.refl _ _);rintro e w3 ⟨rfl,bW⟩;have eH:=ab (bL.out.below bW);have ZF:=ab (NB.out.trans (dM bW));have o0:=HC.out w3 eH.out;obtain ⟨o3,o4,r0,r3⟩:=o0;clear bW))
   all_goals
     clear vM n3 n4 m0 m3;go_wp2;go_ret;exact ⟨rfl,eH.out.os,Aj.out.trans ZF.out⟩
  | true =>
   have bO:=gC hf;have Cg:=Da hf;obtain ⟨vv,A2⟩ : ∃ vv,vv=valOf (aD r) key:=⟨_,rfl⟩;have tj:Hid (∀ W,Al base A w0 W ob db tb fb fg F d r T (.slice wa wn wc) root tx (aD r) XB row→∃ g o,wa=some ⟨g,o,none⟩∧W.cell? ⟨g,o+aS (aD r) key*2+1,none⟩=some (.string vv)∧wn=(aD r).length):=fun W hb=>by
    obtain ⟨a,cap,e,_,_,hc⟩:=hb.os.want.at;obtain ⟨g,o,ha,_,h2⟩:=hc _ bO;cases e;exact ⟨g,o,ha,by rw [A2,Cg];exact h2,rfl⟩
   simp only [← A2,hf] at Ai zh;have HLT:=ab bO;clear hf Cg A2 bO;generalize aS (aD r) key=fq at *;go_enter func61,ntmps61;go_wp2_with fail;rw [CH.out,← sV];clear sV;go_wp2_with fail;go_region_held3 (fun w'=>w'.cell? ⟨ob,3,none⟩=some (.pointer (some ⟨tb,0,none⟩))∧w'.cell? ⟨XB,3,none⟩=some (.string key)) (go_keep)
    (first | (go_at_call 17;refine (Ai.out _ ?_).mono ?_;(first | exact (Below.refl _ _).drew | exact aA (Below.refl _ _) _ | exact Below.refl _ _);rintro e w2 ⟨rfl,aV,hf2⟩;have bL:=ab aV;have NB:=ab hf2;have n0:=HC.out w2 aV;obtain ⟨n3,n4,m0,m3⟩:=n0;clear aV hf2))
   all_goals
    clear q0 q4 x0 x3 Ai;go_wp2_with fail;refine (mM.out _).mono ?_
    rintro e wq ⟨rfl,rfl⟩;have vM:=ab (zh.out w2 bL.out);clear zh;go_wp2_with fail;go_region_held3 (fun w'=>w'.cell? ⟨ob,4,none⟩=some (.slice wa wn wc)∧w'.cell? ⟨XB,3,none⟩=some (.string key)) (go_keep)
     (first | (go_at_call 28;refine (vM.out _ ?_).mono ?_;(first | exact (Below.refl _ _).drew | exact aA (Below.refl _ _) _ | exact Below.refl _ _);rintro e w3 ⟨rfl,bW⟩;have eH:=ab (bL.out.below bW);have ZF:=ab (NB.out.trans (dM bW));have o0:=HC.out w3 eH.out;obtain ⟨o3,o4,r0,r3⟩:=o0;clear bW))
   all_goals
     clear vM n3 n4 m0 m3;obtain ⟨g,o,hg,bq,Hu⟩:=tj.out w3 eH.out;subst hg;have j0:(0:Int)≤(fq:Int):=by omega
     have j1:(fq:Int)<(wn:Int):=by have:=HLT.out;omega
     have j2:(wn:Int)≤1000000:=by have:=HN.out;omega
     clear tj Hu;go_wp2;go_ret;exact ⟨rfl,eH.out.os,Aj.out.trans ZF.out⟩
 ·have Mb:cQ (key,⟨#[]⟩)=false:=by simpa using hm
  simp only [Mb,kH,if_false] at Ai mM;clear hm Mb;go_enter func61,ntmps61;go_wp2_with fail;rw [CH.out,← sV];clear sV;go_wp2_with fail;go_region_held3 (fun w'=>w'.cell? ⟨ob,3,none⟩=some (.pointer (some ⟨tb,0,none⟩))∧w'.cell? ⟨XB,3,none⟩=some (.string key)) (go_keep)
   (first | (go_at_call 17;refine (Ai.out _ ?_).mono ?_;(first | exact (Below.refl _ _).drew | exact aA (Below.refl _ _) _ | exact Below.refl _ _);rintro e w2 ⟨rfl,aV,hf2⟩;have bL:=ab aV;have NB:=ab hf2;have n0:=HC.out w2 aV;obtain ⟨n3,n4,m0,m3⟩:=n0;clear aV hf2))
  all_goals
   clear q0 q4 x0 x3 Ai;go_wp2_with fail;refine (mM.out _).mono ?_
   rintro e wq ⟨rfl,rfl⟩;have Yu:=ab (wu A w2 bL.out.os.ts.dv.errs);go_wp2_with fail;refine Yu.out.mono ?_
   rintro e wq ⟨rfl,rfl⟩;go_wp2;go_ret;exact ⟨rfl,bL.out.os,Aj.out.trans NB.out⟩
end
theorem kZ{p:Pr→Bool}{l:List Pr}{k lim:Nat}(h:k<l.length):((l.take (k+1)).filter p).take lim=if ((l.take k).filter p).length<lim∧p l[k]=true then ((l.take k).filter p).take lim++[l[k]] else ((l.take k).filter p).take lim:=by
 rw [ax h,List.filter_append];by_cases hp:p l[k]=true
 ·have e:[l[k]].filter p=[l[k]]:=by simp [hp]
  rw [e,List.take_append];by_cases hl:((l.take k).filter p).length<lim
  ·rw [if_pos ⟨hl,hp⟩];congr 1
   obtain ⟨j,hj⟩ : ∃ j,lim - ((l.take k).filter p).length=j+1:=⟨lim - ((l.take k).filter p).length - 1,by omega⟩
   rw [hj];simp
  ·rw [if_neg (fun e=>hl e.1),show lim - ((l.take k).filter p).length=0 by omega]
   simp
 ·have e:[l[k]].filter p=[]:=by simp [hp]
  rw [if_neg (fun e=>hp e.2),e,List.append_nil]
theorem tw{p:Pr→Bool}{l:List Pr}{k lim:Nat}:((l.take k).filter p).length<lim↔(((l.take k).filter p).take lim).length<lim:=by
 rw [ag];omega
theorem Je{s:ByteArray}(h:s=⟨#[]⟩):s.toList=[]:=by
 subst h;rw [ByteArray.toList_eq]
theorem Dc{s:ByteArray}(h:s≠⟨#[]⟩):s.toList.isEmpty=false∧¬ s.toList=[]:=by
 have h1:¬ s.toList=[]:=fun e=>h (ib (by rw [← ByteArray.toList_eq,e]))
 refine ⟨?_,h1⟩;cases hx:s.toList with
 | nil=>exact absurd hx h1
 | cons _ _=>rfl
section
variable {base:Nat} {A:Nat→Addr} {w0:World} {ob db tb fb fg:Nat} {F:Nat→Prop} {d:S.V.bE} {r:cT} {T:Nat→Bool} {wv:Value} {root tx:Nat} {l:List Pr}
theorem FM{w:World}(kind at' n:Int)(key value iO:ByteArray)(hk:kind≠3∧kind≠4∧kind≠5)(h:Os base A w0 w ob db tb fb fg F d r T wv root tx l):Calls prog 61 #[.pointer (some ⟨ob,0,none⟩),.agg #[.int .i64 kind,.int .i64 at',.int .i64 n,.string key,.string value,.string iO]] w fun e w'=>e = .returned (.bool true)∧Os base A w0 w' ob db tb fb fg F d r T wv root tx l∧Fr F tb ob w w':=by
 have q0:=ai w (.cells #[.int .i64 kind,.int .i64 at',.int .i64 n,.string key,.string value,.string iO] 44);have x0:=B.au.new w #[.int .i64 kind,.int .i64 at',.int .i64 n,.string key,.string value,.string iO] 44;have k0:=x0.cell 0 (by simp)
 simp only [a8,List.getElem_cons_zero] at k0;have HR:Hid (Os base A w0 (w.alloc (.cells #[.int .i64 kind,.int .i64 at',.int .i64 n,.string key,.string value,.string iO] 44)) ob db tb fb fg F d r T wv root tx l∧Fr F tb ob w (w.alloc (.cells #[.int .i64 kind,.int .i64 at',.int .i64 n,.string key,.string value,.string iO] 44))):=⟨h.below q0,dM q0⟩;have n3:(kind == 3)=false:=by rw [beq_eq_false_iff_ne];exact hk.1
 have n4:(kind == 4)=false:=by rw [beq_eq_false_iff_ne];exact hk.2.1
 have n5:(kind == 5)=false:=by rw [beq_eq_false_iff_ne];exact hk.2.2
 clear hk h q0 x0;go_enter func61,ntmps61;go_wp2;go_ret;exact ⟨rfl,HR.out⟩
theorem Nl{w:World}(at' n:Int)(key value iO:ByteArray)(h:Os base A w0 w ob db tb fb fg F d r T wv root tx (aD r))(hn:(aD r).length≤1000000)(Qw:n<0):Calls prog 61 #[.pointer (some ⟨ob,0,none⟩),.agg #[.int .i64 4,.int .i64 at',.int .i64 n,.string key,.string value,.string iO]] w fun e w'=>e = .returned (.bool true)∧Os base A w0 w' ob db tb fb fg F d r T wv root tx (aD r)∧Fr F tb ob w w':=by
 obtain ⟨row,bH⟩ : ∃ row:Array Value,row=#[.int .i64 4,.int .i64 at',.int .i64 n,.string key,.string value,.string iO]:=⟨_,rfl⟩;have h1:=h.box row;have Aj:=ab (dM (F:=F) (tb:=tb) (ob:=ob) (ai w (.cells row 44)));rw [bH] at h1 Aj;obtain ⟨W1,ig⟩ : ∃ W1,w.alloc (.cells #[.int .i64 4,.int .i64 at',.int .i64 n,.string key,.string value,.string iO] 44)=W1:=⟨_,rfl⟩;obtain ⟨XB,sV⟩ : ∃ XB,XB=w.heap.size:=⟨_,rfl⟩;rw [ig,← sV] at h1;rw [ig] at Aj;rw [← bH] at h1;have HC:Hid (∀ W,Al base A w0 W ob db tb fb fg F d r T wv root tx (aD r) XB row→W.cell? ⟨ob,3,none⟩=some (.pointer (some ⟨tb,0,none⟩))∧W.cell? ⟨ob,4,none⟩=some wv∧W.cell? ⟨XB,0,none⟩=some (.int .i64 4)∧W.cell? ⟨XB,2,none⟩=some (.int .i64 n)∧W.cell? ⟨XB,3,none⟩=some (.string key)∧W.cell? ⟨XB,5,none⟩=some (.string iO)):=fun W hb=>by
  have hx:=hb.bx;rw [bH] at hx;refine ⟨hb.os.c.1,hb.os.c.2.1,?_,?_,?_,?_⟩
  ·have:=hx.cell 0 (by simp)
   simpa using this
  ·have:=hx.cell 2 (by simp)
   simpa using this
  ·have:=hx.cell 3 (by simp)
   simpa using this
  ·have:=hx.cell 5 (by simp)
   simpa using this
 have N8:Hid (∀ W,Below W1.heap.size W1 W→Calls prog 59 #[.pointer (some ⟨tb,0,none⟩),.string key,.string iO,.int .i64 n] W fun e w'=>e = .returned (.tuple #[.slice none 0 0,.iface 360 (.pointer (some (A 0)))])∧Al base A w0 w' ob db tb fb fg F d r T wv root tx (aD r) XB row∧Fr F tb ob W1 w'):=fun W hW=>by
  have hb:=h1.below hW;refine (Lq hb.os.ts n Qw).mono fun e w' ⟨he,Cn⟩=>⟨he,hb.below Cn,(dM hW).trans (dM Cn)⟩
 obtain ⟨q3,q4,x0,x2,x3,x5⟩:=HC.out W1 h1;obtain ⟨wa,wn,wc,NK⟩:=jl h.want;have HN:=ab hn;have FU:Hid (wn=(aD r).length):=by
  obtain ⟨a,c,e2⟩:=h.want.form;rw [NK] at e2;cases e2;rfl
 subst NK;have CH:=ab ig;have R6:=ab sV;clear h h1 hn bH ig;go_enter func61,ntmps61;go_wp2_with fail;rw [CH.out,← sV];clear sV;go_wp2_with fail;go_region_held3 (fun w'=>w'.cell? ⟨ob,3,none⟩=some (.pointer (some ⟨tb,0,none⟩))∧w'.cell? ⟨XB,2,none⟩=some (.int .i64 n)∧w'.cell? ⟨XB,3,none⟩=some (.string key)∧w'.cell? ⟨XB,5,none⟩=some (.string iO)) (go_keep)
  (first | (go_at_call 59;refine (N8.out _ ?_).mono ?_;(first | exact (Below.refl _ _).drew | exact aA (Below.refl _ _) _ | exact Below.refl _ _);rintro e w2 ⟨rfl,aV,hf2⟩;have bL:=ab aV;have NB:=ab hf2;have n0:=HC.out w2 aV;obtain ⟨n3,n4,m0,m2,m3,m5⟩:=n0;clear aV hf2))
 all_goals
  clear q3 q4 x0 x2 x3 x5 N8;have Yu:=ab (wu A w2 bL.out.os.ts.dv.errs);go_wp2_with fail;refine Yu.out.mono ?_
  rintro e wq ⟨rfl,rfl⟩;go_wp2;go_ret;exact ⟨rfl,bL.out.os,Aj.out.trans NB.out⟩
end
theorem kY{ops:Array Oper}{rest:List Oper}{o:Oper}{a:Act}{w:World}{Q:Exit→Act→World→Prop}(t:TypeId)(nH:o.guard=none)(d x:Operand)
  (ho:o.op = .call { callee:=.builtin .append,args:=#[d,x],argTypes:=#[t,t] }) (zR:o.type=t) (vd vx:Value) (hd:a.eval d=vd) (hx:a.eval x=vx) (v:Value) (w':World)
  (bw:(Builtin.append_ #[t,t] t #[vd,vx]).run prog w = .ok v w') (h:wpList prog ops Q rest (a.put o.dst v) w'):wpList prog ops Q (o::rest) a w :=
 wpList_plain nH fun _ hK=>by
  unfold Oper.wp;simp [execOp,ho,resolve,invoke,builtin,hd,hx,zR,bw,Result.andThen]
  exact hK _ _ h
section
variable {base:Nat} {A:Nat→Addr} {w0:World} {ob db tb fb fg:Nat} {F:Nat→Prop} {d:S.V.bE} {r:cT} {T:Nat→Bool} {wv:Value} {root tx:Nat} {l:List Pr}
theorem FL{w:World}(at' n:Int)(key value iO:ByteArray)(h:Os base A w0 w ob db tb fb fg F d r T wv root tx (aD r))(hn:(aD r).length≤1000000)(h0n:0≤n)(su:n≤9223372036854775807):Calls prog 61 #[.pointer (some ⟨ob,0,none⟩),.agg #[.int .i64 4,.int .i64 at',.int .i64 n,.string key,.string value,.string iO]] w fun e w'=>e = .returned (.bool true)∧Os base A w0 w' ob db tb fb fg F d r T wv root tx (aD r)∧Fr F tb ob w w':=by
 obtain ⟨row,bH⟩ : ∃ row:Array Value,row=#[.int .i64 4,.int .i64 at',.int .i64 n,.string key,.string value,.string iO]:=⟨_,rfl⟩;have h1:=h.box row;have Aj:=ab (dM (F:=F) (tb:=tb) (ob:=ob) (ai w (.cells row 44)));rw [bH] at h1 Aj;obtain ⟨W1,ig⟩ : ∃ W1,w.alloc (.cells #[.int .i64 4,.int .i64 at',.int .i64 n,.string key,.string value,.string iO] 44)=W1:=⟨_,rfl⟩;obtain ⟨XB,sV⟩ : ∃ XB,XB=w.heap.size:=⟨_,rfl⟩;rw [ig,← sV] at h1;rw [ig] at Aj;rw [← bH] at h1;have HC:Hid (∀ W,Al base A w0 W ob db tb fb fg F d r T wv root tx (aD r) XB row→W.cell? ⟨ob,3,none⟩=some (.pointer (some ⟨tb,0,none⟩))∧W.cell? ⟨ob,4,none⟩=some wv∧W.cell? ⟨XB,0,none⟩=some (.int .i64 4)∧W.cell? ⟨XB,2,none⟩=some (.int .i64 n)∧W.cell? ⟨XB,3,none⟩=some (.string key)∧W.cell? ⟨XB,5,none⟩=some (.string iO)):=fun W hb=>by
  have hx:=hb.bx;rw [bH] at hx;refine ⟨hb.os.c.1,hb.os.c.2.1,?_,?_,?_,?_⟩
  ·have:=hx.cell 0 (by simp)
   simpa using this
  ·have:=hx.cell 2 (by simp)
   simpa using this
  ·have:=hx.cell 3 (by simp)
   simpa using this
  ·have:=hx.cell 5 (by simp)
   simpa using this
 obtain ⟨lim,nQ⟩ : ∃ lim:Nat,n=(lim:Int):=⟨n.toNat,by omega⟩
 obtain ⟨R,hR⟩ : ∃ R,R=((aD r).filter (jQ key iO)).take lim:=⟨_,rfl⟩;have ue:=kn h.ts.ok;have tg:Hid (∀ W,Below W1.heap.size W1 W→Calls prog 59 #[.pointer (some ⟨tb,0,none⟩),.string key,.string iO,.int .i64 n] W fun e w'=>(∃ a m c,e = .returned (.tuple #[.slice a m c,.nilIface])∧gM w' (.slice a m c) R)∧Al base A w0 w' ob db tb fb fg F d r T wv root tx (aD r) XB row∧Fr F tb ob W1 w'):=fun W hW=>by
  have hb:=h1.below hW;rw [nQ];refine (GZ (lim:=lim) hb.os.ts (by omega) hb.os.nd (by omega) (by omega)).mono ?_
  rintro e w' ⟨⟨v,he,hp⟩,hv,hm⟩;obtain ⟨a,m,c,lM⟩:=jl hp.1;subst lM;exact ⟨⟨a,m,c,he,by rw [hR];exact hp.1.at⟩,hb.fr (hb.os.mv hv hm) (vm hm),(dM hW).trans (vm hm)⟩
 clear ue;obtain ⟨q3,q4,x0,x2,x3,x5⟩:=HC.out W1 h1;obtain ⟨wa,wn,wc,NK⟩:=jl h.want;have HN:=ab hn;have FU:Hid (wn=(aD r).length):=by
  obtain ⟨a,c,e2⟩:=h.want.form;rw [NK] at e2;cases e2;rfl
 subst NK;have CH:=ab ig;have R6:=ab sV;have Zu:=ab hR;have YD:=ab nQ;clear h h1 hn bH ig hR nQ;go_enter func61,ntmps61;go_wp2_with fail;rw [CH.out,← sV];clear sV;go_wp2_with fail;go_region_held3 (fun w'=>w'.cell? ⟨ob,3,none⟩=some (.pointer (some ⟨tb,0,none⟩))∧w'.cell? ⟨XB,2,none⟩=some (.int .i64 n)∧w'.cell? ⟨XB,3,none⟩=some (.string key)∧w'.cell? ⟨XB,5,none⟩=some (.string iO)) (go_keep)
  (first | (go_at_call 59;refine (tg.out _ ?_).mono ?_;(first | exact (Below.refl _ _).drew | exact aA (Below.refl _ _) _ | exact Below.refl _ _);rintro e w2 ⟨⟨ra,rm,rc,rfl,vR⟩,aV,hf2⟩;have bL:=ab aV;have NB:=ab hf2;have Nx:=ab vR;have n0:=HC.out w2 aV;obtain ⟨n3,n4,m0,m2,m3,m5⟩:=n0;clear aV hf2 vR))
 all_goals
  clear q3 q4 x0 x2 x3 x5 tg n3;have EV:¬ n<0:=by omega
  go_wp2;go_loopw [13,14] (fun v iv wr=>∃ (k:Nat) (L:List Pr) (va:Option Addr) (vn vc:Nat),k≤wn∧v = .slice va vn vc∧iv = .int .i64 (k:Int)∧Hid (L=(((aD r).take k).filter (jQ key iO)).take lim∧fJ wr w2.heap.size (.slice va vn vc) L∧Below w2.heap.size w2 wr)) (fun _ iv _=>wn - (intOf iv).toNat)
  case atStart=>exact ⟨0,[],none,0,0,aB _,rfl,rfl,by simp,fJ.nil _ _,Below.refl _ _⟩
  case round =>
   obtain ⟨k,L1,va,vn,vc,hk,rfl,rfl,hh⟩:=hrel;obtain ⟨CV,aE,km⟩:=hh.out;clear hh;have k0:(0:Int)≤(k:Int):=by omega
   have Gk:=bL.out.below km;obtain ⟨u3,u4,v0,v2,v3,v5⟩:=HC.out wr Gk;have Xp:L1.length=vn:=by
    obtain ⟨a,c,e⟩:=aE.form;cases e;rfl
   have HVN:=ab Xp;by_cases bO:k<wn
   ·have dE:(k:Int)<(wn:Int):=by omega
    have cZ:k<(aD r).length:=by have:=FU.out;omega
    have ajR:(wn:Int)≤1000000:=by have:=FU.out;have:=HN.out;omega
    have ajS:(vn:Int)≤1000000:=by
     have h1:L1.length≤(aD r).length:=by
      rw [CV,ag];have:=List.length_filter_le (jQ key iO) ((aD r).take k);rw [ag] at this;omega
     have:=HN.out;omega
    obtain ⟨_,_,hwe,_,_,bq⟩:=Gk.os.want.at;simp only [Value.slice.injEq] at hwe;obtain ⟨rfl,-,rfl⟩:=hwe;obtain ⟨g,o,zY,c1,c2⟩:=bq k cZ;subst zY;obtain ⟨p,hp⟩ : ∃ p,p=(aD r)[k]:=⟨_,rfl⟩;rw [← hp] at c1 c2;have HP:=ab hp;clear hp;have NX:=ai wr (.cells #[.string p.1,.string p.2] 52);have xp:=B.au.new wr #[.string p.1,.string p.2] 52;obtain ⟨_,_,_,t2,t3,t5⟩:=HC.out _ (Gk.below NX);have p0:=xp.c0;have p1:=xp.c1;obtain ⟨L2,jR⟩ : ∃ L2,L2=(((aD r).take (k+1)).filter (jQ key iO)).take lim:=⟨_,rfl⟩;have Wn:Hid (L2=(((aD r).take (k+1)).filter (jQ key iO)).take lim∧fJ (wr.alloc (.cells #[.string p.1,.string p.2] 52)) w2.heap.size (.slice va vn vc) L1∧Below w2.heap.size w2 (wr.alloc (.cells #[.string p.1,.string p.2] 52))):=⟨jR,aE.below NX,Below.next km NX⟩;obtain ⟨a2,Yd,w4,bw,EN,fS,_⟩:=DO w2.heap.size (.slice va vn vc) L1 p 52 (wr.alloc (.cells #[.string p.1,.string p.2] 52)) w2 w2.heap.size vn Xp (aE.below NX) (by omega) (by have:=km.size;simp;omega) (aj _) (Below.next km NX)
    rw [show (wr.alloc (.cells #[.string p.1,.string p.2] 52)).heap.size=wr.heap.size+1 by simp] at bw
    have sN:=ab bw;have N6:Hid (L2=(((aD r).take (k+1)).filter (jQ key iO)).take lim∧fJ w4 w2.heap.size (.slice a2 (vn+1) Yd) (L1++[p])∧Below w2.heap.size w2 w4):=⟨jR,EN,fS⟩;clear aE km Gk bq NX xp bw EN fS;by_cases hm:vn<lim
    ·have hmI:(vn:Int)<n:=by have:=YD.out;omega
     cases hb:cR p.1 key with
     | true =>
      have aV:Op.bytesLess p.1.toList key.toList=true:=hb;have lN:L2=L1:=by rw [jR,kZ cZ,if_neg (fun e=>by rw [← HP.out] at e;unfold jQ at e;rw [hb] at e;simp at e),← CV]
      rw [lN] at Wn;clear jR lN CV Xp;go_wp2;go_roundw
      case rel=>exact ⟨k+1,L1,va,vn,vc,by omega,rfl,by go_num,Wn.out⟩
      case measure=>simp [intOf];omega
     | false =>
      have aV:Op.bytesLess p.1.toList key.toList=false:=hb;by_cases hto:iO=⟨#[]⟩
      ·have hte:=Je hto;have lN:L2=L1++[p]:=by rw [jR,kZ cZ,if_pos ⟨tw.2 (by rw [← CV];have:=HVN.out;omega),by rw [← HP.out];unfold jQ;rw [hb,hto];rfl⟩,← CV,← HP.out]
       rw [lN] at N6;clear jR lN Wn CV hto Xp;go_wp2_with (first | (at_builtin;refine kY 63 rfl (.tmp 159) (.tmp 161) rfl rfl _ _ rfl rfl _ _ sN.out ?_))
       clear sN;go_roundw
       case rel=>exact ⟨k+1,L1++[p],a2,vn+1,Yd,by omega,rfl,by go_num,N6.out⟩
       case measure=>simp [intOf];omega
      ·obtain ⟨e0,e1⟩:=Dc hto;cases bW:cR p.1 iO with
       | true =>
        have fS:Op.bytesLess p.1.toList iO.toList=true:=bW;have lN:L2=L1++[p]:=by rw [jR,kZ cZ,if_pos ⟨tw.2 (by rw [← CV];have:=HVN.out;omega),by rw [← HP.out];unfold jQ;rw [hb,bW];simp⟩,← CV,← HP.out]
        rw [lN] at N6;clear jR lN Wn CV hto Xp;go_wp2_with (first | (at_builtin;refine kY 63 rfl (.tmp 159) (.tmp 161) rfl rfl _ _ rfl rfl _ _ sN.out ?_))
        clear sN;go_roundw
        case rel=>exact ⟨k+1,L1++[p],a2,vn+1,Yd,by omega,rfl,by go_num,N6.out⟩
        case measure=>simp [intOf];omega
       | false =>
        have fS:Op.bytesLess p.1.toList iO.toList=false:=bW;have lN:L2=L1:=by rw [jR,kZ cZ,if_neg (fun e=>by rw [← HP.out] at e;unfold jQ at e;rw [hb,bW] at e;simp [hto] at e),← CV]
        rw [lN] at Wn;clear jR lN CV Xp;go_wp2;go_roundw
        case rel=>exact ⟨k+1,L1,va,vn,vc,by omega,rfl,by go_num,Wn.out⟩
        case measure=>simp [intOf];omega
    ·have hmI:¬ (vn:Int)<n:=by have:=YD.out;omega
     have lN:L2=L1:=by rw [jR,kZ cZ,if_neg (fun e=>by have:=tw.1 e.1;rw [← CV] at this;have:=HVN.out;omega),← CV]
     rw [lN] at Wn;clear jR lN CV Xp;go_wp2;go_roundw
     case rel=>exact ⟨k+1,L1,va,vn,vc,by omega,rfl,by go_num,Wn.out⟩
     case measure=>simp [intOf];omega
   ·have dE:¬ (k:Int)<(wn:Int):=by omega
    have N3:L1=R:=by
     have ht:(aD r).take k=aD r:=ao (by have:=FU.out;omega)
     rw [CV,Zu.out,ht]
    rw [N3] at aE;have HSA:=ab (xy (.slice ra rm rc) (.slice va vn vc) R wr (by
     have h1:R.length≤(aD r).length:=by
      rw [Zu.out,ag];have:=List.length_filter_le (jQ key iO) (aD r);omega
     have:=HN.out;omega) (Nx.out.below km) aE.at)
    have cz:Hid (∀ W,Below wr.heap.size wr W→Os base A w0 W ob db tb fb fg F d r T (.slice wa wn wc) root tx (aD r)∧Fr F tb ob w W):=fun W hW=>⟨(Gk.below hW).os,Aj.out.trans (NB.out.trans ((dM km).trans (dM hW)))⟩
    clear aE km Gk N3 CV v0 v2 v3 v5 u3 m0 m2 m3 m5 n4;go_wp2_with fail;refine HSA.out.mono ?_
    rintro e w5 ⟨rfl,my⟩;have Wo:=ab (cz.out w5 my);clear HSA my u4;go_wp2;go_ret;exact ⟨rfl,Wo.out⟩
end
end T
end Go.Proofs.YtihmgigfkmofnaaGreatDoor
