import Derived.Test.YtihmgigfkmofnaaGreatDoorG39
set_option maxHeartbeats 8000000
set_option maxRecDepth 100000
open Go.Proofs.Tryz
namespace Go.Proofs.YtihmgigfkmofnaaGreatDoor
namespace T
open Go.RowKit
theorem K3(a:Option Addr)(m c:Nat)(l:List W.Lk)(q:W.Lk)(n:SN)(pv lv cv:Value)(w:World)(hm:m=l.length)(iw:m≤100000)(hr:W.cV w (.slice a (m+1) c) (l++[q]))(hs:dG w q.1 n pv lv cv)(dK:n.ps≠[]):Calls prog 53 #[.slice a (m+1) c,.nilIface] w fun e w'=>e = .returned (.tuple #[.agg #[.string (iF n.ps).1,.string (iF n.ps).2],.bool true,.nilIface])∧Below w.heap.size w w':=by
 have q0:=ai w (.cells #[.string ⟨#[]⟩,.string ⟨#[]⟩] 52);have x0:=B.ax.new w #[.string ⟨#[]⟩,.string ⟨#[]⟩] 52;have HX:=ab x0;have z0:=x0.c0;have z1:=x0.c1;have y0:=x0.free 0;have y1:=x0.free 1;have uj:=ab q0;have sH:=ab (hU a m c l q n pv lv cv _ hm iw (by
  obtain ⟨a',cap,e,hle,hn,hc⟩:=hr;exact ⟨a',cap,e,hle,hn,fun j hj=>by
   obtain ⟨g,o,ha,h1,h2⟩:=hc j hj;exact ⟨g,o,ha,(q0.cell (p:=⟨g,o+j*2,none⟩) (World.block_lt_of_cell? w _ h1)).trans h1,(q0.cell (p:=⟨g,o+j*2+1,none⟩) (World.block_lt_of_cell? w _ h2)).trans h2⟩⟩) (hs.below q0))
 have CA:=ab (hs.iD.below q0);have HF:Hid (n.ps.length≤4000):=hs.fine.2.1;obtain ⟨xa,xc,zC⟩:=hs.iD.form;subst zC;obtain ⟨M,hM⟩ : ∃ M,M=m+1:=⟨_,rfl⟩;rw [← hM] at sH ⊢;clear q0 x0 hr hs hm iw hM;obtain ⟨N,hN⟩ : ∃ N,N=n.ps.length:=⟨_,rfl⟩;have HN:=ab hN;rw [← hN] at sH CA HF;clear hN;have h0:¬ N=0:=fun e=>dK (List.length_eq_zero_iff.1 (by rw [← HN.out];exact e))
 have bP:N - 1<n.ps.length:=by have:=HN.out;omega
 have Cq:iF n.ps=n.ps[N - 1]:=pF (by have:=HN.out;omega)
 obtain ⟨_,_,jS,_,_,aX⟩:=CA.out;simp only [Value.slice.injEq] at jS;obtain ⟨rfl,-,rfl⟩:=jS;obtain ⟨g,o,rfl,c1,c2⟩:=aX (N - 1) bP;rw [← Cq] at c1 c2;generalize (iF n.ps).1=s1 at *;generalize (iF n.ps).2=s2 at *;obtain ⟨j,rfl⟩ : ∃ j,N=j+1:=⟨N - 1,by omega⟩
 rw [Nat.add_sub_cancel] at c1 c2;have Lb:(0:Int)≤(j:Int):=by omega
 have Jg:(j:Int)<(j:Int)+1:=by omega
 have VQ:(j:Int)≤4000:=by have:=HF.out;omega
 have hq3:(((j+1:Nat):Int) == 0)=false:=by simp;omega
 clear aX bP h0 Cq dK;go_enter func53,ntmps53;go_wp2_with fail;refine sH.out.mono ?_
 rintro e w1 ⟨rfl,rfl⟩;go_wp2_with fail
 (try simp only [Exit.inBlock,Exit.then])
 exact bodyPost_ret (ee rfl _ _ w.heap.size 52 _ (0,0) _ rfl (B.ax.new w #[.string s1,.string s2] 52) underlying52 rfl (by kernel_rfl)) rfl ⟨rfl,ai w _⟩
def JD(r:cQ)(e:Ending)(w':World):Prop :=
 (r=none∧e = .returned (.tuple #[.slice none 0 0,.nilIface])) ∨
 ∃ (m:Nat) (a:Option Addr) (c:Nat) (l:List W.Lk) (q:W.Lk) (n:SN) (pv lv cv:Value),e = .returned (.tuple #[.slice a (m+1) c,.nilIface])∧m=l.length∧m≤100000∧W.cV w' (.slice a (m+1) c) (l++[q])∧dG w' q.1 n pv lv cv∧n.ps≠[]∧∃ Y,aC r=Y++n.ps
theorem JD.of{d:S.V.bq}{A:Nat→Addr}{x:XT}{bs:Nat}{e:Ending}{w':World}(cT:eW (some x))(h:iu (de d) (fun n q=>q=n.lk.length) A [] x bs e w'):JD (some x) e w':=by
 rcases h with ⟨hE,_⟩ | ⟨ss,s,a,c,he,ho,hw,⟨⟨pv,lv,cv,hs⟩,hn⟩,h0,sk,hl⟩
 ·exact (hE:False).elim
 ·simp only [List.length_nil,Nat.zero_add,List.nil_append] at he ho hl;obtain ⟨hn,hg⟩:=hn;obtain ⟨b,n,i,⟨hh,t⟩⟩:=s;cases hh with
  | zero =>
   obtain ⟨⟨Y,hY⟩,dK⟩:=Kq hw cT;have kB:n.ps=t.2:=hn.2;exact .inr ⟨ss.length,a,c,ss.map eT.lk,(b,(i:Int)),n,pv,lv,cv,he,by rw [aA],by omega,ho.1.at,hs,by rw [kB];exact dK,Y,by rw [kB];exact hY⟩
  | succ h=>exact absurd (List.length_eq_zero_iff.1 h0) hn.2.1
section
variable {base:Nat} {A:Nat→Addr} {db:Nat} {F:Nat→Prop} {d:S.V.bq} {W0:World} {r:cQ}
theorem yZ{w w1:World}{tb:Nat}(hc:Ts base A db F d W0 w tb r)(hn:(aC r).length≤4611686018427387904)(hb:Below w.heap.size w w1):Calls prog 54 #[.pointer (some ⟨tb,0,none⟩),.func (.func 55) #[] #[]] w1 fun e w'=>JD r e w'∧Dv base A db F d w'∧Mv db F w w':=by
 obtain ⟨rv,ht,hr⟩:=hc.tr;have hv:=hc.dv.below hb;have hm:Mv db F w w1:=Mv.of hb;rcases hr with ⟨rfl,rfl⟩ | ⟨p,h,t,rfl,rfl,hk⟩
 ·refine (wC _ ⟨_,_,_,rfl⟩ tb _ w1 (ht.below hb)).mono fun e w' ⟨he,hw⟩=>?_
  subst hw;exact ⟨.inl ⟨rfl,he⟩,hv,hm⟩
 ·refine (Na (de d) (fun n q=>q=n.lk.length) (fun _=>True) (fun _ _ _ h=>h) p ⟨h,t⟩ tb w w1 ⟨hk.bU (cM.of hb),jM hc.ok⟩ (ht.below hb) hv hm hc.dv trivial (.inr (lu hc.ok hn)) (fun W b n pv lv cv y _ hs hn xV=>?_)).mono fun e w' ⟨h1,h2,h3⟩=>⟨JD.of hc.ok h1,h2,h3⟩
  have hk:=((de d).fit hn).1.resolve_left xV;exact (zY n lv W hs.bm).mono fun e w' ⟨he,hb⟩=>⟨n.lk.length,he,rfl,by omega,hb⟩
theorem D9{a:Option Addr}{n c:Nat}{v:Value}{w:World}{l:List Pr}(h:(.returned (.tuple #[.slice a n c,v])=Ending.returned (.tuple #[.slice none 0 0,.nilIface])∧l=[])∨∃ (m:Nat) (a':Option Addr) (c':Nat) (l':List W.Lk) (q:W.Lk) (sn:SN) (pv lv cv:Value),Ending.returned (.tuple #[.slice a n c,v]) = .returned (.tuple #[.slice a' (m+1) c',.nilIface])∧m=l'.length∧m≤100000∧W.cV w (.slice a' (m+1) c') (l'++[q])∧dG w q.1 sn pv lv cv∧sn.ps≠[]∧∃ Y,l=Y++sn.ps):Calls prog 53 #[.slice a n c,v] w fun e w'=>e = .returned (.tuple #[.agg #[.string (iF l).1,.string (iF l).2],.bool (!l.isEmpty),.nilIface])∧Below w.heap.size w w':=by
 rcases h with ⟨he,rfl⟩ | ⟨m,a',c',l',q,sn,pv,lv,cv,he,hm,iw,hr,hs,dK,Y,rfl⟩
 ·cases he;exact lO _ (.inl rfl) w
 ·cases he;rw [AF dK,show (Y++sn.ps).isEmpty=false by cases h:Y++sn.ps with | nil=>exact absurd (List.append_eq_nil_iff.1 h).2 dK | cons _ _=>rfl]
  exact K3 a m c l' q sn pv lv cv w hm iw hr hs dK
end
def TS(d:S.V.bq)(key:ByteArray)(r:cQ)(bs:Nat)(e:Ending)(w':World):Prop :=
 (r=none∧e = .returned (.tuple #[.slice none 0 0,.nilIface])) ∨
 ∃ (x:XT) (ss:List (eT XT)) (s:eT XT) (a:Option Addr) (c:Nat) (pv lv cv:Value) (t0:Nd 0),r=some x∧e = .returned (.tuple #[.slice a (ss.length+1) c,.nilIface])∧oa w' bs (.slice a (ss.length+1) c) (ss.map eT.lk++[s.lk])∧Way (de d) (fun n q=>B.fI n.lk key q) w' x ss s.x∧s.x=⟨0,t0⟩∧s.at'=0∧dG w' s.b s.n pv lv cv∧s.n.ps=t0.2∧fL t0.2≤4072∧ss.length≤63
theorem TS.of{A:Nat→Addr}{d:S.V.bq}{key:ByteArray}{x:XT}{bs:Nat}{e:Ending}{w':World}(h:iu (de d) (fun n q=>B.fI n.lk key q) A [] x bs e w'):TS d key (some x) bs e w':=by
 rcases h with ⟨hE,_⟩ | ⟨ss,s,a,c,he,ho,hw,⟨⟨pv,lv,cv,hs⟩,hn⟩,h0,sk,hl⟩
 ·exact (hE:False).elim
 ·simp only [List.length_nil,Nat.zero_add,List.nil_append] at he ho hl;obtain ⟨hn,hg⟩:=hn;obtain ⟨b,n,i,⟨hh,t⟩⟩:=s;cases hh with
  | zero=>exact .inr ⟨x,ss,⟨b,n,i,⟨0,t⟩⟩,a,c,pv,lv,cv,t,rfl,he,ho,hw,rfl,sk,hs,hn.2,hg.2,hl⟩
  | succ h=>exact absurd (List.length_eq_zero_iff.1 h0) hn.2.1
section
variable {base:Nat} {A:Nat→Addr} {db:Nat} {F:Nat→Prop} {d:S.V.bq} {W0:World} {r:cQ}
theorem RR{w w1:World}{tb:Nat}(key:ByteArray)(hc:Ts base A db F d W0 w tb r)(hn:(aC r).length≤4611686018427387904)(hb:Below w.heap.size w w1):Calls prog 46 #[.pointer (some ⟨tb,0,none⟩),.string key] w1 fun e w'=>TS d key r w.heap.size e w'∧Dv base A db F d w'∧Mv db F w w':=by
 obtain ⟨rv,ht,hr⟩:=hc.tr;have hv:=hc.dv.below hb;have hm:Mv db F w w1:=Mv.of hb;rcases hr with ⟨rfl,rfl⟩ | ⟨p,h,t,rfl,rfl,hk⟩
 ·refine (wz tb _ key w1 (ht.below hb)).mono fun e w' ⟨he,hb⟩=>⟨.inl ⟨rfl,he⟩,hv.below hb,hm.trans (Mv.of hb)⟩
 ·refine (wu (de d) p ⟨h,t⟩ tb key w w1 ⟨hk.bU (cM.of hb),jM hc.ok⟩ (ht.below hb) hv hm hc.dv (.inr (lu hc.ok hn))).mono fun e w' ⟨h1,h2,h3⟩=>⟨TS.of h1,h2,h3⟩
theorem E5{w w1:World}{b:Nat}(hb:base≤w.heap.size)(fh:w.heap.size≤b)(hF:∀ k,F k→k<w.heap.size)(hm:Mv db F w w1)(hv:Dv base A db F d w1)(x y:Value):Dv base A db F d ((w1.setCell ⟨b,0,none⟩ x).setCell ⟨b,1,none⟩ y)∧Mv db F w ((w1.setCell ⟨b,0,none⟩ x).setCell ⟨b,1,none⟩ y):=by
 have hf:¬ F b:=fun hf=>by
  have:=hF _ hf;omega
 have hs:=(bL.set b 0 w1 x).trans (bL.set b 1 _ y);exact ⟨(hv.tree (by omega) hf 0 x).tree (by omega) hf 1 y,⟨⟨hs.os.trans hm.step.os,hs.tape.trans hm.step.tape,hs.output.trans hm.step.output,al hm.size hs.size,fun k hk hn=>(hs.block k (ar hk hm.size) (by omega)).trans (hm.step.block k hk hn),fun _ h=>.inl h⟩,⟨hs.os.trans hm.step.os,hs.tape.trans hm.step.tape,hs.output.trans hm.step.output,al hm.size hs.size,fun k hk hn=>(hs.block k (ar hk hm.size) (by omega)).trans (hm.one.block k hk hn),fun _ h=>.inl h⟩⟩⟩
theorem Ts.boxed{w w1:World}{tb:Nat}(h:Ts base A db F d W0 w tb r)(hm:Mv db F w w1)(hv:Dv base A db F d w1)(x y:Value):Dv base A db F d ((w1.setCell ⟨w.heap.size,0,none⟩ x).setCell ⟨w.heap.size,1,none⟩ y)∧Mv db F w ((w1.setCell ⟨w.heap.size,0,none⟩ x).setCell ⟨w.heap.size,1,none⟩ y):=by
 obtain ⟨d',_,hd⟩:=h.dv.dev;exact E5 h.dv.env.errs.size (aj _) (fun k hk=>hd.lt _ hk) hm hv x y
theorem E7{w:World}{tb:Nat}(key:ByteArray)(hc:Ts base A db F d W0 w tb r)(hn:(aC r).length≤4611686018427387904):Calls prog 18 #[.pointer (some ⟨tb,0,none⟩),.string key] w fun e w'=>e = .returned (.tuple #[.agg #[.string (iF (sC (aC r) key)).1,.string (iF (sC (aC r) key)).2],.bool (!(sC (aC r) key).isEmpty),.nilIface])∧Dv base A db F d w'∧Mv db F w w':=by
 have q0:=ai w (.cells #[.string ⟨#[]⟩,.string ⟨#[]⟩] 52);have x0:=B.ax.new w #[.string ⟨#[]⟩,.string ⟨#[]⟩] 52;have HX:Hid (∀ w1,Mv db F (w.alloc (.cells #[.string ⟨#[]⟩,.string ⟨#[]⟩] 52)) w1→B.ax w1 w.heap.size #[.string ⟨#[]⟩,.string ⟨#[]⟩] 52):=fun w1 hm=>Vn hm x0 (by have:=hc.dv.BZ;omega)
 have HQ:=ab q0;have HC:=ab hc;have HCA:=ab (hc.below q0);have Vb:=ab (hc.dv.below q0);have HN:=ab hn;have pN:=ab hc.ok;clear hc x0 q0 hn;obtain ⟨L,hL⟩ : ∃ L,L=sC (aC r) key:=⟨_,rfl⟩;rw [← hL];have iq:=ab hL;clear hL;obtain ⟨s1,jk⟩ : ∃ s1,s1=(iF L).1:=⟨_,rfl⟩;obtain ⟨s2,jy⟩ : ∃ s2,s2=(iF L).2:=⟨_,rfl⟩;obtain ⟨bb,BQ⟩ : ∃ bb,bb=!L.isEmpty:=⟨_,rfl⟩;rw [← jk,← jy,← BQ];have mh:=ab jk;have lI:=ab jy;have nc:=ab BQ;clear jk jy BQ;by_cases hk:key=⟨#[]⟩
 ·subst hk;have vl:Hid (L=aC r):=by show _=_;rw [iq.out];unfold sC;rw [if_pos rfl]
  have HW:=ab (yZ HCA.out HN.out (Below.refl _ _));go_enter func18,ntmps18;go_wp2_with fail;refine HW.out.mono ?_
  rintro e w1 ⟨GU,dX,eo⟩;obtain ⟨a,n,c,he⟩ : ∃ a n c,e = .returned (.tuple #[.slice a n c,.nilIface]):=by
   rcases GU with ⟨_,he⟩ | ⟨m,a,c,_,_,_,_,_,_,he,_⟩
   ·exact ⟨_,_,_,he⟩
   ·exact ⟨_,_,_,he⟩
  subst he;have hl:=D9 (l:=L) (w:=w1) (by
   rcases GU with ⟨h1,h2⟩ | ⟨m,a',c',l',q,sn,pv,lv,cv,h1,h2,h3,h4,h5,h6,Y,h7⟩
   ·exact .inl ⟨h2,by rw [vl.out,h1];rfl⟩
   ·exact .inr ⟨m,a',c',l',q,sn,pv,lv,cv,h1,h2,h3,h4,h5,h6,Y,by rw [vl.out];exact h7⟩)
  rw [← mh.out,← lI.out,← nc.out] at hl;have HL:=ab hl;clear hl;have mQ:=ab dX;have Fw:=ab eo;clear GU dX eo HW;go_wp2_with fail;refine HL.out.mono ?_
  rintro e w2 ⟨rfl,aO⟩;have yL:=ab (Fw.out.trans (Mv.of aO));have oZ:=ab (mQ.out.below aO);have nQ:=ab (HX.out w2 yL.out);have z0:=nQ.out.c0;have z1:=nQ.out.c1;have y0:=nQ.out.free 0;have y1:=nQ.out.free 1;clear aO HL Fw mQ;go_wp2_with fail
  (try simp only [Exit.inBlock,Exit.then])
  exact bodyPost_ret (ee rfl _ _ w.heap.size 52 _ (0,0) _ rfl (nQ.out.two _ _) underlying52 rfl (by kernel_rfl)) rfl ⟨rfl,HC.out.boxed ((Mv.of HQ.out).trans yL.out) oZ.out _ _⟩
 ·have n9:key.toList.isEmpty=false:=by
   cases h:key.toList with
   | nil=>exact absurd (ig (by rw [← ByteArray.toList_eq,h])) hk
   | cons _ _=>rfl
  have HW:=ab (RR key HCA.out HN.out (Below.refl _ _));have HK:=ab hk;clear hk;go_enter func18,ntmps18;go_wp2_with fail;refine HW.out.mono ?_
  rintro e w1 ⟨GU,dX,eo⟩;have mQ:=ab dX;have Fw:=ab eo;have yJ:=ab (HX.out w1 eo);rcases GU with ⟨Uw,rfl⟩ | ⟨x,ss,s,a,c,pv,lv,cv,t0,VO,rfl,ho,gA,hsx,sk,hs,kB,cx,hl⟩
  ·have Wl:L=[]:=by rw [iq.out,Uw];unfold sC;rw [if_neg HK.out];rfl
   have RM:Hid (s1=⟨#[]⟩):=by show _=_;rw [mh.out,Wl];rfl
   have JK:Hid (s2=⟨#[]⟩):=by show _=_;rw [lI.out,Wl];rfl
   have HE3:Hid (bb=false):=by show _=_;rw [nc.out,Wl];rfl
   clear Wl;clear dX eo HW Uw;go_wp2_with fail;refine (ia w1).mono ?_
   rintro e w1' ⟨rfl,rfl⟩;go_wp2_with fail;refine (jb (.slice none 0 0) [] key w1 (by simp) (gK.nil _)).mono ?_
   rintro e w2 ⟨rfl,aO⟩;rw [show bh [] key=false from rfl,show aJ [] key=0 from rfl]
   have yL:=ab (Fw.out.trans (Mv.of aO));have oZ:=ab (mQ.out.below aO);clear aO;go_wp2_with fail;refine (zb tb w2).mono ?_
   rintro e w2' ⟨rfl,rfl⟩;go_wp2_with fail;refine (lO .nilIface (.inl rfl) w2).mono ?_
   rintro e w3 ⟨rfl,bF⟩;have FP:=ab (yL.out.trans (Mv.of bF));have Fk:=ab (oZ.out.below bF);have rf:=ab (HX.out w3 FP.out);have z0:=rf.out.c0;have z1:=rf.out.c1;have y0:=rf.out.free 0;have y1:=rf.out.free 1;clear bF;go_wp2_with fail
   (try simp only [Exit.inBlock,Exit.then])
   exact bodyPost_ret (ee rfl _ _ w.heap.size 52 _ (0,0) _ rfl (rf.out.two _ _) underlying52 rfl (by kernel_rfl)) rfl ⟨by rw [RM.out,JK.out,HE3.out];rfl,HC.out.boxed ((Mv.of HQ.out).trans FP.out) Fk.out _ _⟩
  ·subst VO;have yK:Hid (∃ rv,B.ax w1 tb #[.pointer (some ⟨db,0,none⟩),rv] 100):=by
    obtain ⟨rv,h1,_⟩:=(HCA.out.mv eo dX).tr;exact ⟨rv,h1⟩
   obtain ⟨iB,hX,hZ⟩:=CK (lo:=none) (hi:=none) (hsx▸gA) pN.out.1;have Wl:L=fQ ss++(s.n.ps).take (aJ s.n.ps key):=by
    rw [iq.out];show sC (flat x.1 x.2) key=_
    rw [iB,QI HK.out hX hZ,kB]
   have vl:=ab Wl;have HO:=ab ho;have HWY:=ab gA;have HL:=ab hl;have yY:=ab sk;have ji:Hid (fL s.n.ps≤4072):=by show _≤_;rw [kB];exact cx
   have ad7:Hid (x.1+1≤64):=lu (h:=x.1) (t:=x.2) pN.out HN.out;have sH:=ab (hU a ss.length c (ss.map eT.lk) s.lk s.n pv lv cv w1 (by rw [aA]) (by omega) ho.1.at hs)
   have CA:=ab hs.iD;obtain ⟨m,Co⟩ : ∃ m,m=ss.length:=⟨_,rfl⟩;have wh:=ab Co;rw [← Co] at sH HO ⊢;obtain ⟨xa,xc,zC⟩:=hs.iD.form;subst zC;clear ho gA hs cx sk hl dX eo HW Co iB hX hZ kB hsx Wl;go_wp2_with fail;refine sH.out.mono ?_
   rintro e w1' ⟨rfl,rfl⟩;go_wp2_with fail;refine (jb _ s.n.ps key w1 (by have:=iM s.n.ps;have:=ji.out;omega) CA.out).mono ?_
   rintro e w2 ⟨rfl,aO⟩;have yL:=ab (Fw.out.trans (Mv.of aO));have oZ:=ab (mQ.out.below aO);have nQ:=ab (HX.out w2 yL.out);have adR:=ab (CA.out.below aO);have im:=ab (HO.out.below aO);have adF:=ab (HWY.out.bU (cM.of aO));have wg:Hid (∃ rv,B.ax w2 tb #[.pointer (some ⟨db,0,none⟩),rv] 100):=by
    obtain ⟨rv,h1⟩:=yK.out;exact ⟨rv,h1.below aO⟩
   have iB:=cp s.n.ps key;clear aO;generalize aJ s.n.ps key=fq at *;by_cases hp:0<fq
   ·obtain ⟨j,rfl⟩ : ∃ j,fq=j+1:=⟨fq - 1,by omega⟩
    obtain ⟨_,_,jS,_,_,aX⟩:=adR.out;simp only [Value.slice.injEq] at jS;obtain ⟨rfl,-,rfl⟩:=jS;obtain ⟨g,o,rfl,c1,c2⟩:=aX j (by omega)
    have dK:(s.n.ps).take (j+1)≠[]:=fun e=>by
     have:=congrArg List.length e;rw [ag,List.length_nil] at this;omega
    have Cq:iF L=s.n.ps[j]:=by
     rw [vl.out,AF dK,pF (j:=j) (by rw [ag];omega),bD]
    have hem:(!L.isEmpty)=true:=by
     rw [vl.out];cases h:fQ ss++(s.n.ps).take (j+1) with
     | nil=>exact absurd (List.append_eq_nil_iff.1 h).2 dK
     | cons _ _=>rfl
    rw [← Cq,← mh.out] at c1;rw [← Cq,← lI.out] at c2;have HE3:Hid (bb=true):=by show _=_;rw [nc.out,hem]
    have Lg:(0:Int)≤(j:Int):=by omega
    have hj1:(j:Int)<(s.n.ps.length:Int):=by omega
    have Zn:(s.n.ps.length:Int)≤4072:=by have:=iM s.n.ps;have:=ji.out;omega
    have hj3:(0:Int)<((j+1:Nat):Int):=by omega
    have z0:=nQ.out.c0;have z1:=nQ.out.c1;have y0:=nQ.out.free 0;have y1:=nQ.out.free 1;clear aX iB hp dK Cq hem;go_wp2_with fail
    (try simp only [Exit.inBlock,Exit.then])
    exact bodyPost_ret (ee rfl _ _ w.heap.size 52 _ (0,0) _ rfl (nQ.out.two _ _) underlying52 rfl (by kernel_rfl)) rfl ⟨by rw [HE3.out];rfl,HC.out.boxed ((Mv.of HQ.out).trans yL.out) oZ.out _ _⟩
   ·have hz:fq=0:=by omega
    subst hz;have ad8:Hid (L=fQ ss):=by show _=_;rw [vl.out];simp
    obtain ⟨rv2,tJ⟩:=wg.out;have GU:=wB (rv:=rv2) a c ss s Vb.out yL.out oZ.out tJ (by rw [← wh.out];exact im.out.1.at) x adF.out ad7.out yY.out HL.out
    rw [← wh.out] at GU;have HWA:=ab GU;clear GU iB hp tJ;go_wp2_with fail;refine HWA.out.mono ?_
    rintro e w3 ⟨hah,yS,yT⟩;obtain ⟨a3,n3,c3,he⟩ : ∃ a n c,e = .returned (.tuple #[.slice a n c,.nilIface]):=by
     rcases hah with ⟨he,_⟩ | ⟨m,a,c,_,_,_,_,_,_,he,_⟩
     ·exact ⟨_,_,_,he⟩
     ·exact ⟨_,_,_,he⟩
    subst he;have Cq:=D9 (l:=L) (w:=w3) (by rw [ad8.out];exact hah)
    rw [← mh.out,← lI.out,← nc.out] at Cq;have HLA:=ab Cq;clear Cq;have Fk:=ab yS;have FP:=ab yT;clear hah yS yT HWA;go_wp2_with fail;refine HLA.out.mono ?_
    rintro e w4 ⟨rfl,eO⟩;have HM4:=ab (FP.out.trans (Mv.of eO));have HV4:=ab (Fk.out.below eO);have we:=ab (HX.out w4 HM4.out);have z0:=we.out.c0;have z1:=we.out.c1;have y0:=we.out.free 0;have y1:=we.out.free 1;clear eO HLA;go_wp2_with fail
    (try simp only [Exit.inBlock,Exit.then])
    exact bodyPost_ret (ee rfl _ _ w.heap.size 52 _ (0,0) _ rfl (we.out.two _ _) underlying52 rfl (by kernel_rfl)) rfl ⟨rfl,HC.out.boxed ((Mv.of HQ.out).trans HM4.out) HV4.out _ _⟩
end
section
variable {base:Nat} {A:Nat→Addr} {w0:World} {ob db tb fb fg:Nat} {F:Nat→Prop} {d:S.V.bq} {r:cQ} {T:Nat→Bool} {wv:Value} {root tx:Nat} {l:List Pr}
structure zT(base:Nat)(A:Nat→Addr)(w0 w:World)(ob db tb fb fg:Nat)(F:Nat→Prop)(d:S.V.bq)(r:cQ)(T:Nat→Bool)(wv:Value)(root tx:Nat)(l:List Pr)(XB:Nat)(row:Array Value):Prop where
 os:Os base A w0 w ob db tb fb fg F d r T wv root tx l
 bx:B.ax w XB row 44
 ne:¬ F XB∧XB≠tb∧XB≠ob
section
variable {XB:Nat} {row:Array Value}
theorem zT.fr{w w1:World}(h:zT base A w0 w ob db tb fb fg F d r T wv root tx l XB row)(ho:Os base A w0 w1 ob db tb fb fg F d r T wv root tx l)(hf:Fr F tb ob w w1):zT base A w0 w1 ob db tb fb fg F d r T wv root tx l XB row:=⟨ho,(hf.2 XB h.bx.lt h.ne.1 h.ne.2.1 h.ne.2.2).trans h.bx,h.ne⟩
theorem zT.below{w w1:World}(h:zT base A w0 w ob db tb fb fg F d r T wv root tx l XB row)(hb:Below w.heap.size w w1):zT base A w0 w1 ob db tb fb fg F d r T wv root tx l XB row:=h.fr (h.os.below hb) (cC hb)
end
theorem Os.box{w:World}(h:Os base A w0 w ob db tb fb fg F d r T wv root tx l)(row:Array Value):zT base A w0 (w.alloc (.cells row 44)) ob db tb fb fg F d r T wv root tx l w.heap.size row:=by
 have hn:=h.new (aj w.heap.size);exact ⟨h.below (ai w _),B.ax.new w row 44,hn.1,hn.2.1,hn.2.2.1⟩
theorem CL{l:List Pr}{key:ByteArray}(h:bh l key=true):valOf l key=(l[aJ l key]'(fG h)).2:=by unfold valOf;rw [dif_pos h]
theorem JW{l:List Pr}{key:ByteArray}(h:bh l key=false):valOf l key=⟨#[]⟩:=by unfold valOf;rw [dif_neg (by rw [h];decide)]
theorem Mm{w:World}(at' n:Int)(key value iV:ByteArray)(h:Os base A w0 w ob db tb fb fg F d r T wv root tx (aC r))(hn:(aC r).length≤1000000)(dm:key.size≤140737488355328):Calls prog 61 #[.pointer (some ⟨ob,0,none⟩),.agg #[.int .i64 3,.int .i64 at',.int .i64 n,.string key,.string value,.string iV]] w fun e w'=>e = .returned (.bool true)∧Os base A w0 w' ob db tb fb fg F d r T wv root tx (aC r)∧Fr F tb ob w w':=by
 obtain ⟨row,bG⟩ : ∃ row:Array Value,row=#[.int .i64 3,.int .i64 at',.int .i64 n,.string key,.string value,.string iV]:=⟨_,rfl⟩;have h1:=h.box row;have ui:=ab (cC (F:=F) (tb:=tb) (ob:=ob) (ai w (.cells row 44)));rw [bG] at h1 ui;obtain ⟨W1,iy⟩ : ∃ W1,w.alloc (.cells #[.int .i64 3,.int .i64 at',.int .i64 n,.string key,.string value,.string iV] 44)=W1:=⟨_,rfl⟩;obtain ⟨XB,pI⟩ : ∃ XB,XB=w.heap.size:=⟨_,rfl⟩;rw [iy,← pI] at h1;rw [iy] at ui;rw [← bG] at h1;have HC:Hid (∀ W,zT base A w0 W ob db tb fb fg F d r T wv root tx (aC r) XB row→W.cell? ⟨ob,3,none⟩=some (.pointer (some ⟨tb,0,none⟩))∧W.cell? ⟨ob,4,none⟩=some wv∧W.cell? ⟨XB,0,none⟩=some (.int .i64 3)∧W.cell? ⟨XB,3,none⟩=some (.string key)):=fun W hb=>by
  have hx:=hb.bx;rw [bG] at hx;refine ⟨hb.os.c.1,hb.os.c.2.1,?_,?_⟩
  ·have:=hx.cell 0 (by simp)
   simpa using this
  ·have:=hx.cell 3 (by simp)
   simpa using this
 have zR:Hid (∀ W,Below W1.heap.size W1 W→Calls prog 17 #[.pointer (some ⟨tb,0,none⟩),.string key] W fun e w'=>e = .returned (if cP (key,⟨#[]⟩)=true then .tuple #[.string (valOf (aC r) key),.bool (bh (aC r) key),.nilIface] else .tuple #[.string ⟨#[]⟩,.bool false,.iface 360 (.pointer (some (A 0)))])∧zT base A w0 w' ob db tb fb fg F d r T wv root tx (aC r) XB row∧Fr F tb ob W1 w'):=fun W hW=>by
  have hb:=h1.below hW;refine (Ls key hb.os.ts (by omega) dm).mono fun e w' ⟨he,ht⟩=>⟨he,hb.fr (hb.os.tree ht (List.Sublist.refl _)) (pJ ht.st),(cC hW).trans (pJ ht.st)⟩
 have nX:Hid (∀ W,Calls prog 29 #[.string key,.string ⟨#[]⟩] W fun e w'=>e = .returned (.bool (cP (key,⟨#[]⟩)))∧W=w'):=fun W=>yk key ⟨#[]⟩ W dm (by simp [ByteArray.size])
 have o8:Hid (∀ W,zT base A w0 W ob db tb fb fg F d r T wv root tx (aC r) XB row→∀ W2,Below W.heap.size W W2→Calls prog 28 #[wv,.string key] W2 fun e w'=>e = .returned (.tuple #[.int .i64 (aJ (aC r) key:Int),.bool (bh (aC r) key)])∧Below W.heap.size W w'):=fun W hb W2 hW=>(mn wv (aC r) key W2 (by omega) (hb.below hW).os.want.at).mono fun e w' ⟨he,k,hk⟩=>⟨he,by rw [hk];exact Below.next hW (aB (Below.refl _ _) k)⟩
 obtain ⟨q0,q4,x0,x3⟩:=HC.out W1 h1;obtain ⟨wa,wn,wc,MJ⟩:=gR h.want;have XR:=ab (cp (aC r) key);have HN:=ab hn;subst MJ;have rn:=ab iy;have QV:=ab pI;clear h h1 hn dm bG iy;by_cases hm:cP (key,⟨#[]⟩)=true
 ·simp only [hm,if_true] at zR nX;clear hm;cases hf:bh (aC r) key with
  | false =>
   simp only [JW hf,hf] at zR o8;clear hf;go_enter func61,ntmps61;go_wp2_with fail;rw [rn.out,← pI];clear pI;go_wp2_with fail;go_region_held3 (fun w'=>w'.cell? ⟨ob,3,none⟩=some (.pointer (some ⟨tb,0,none⟩))∧w'.cell? ⟨XB,3,none⟩=some (.string key)) (go_keep)
    (first | (go_at_call 17;refine (zR.out _ ?_).mono ?_;(first | exact (Below.refl _ _).drew | exact aB (Below.refl _ _) _ | exact Below.refl _ _);rintro e w2 ⟨rfl,aO,hf2⟩;have bJ:=ab aO;have MA:=ab hf2;have n0:=HC.out w2 aO;obtain ⟨n3,n4,m0,m3⟩:=n0;clear aO hf2))
   all_goals
    clear q0 q4 x0 x3 zR;go_wp2_with fail;refine (nX.out _).mono ?_
    rintro e wq ⟨rfl,rfl⟩;have o9:=ab (o8.out w2 bJ.out);clear o8;go_wp2_with fail;go_region_held3 (fun w'=>w'.cell? ⟨ob,4,none⟩=some (.slice wa wn wc)∧w'.cell? ⟨XB,3,none⟩=some (.string key)) (go_keep)
     (first | (go_at_call 28;refine (o9.out _ ?_).mono ?_;(first | exact (Below.refl _ _).drew | exact aB (Below.refl _ _) _ | exact Below.refl _ _);rintro e w3 ⟨rfl,bF⟩;have dD:=ab (bJ.out.below bF);have CC:=ab (MA.out.trans (cC bF));have o0:=HC.out w3 dD.out;obtain ⟨o3,o4,r0,r3⟩:=o0;clear bF))
   all_goals
     clear o9 n3 n4 m0 m3;go_wp2;go_ret;exact ⟨rfl,dD.out.os,ui.out.trans CC.out⟩
  | true =>
   have bP:=fG hf;have Eg:=CL hf;obtain ⟨vv,vT⟩ : ∃ vv,vv=valOf (aC r) key:=⟨_,rfl⟩;have vD:Hid (∀ W,zT base A w0 W ob db tb fb fg F d r T (.slice wa wn wc) root tx (aC r) XB row→∃ g o,wa=some ⟨g,o,none⟩∧W.cell? ⟨g,o+aJ (aC r) key*2+1,none⟩=some (.string vv)∧wn=(aC r).length):=fun W hb=>by
    obtain ⟨a,cap,e,_,_,hc⟩:=hb.os.want.at;obtain ⟨g,o,ha,_,h2⟩:=hc _ bP;cases e;exact ⟨g,o,ha,by rw [vT,Eg];exact h2,rfl⟩
   simp only [← vT,hf] at zR o8;have HLT:=ab bP;clear hf Eg vT bP;generalize aJ (aC r) key=fq at *;go_enter func61,ntmps61;go_wp2_with fail;rw [rn.out,← pI];clear pI;go_wp2_with fail;go_region_held3 (fun w'=>w'.cell? ⟨ob,3,none⟩=some (.pointer (some ⟨tb,0,none⟩))∧w'.cell? ⟨XB,3,none⟩=some (.string key)) (go_keep)
    (first | (go_at_call 17;refine (zR.out _ ?_).mono ?_;(first | exact (Below.refl _ _).drew | exact aB (Below.refl _ _) _ | exact Below.refl _ _);rintro e w2 ⟨rfl,aO,hf2⟩;have bJ:=ab aO;have MA:=ab hf2;have n0:=HC.out w2 aO;obtain ⟨n3,n4,m0,m3⟩:=n0;clear aO hf2))
   all_goals
    clear q0 q4 x0 x3 zR;go_wp2_with fail;refine (nX.out _).mono ?_
    rintro e wq ⟨rfl,rfl⟩;have o9:=ab (o8.out w2 bJ.out);clear o8;go_wp2_with fail;go_region_held3 (fun w'=>w'.cell? ⟨ob,4,none⟩=some (.slice wa wn wc)∧w'.cell? ⟨XB,3,none⟩=some (.string key)) (go_keep)
     (first | (go_at_call 28;refine (o9.out _ ?_).mono ?_;(first | exact (Below.refl _ _).drew | exact aB (Below.refl _ _) _ | exact Below.refl _ _);rintro e w3 ⟨rfl,bF⟩;have dD:=ab (bJ.out.below bF);have CC:=ab (MA.out.trans (cC bF));have o0:=HC.out w3 dD.out;obtain ⟨o3,o4,r0,r3⟩:=o0;clear bF))
   all_goals
     clear o9 n3 n4 m0 m3;obtain ⟨g,o,hg,aX,GS⟩:=vD.out w3 dD.out;subst hg;have j0:(0:Int)≤(fq:Int):=by omega
     have j1:(fq:Int)<(wn:Int):=by have:=HLT.out;omega
     have j2:(wn:Int)≤1000000:=by have:=HN.out;omega
     clear vD GS;go_wp2;go_ret;exact ⟨rfl,dD.out.os,ui.out.trans CC.out⟩
 ·have G3:cP (key,⟨#[]⟩)=false:=by simpa using hm
  simp only [G3,kK,if_false] at zR nX;clear hm G3;go_enter func61,ntmps61;go_wp2_with fail;rw [rn.out,← pI];clear pI;go_wp2_with fail;go_region_held3 (fun w'=>w'.cell? ⟨ob,3,none⟩=some (.pointer (some ⟨tb,0,none⟩))∧w'.cell? ⟨XB,3,none⟩=some (.string key)) (go_keep)
   (first | (go_at_call 17;refine (zR.out _ ?_).mono ?_;(first | exact (Below.refl _ _).drew | exact aB (Below.refl _ _) _ | exact Below.refl _ _);rintro e w2 ⟨rfl,aO,hf2⟩;have bJ:=ab aO;have MA:=ab hf2;have n0:=HC.out w2 aO;obtain ⟨n3,n4,m0,m3⟩:=n0;clear aO hf2))
  all_goals
   clear q0 q4 x0 x3 zR;go_wp2_with fail;refine (nX.out _).mono ?_
   rintro e wq ⟨rfl,rfl⟩;have WK:=ab (rQ A w2 bJ.out.os.ts.dv.errs);go_wp2_with fail;refine WK.out.mono ?_
   rintro e wq ⟨rfl,rfl⟩;go_wp2;go_ret;exact ⟨rfl,bJ.out.os,ui.out.trans MA.out⟩
end
theorem ll{p:Pr→Bool}{l:List Pr}{k lim:Nat}(h:k<l.length):((l.take (k+1)).filter p).take lim=if ((l.take k).filter p).length<lim∧p l[k]=true then ((l.take k).filter p).take lim++[l[k]] else ((l.take k).filter p).take lim:=by
 rw [az h,oY];by_cases hp:p l[k]=true
 ·have e:[l[k]].filter p=[l[k]]:=by simp [hp]
  rw [e,List.take_append];by_cases hl:((l.take k).filter p).length<lim
  ·rw [if_pos ⟨hl,hp⟩];congr 1
   obtain ⟨j,hj⟩ : ∃ j,lim - ((l.take k).filter p).length=j+1:=⟨lim - ((l.take k).filter p).length - 1,by omega⟩
   rw [hj];simp
  ·rw [if_neg (fun e=>hl e.1),show lim - ((l.take k).filter p).length=0 by omega]
   simp
 ·have e:[l[k]].filter p=[]:=by simp [hp]
  rw [if_neg (fun e=>hp e.2),e,List.append_nil]
theorem ti{p:Pr→Bool}{l:List Pr}{k lim:Nat}:((l.take k).filter p).length<lim↔(((l.take k).filter p).take lim).length<lim:=by
 rw [ag];omega
theorem Iv{s:ByteArray}(h:s=⟨#[]⟩):s.toList=[]:=by
 subst h;rw [ByteArray.toList_eq]
theorem CN{s:ByteArray}(h:s≠⟨#[]⟩):s.toList.isEmpty=false∧¬ s.toList=[]:=by
 have h1:¬ s.toList=[]:=fun e=>h (ig (by rw [← ByteArray.toList_eq,e]))
 refine ⟨?_,h1⟩;cases hx:s.toList with
 | nil=>exact absurd hx h1
 | cons _ _=>rfl
section
variable {base:Nat} {A:Nat→Addr} {w0:World} {ob db tb fb fg:Nat} {F:Nat→Prop} {d:S.V.bq} {r:cQ} {T:Nat→Bool} {wv:Value} {root tx:Nat} {l:List Pr}
theorem Fe{w:World}(kind at' n:Int)(key value iV:ByteArray)(hk:kind≠3∧kind≠4∧kind≠5)(h:Os base A w0 w ob db tb fb fg F d r T wv root tx l):Calls prog 61 #[.pointer (some ⟨ob,0,none⟩),.agg #[.int .i64 kind,.int .i64 at',.int .i64 n,.string key,.string value,.string iV]] w fun e w'=>e = .returned (.bool true)∧Os base A w0 w' ob db tb fb fg F d r T wv root tx l∧Fr F tb ob w w':=by
 have q0:=ai w (.cells #[.int .i64 kind,.int .i64 at',.int .i64 n,.string key,.string value,.string iV] 44);have x0:=B.ax.new w #[.int .i64 kind,.int .i64 at',.int .i64 n,.string key,.string value,.string iV] 44;have k0:=x0.cell 0 (by simp)
 simp only [bT,List.getElem_cons_zero] at k0;have HR:Hid (Os base A w0 (w.alloc (.cells #[.int .i64 kind,.int .i64 at',.int .i64 n,.string key,.string value,.string iV] 44)) ob db tb fb fg F d r T wv root tx l∧Fr F tb ob w (w.alloc (.cells #[.int .i64 kind,.int .i64 at',.int .i64 n,.string key,.string value,.string iV] 44))):=⟨h.below q0,cC q0⟩;have n3:(kind == 3)=false:=by rw [beq_eq_false_iff_ne];exact hk.1
 have n4:(kind == 4)=false:=by rw [beq_eq_false_iff_ne];exact hk.2.1
 have n5:(kind == 5)=false:=by rw [beq_eq_false_iff_ne];exact hk.2.2
 clear hk h q0 x0;go_enter func61,ntmps61;go_wp2;go_ret;exact ⟨rfl,HR.out⟩
theorem Ml{w:World}(at' n:Int)(key value iV:ByteArray)(h:Os base A w0 w ob db tb fb fg F d r T wv root tx (aC r))(hn:(aC r).length≤1000000)(Pp:n<0):Calls prog 61 #[.pointer (some ⟨ob,0,none⟩),.agg #[.int .i64 4,.int .i64 at',.int .i64 n,.string key,.string value,.string iV]] w fun e w'=>e = .returned (.bool true)∧Os base A w0 w' ob db tb fb fg F d r T wv root tx (aC r)∧Fr F tb ob w w':=by
 obtain ⟨row,bG⟩ : ∃ row:Array Value,row=#[.int .i64 4,.int .i64 at',.int .i64 n,.string key,.string value,.string iV]:=⟨_,rfl⟩;have h1:=h.box row;have ui:=ab (cC (F:=F) (tb:=tb) (ob:=ob) (ai w (.cells row 44)));rw [bG] at h1 ui;obtain ⟨W1,iy⟩ : ∃ W1,w.alloc (.cells #[.int .i64 4,.int .i64 at',.int .i64 n,.string key,.string value,.string iV] 44)=W1:=⟨_,rfl⟩;obtain ⟨XB,pI⟩ : ∃ XB,XB=w.heap.size:=⟨_,rfl⟩;rw [iy,← pI] at h1;rw [iy] at ui;rw [← bG] at h1;have HC:Hid (∀ W,zT base A w0 W ob db tb fb fg F d r T wv root tx (aC r) XB row→W.cell? ⟨ob,3,none⟩=some (.pointer (some ⟨tb,0,none⟩))∧W.cell? ⟨ob,4,none⟩=some wv∧W.cell? ⟨XB,0,none⟩=some (.int .i64 4)∧W.cell? ⟨XB,2,none⟩=some (.int .i64 n)∧W.cell? ⟨XB,3,none⟩=some (.string key)∧W.cell? ⟨XB,5,none⟩=some (.string iV)):=fun W hb=>by
  have hx:=hb.bx;rw [bG] at hx;refine ⟨hb.os.c.1,hb.os.c.2.1,?_,?_,?_,?_⟩
  ·have:=hx.cell 0 (by simp)
   simpa using this
  ·have:=hx.cell 2 (by simp)
   simpa using this
  ·have:=hx.cell 3 (by simp)
   simpa using this
  ·have:=hx.cell 5 (by simp)
   simpa using this
 have RI:Hid (∀ W,Below W1.heap.size W1 W→Calls prog 59 #[.pointer (some ⟨tb,0,none⟩),.string key,.string iV,.int .i64 n] W fun e w'=>e = .returned (.tuple #[.slice none 0 0,.iface 360 (.pointer (some (A 0)))])∧zT base A w0 w' ob db tb fb fg F d r T wv root tx (aC r) XB row∧Fr F tb ob W1 w'):=fun W hW=>by
  have hb:=h1.below hW;refine (KB hb.os.ts n Pp).mono fun e w' ⟨he,BQ⟩=>⟨he,hb.below BQ,(cC hW).trans (cC BQ)⟩
 obtain ⟨q3,q4,x0,x2,x3,x5⟩:=HC.out W1 h1;obtain ⟨wa,wn,wc,MJ⟩:=gR h.want;have HN:=ab hn;have Cd:Hid (wn=(aC r).length):=by
  obtain ⟨a,c,e2⟩:=h.want.form;rw [MJ] at e2;cases e2;rfl
 subst MJ;have rn:=ab iy;have QV:=ab pI;clear h h1 hn bG iy;go_enter func61,ntmps61;go_wp2_with fail;rw [rn.out,← pI];clear pI;go_wp2_with fail;go_region_held3 (fun w'=>w'.cell? ⟨ob,3,none⟩=some (.pointer (some ⟨tb,0,none⟩))∧w'.cell? ⟨XB,2,none⟩=some (.int .i64 n)∧w'.cell? ⟨XB,3,none⟩=some (.string key)∧w'.cell? ⟨XB,5,none⟩=some (.string iV)) (go_keep)
  (first | (go_at_call 59;refine (RI.out _ ?_).mono ?_;(first | exact (Below.refl _ _).drew | exact aB (Below.refl _ _) _ | exact Below.refl _ _);rintro e w2 ⟨rfl,aO,hf2⟩;have bJ:=ab aO;have MA:=ab hf2;have n0:=HC.out w2 aO;obtain ⟨n3,n4,m0,m2,m3,m5⟩:=n0;clear aO hf2))
 all_goals
  clear q3 q4 x0 x2 x3 x5 RI;have WK:=ab (rQ A w2 bJ.out.os.ts.dv.errs);go_wp2_with fail;refine WK.out.mono ?_
  rintro e wq ⟨rfl,rfl⟩;go_wp2;go_ret;exact ⟨rfl,bJ.out.os,ui.out.trans MA.out⟩
end
theorem lh{ops:Array Oper}{rest:List Oper}{o:Oper}{a:Act}{w:World}{Q:Exit→Act→World→Prop}(t:TypeId)(nM:o.guard=none)(d x:Operand)
  (ho:o.op = .call { callee:=.builtin .append,args:=#[d,x],argTypes:=#[t,t] }) (zq:o.type=t) (vd vx:Value) (hd:a.eval d=vd) (hx:a.eval x=vx) (v:Value) (w':World)
  (bg:(Builtin.append_ #[t,t] t #[vd,vx]).run prog w = .ok v w') (h:wpList prog ops Q rest (a.put o.dst v) w'):wpList prog ops Q (o::rest) a w :=
 wpList_plain nM fun _ hK=>by
  unfold Oper.wp;simp [execOp,ho,resolve,invoke,builtin,hd,hx,zq,bg,Result.andThen]
  exact hK _ _ h
section
variable {base:Nat} {A:Nat→Addr} {w0:World} {ob db tb fb fg:Nat} {F:Nat→Prop} {d:S.V.bq} {r:cQ} {T:Nat→Bool} {wv:Value} {root tx:Nat} {l:List Pr}
theorem Fc{w:World}(at' n:Int)(key value iV:ByteArray)(h:Os base A w0 w ob db tb fb fg F d r T wv root tx (aC r))(hn:(aC r).length≤1000000)(h0n:0≤n)(sO:n≤9223372036854775807):Calls prog 61 #[.pointer (some ⟨ob,0,none⟩),.agg #[.int .i64 4,.int .i64 at',.int .i64 n,.string key,.string value,.string iV]] w fun e w'=>e = .returned (.bool true)∧Os base A w0 w' ob db tb fb fg F d r T wv root tx (aC r)∧Fr F tb ob w w':=by
 obtain ⟨row,bG⟩ : ∃ row:Array Value,row=#[.int .i64 4,.int .i64 at',.int .i64 n,.string key,.string value,.string iV]:=⟨_,rfl⟩;have h1:=h.box row;have ui:=ab (cC (F:=F) (tb:=tb) (ob:=ob) (ai w (.cells row 44)));rw [bG] at h1 ui;obtain ⟨W1,iy⟩ : ∃ W1,w.alloc (.cells #[.int .i64 4,.int .i64 at',.int .i64 n,.string key,.string value,.string iV] 44)=W1:=⟨_,rfl⟩;obtain ⟨XB,pI⟩ : ∃ XB,XB=w.heap.size:=⟨_,rfl⟩;rw [iy,← pI] at h1;rw [iy] at ui;rw [← bG] at h1;have HC:Hid (∀ W,zT base A w0 W ob db tb fb fg F d r T wv root tx (aC r) XB row→W.cell? ⟨ob,3,none⟩=some (.pointer (some ⟨tb,0,none⟩))∧W.cell? ⟨ob,4,none⟩=some wv∧W.cell? ⟨XB,0,none⟩=some (.int .i64 4)∧W.cell? ⟨XB,2,none⟩=some (.int .i64 n)∧W.cell? ⟨XB,3,none⟩=some (.string key)∧W.cell? ⟨XB,5,none⟩=some (.string iV)):=fun W hb=>by
  have hx:=hb.bx;rw [bG] at hx;refine ⟨hb.os.c.1,hb.os.c.2.1,?_,?_,?_,?_⟩
  ·have:=hx.cell 0 (by simp)
   simpa using this
  ·have:=hx.cell 2 (by simp)
   simpa using this
  ·have:=hx.cell 3 (by simp)
   simpa using this
  ·have:=hx.cell 5 (by simp)
   simpa using this
 obtain ⟨lim,iH⟩ : ∃ lim:Nat,n=(lim:Int):=⟨n.toNat,by omega⟩
 obtain ⟨R,hR⟩ : ∃ R,R=((aC r).filter (jt key iV)).take lim:=⟨_,rfl⟩;have uL:=ky h.ts.ok;have sX:Hid (∀ W,Below W1.heap.size W1 W→Calls prog 59 #[.pointer (some ⟨tb,0,none⟩),.string key,.string iV,.int .i64 n] W fun e w'=>(∃ a m c,e = .returned (.tuple #[.slice a m c,.nilIface])∧gK w' (.slice a m c) R)∧zT base A w0 w' ob db tb fb fg F d r T wv root tx (aC r) XB row∧Fr F tb ob W1 w'):=fun W hW=>by
  have hb:=h1.below hW;rw [iH];refine (xj (lim:=lim) hb.os.ts (by omega) hb.os.nd (by omega) (by omega)).mono ?_
  rintro e w' ⟨⟨v,he,hp⟩,hv,hm⟩;obtain ⟨a,m,c,jS⟩:=gR hp.1;subst jS;exact ⟨⟨a,m,c,he,by rw [hR];exact hp.1.at⟩,hb.fr (hb.os.mv hv hm) (uP hm),(cC hW).trans (uP hm)⟩
 clear uL;obtain ⟨q3,q4,x0,x2,x3,x5⟩:=HC.out W1 h1;obtain ⟨wa,wn,wc,MJ⟩:=gR h.want;have HN:=ab hn;have Cd:Hid (wn=(aC r).length):=by
  obtain ⟨a,c,e2⟩:=h.want.form;rw [MJ] at e2;cases e2;rfl
 subst MJ;have rn:=ab iy;have QV:=ab pI;have XK:=ab hR;have WS:=ab iH;clear h h1 hn bG iy hR iH;go_enter func61,ntmps61;go_wp2_with fail;rw [rn.out,← pI];clear pI;go_wp2_with fail;go_region_held3 (fun w'=>w'.cell? ⟨ob,3,none⟩=some (.pointer (some ⟨tb,0,none⟩))∧w'.cell? ⟨XB,2,none⟩=some (.int .i64 n)∧w'.cell? ⟨XB,3,none⟩=some (.string key)∧w'.cell? ⟨XB,5,none⟩=some (.string iV)) (go_keep)
  (first | (go_at_call 59;refine (sX.out _ ?_).mono ?_;(first | exact (Below.refl _ _).drew | exact aB (Below.refl _ _) _ | exact Below.refl _ _);rintro e w2 ⟨⟨ra,rm,rc,rfl,vr⟩,aO,hf2⟩;have bJ:=ab aO;have MA:=ab hf2;have Mw:=ab vr;have n0:=HC.out w2 aO;obtain ⟨n3,n4,m0,m2,m3,m5⟩:=n0;clear aO hf2 vr))
 all_goals
  clear q3 q4 x0 x2 x3 x5 sX n3;have Er:¬ n<0:=by omega
  go_wp2;go_loopw [13,14] (fun v iv wr=>∃ (k:Nat) (L:List Pr) (va:Option Addr) (vn vc:Nat),k≤wn∧v = .slice va vn vc∧iv = .int .i64 (k:Int)∧Hid (L=(((aC r).take k).filter (jt key iV)).take lim∧iC wr w2.heap.size (.slice va vn vc) L∧Below w2.heap.size w2 wr)) (fun _ iv _=>wn - (intOf iv).toNat)
  case atStart=>exact ⟨0,[],none,0,0,aD _,rfl,rfl,by simp,iC.nil _ _,Below.refl _ _⟩
  case round =>
   obtain ⟨k,L1,va,vn,vc,hk,rfl,rfl,hh⟩:=hrel;obtain ⟨Cw,aE,kt⟩:=hh.out;clear hh;have k0:(0:Int)≤(k:Int):=by omega
   have FK:=bJ.out.below kt;obtain ⟨u3,u4,v0,v2,v3,v5⟩:=HC.out wr FK;have VJ:L1.length=vn:=by
    obtain ⟨a,c,e⟩:=aE.form;cases e;rfl
   have HVN:=ab VJ;by_cases bP:k<wn
   ·have dS:(k:Int)<(wn:Int):=by omega
    have dm:k<(aC r).length:=by have:=Cd.out;omega
    have ag8:(wn:Int)≤1000000:=by have:=Cd.out;have:=HN.out;omega
    have aha:(vn:Int)≤1000000:=by
     have h1:L1.length≤(aC r).length:=by
      rw [Cw,ag];have:=List.length_filter_le (jt key iV) ((aC r).take k);rw [ag] at this;omega
     have:=HN.out;omega
    obtain ⟨_,_,Jd,_,_,aX⟩:=FK.os.want.at;simp only [Value.slice.injEq] at Jd;obtain ⟨rfl,-,rfl⟩:=Jd;obtain ⟨g,o,yb,c1,c2⟩:=aX k dm;subst yb;obtain ⟨p,hp⟩ : ∃ p,p=(aC r)[k]:=⟨_,rfl⟩;rw [← hp] at c1 c2;have HP:=ab hp;clear hp;have MQ:=ai wr (.cells #[.string p.1,.string p.2] 52);have xp:=B.ax.new wr #[.string p.1,.string p.2] 52;obtain ⟨_,_,_,t2,t3,t5⟩:=HC.out _ (FK.below MQ);have p0:=xp.c0;have p1:=xp.c1;obtain ⟨L2,Hd⟩ : ∃ L2,L2=(((aC r).take (k+1)).filter (jt key iV)).take lim:=⟨_,rfl⟩;have U1:Hid (L2=(((aC r).take (k+1)).filter (jt key iV)).take lim∧iC (wr.alloc (.cells #[.string p.1,.string p.2] 52)) w2.heap.size (.slice va vn vc) L1∧Below w2.heap.size w2 (wr.alloc (.cells #[.string p.1,.string p.2] 52))):=⟨Hd,aE.below MQ,Below.next kt MQ⟩;obtain ⟨a2,Ww,w4,bg,El,eO,_⟩:=Dk w2.heap.size (.slice va vn vc) L1 p 52 (wr.alloc (.cells #[.string p.1,.string p.2] 52)) w2 w2.heap.size vn VJ (aE.below MQ) (by omega) (by have:=kt.size;simp;omega) (aj _) (Below.next kt MQ)
    rw [show (wr.alloc (.cells #[.string p.1,.string p.2] 52)).heap.size=wr.heap.size+1 by simp] at bg
    have sG:=ab bg;have MW:Hid (L2=(((aC r).take (k+1)).filter (jt key iV)).take lim∧iC w4 w2.heap.size (.slice a2 (vn+1) Ww) (L1++[p])∧Below w2.heap.size w2 w4):=⟨Hd,El,eO⟩;clear aE kt FK aX MQ xp bg El eO;by_cases hm:vn<lim
    ·have hmI:(vn:Int)<n:=by have:=WS.out;omega
     cases hb:cX p.1 key with
     | true =>
      have aO:Op.bytesLess p.1.toList key.toList=true:=hb;have lR:L2=L1:=by rw [Hd,ll dm,if_neg (fun e=>by rw [← HP.out] at e;unfold jt at e;rw [hb] at e;simp at e),← Cw]
      rw [lR] at U1;clear Hd lR Cw VJ;go_wp2;go_roundw
      case rel=>exact ⟨k+1,L1,va,vn,vc,by omega,rfl,by go_num,U1.out⟩
      case measure=>simp [intOf];omega
     | false =>
      have aO:Op.bytesLess p.1.toList key.toList=false:=hb;by_cases hto:iV=⟨#[]⟩
      ·have hte:=Iv hto;have lR:L2=L1++[p]:=by rw [Hd,ll dm,if_pos ⟨ti.2 (by rw [← Cw];have:=HVN.out;omega),by rw [← HP.out];unfold jt;rw [hb,hto];rfl⟩,← Cw,← HP.out]
       rw [lR] at MW;clear Hd lR U1 Cw hto VJ;go_wp2_with (first | (at_builtin;refine lh 63 rfl (.tmp 159) (.tmp 161) rfl rfl _ _ rfl rfl _ _ sG.out ?_))
       clear sG;go_roundw
       case rel=>exact ⟨k+1,L1++[p],a2,vn+1,Ww,by omega,rfl,by go_num,MW.out⟩
       case measure=>simp [intOf];omega
      ·obtain ⟨e0,e1⟩:=CN hto;cases bF:cX p.1 iV with
       | true =>
        have eO:Op.bytesLess p.1.toList iV.toList=true:=bF;have lR:L2=L1++[p]:=by rw [Hd,ll dm,if_pos ⟨ti.2 (by rw [← Cw];have:=HVN.out;omega),by rw [← HP.out];unfold jt;rw [hb,bF];simp⟩,← Cw,← HP.out]
        rw [lR] at MW;clear Hd lR U1 Cw hto VJ;go_wp2_with (first | (at_builtin;refine lh 63 rfl (.tmp 159) (.tmp 161) rfl rfl _ _ rfl rfl _ _ sG.out ?_))
        clear sG;go_roundw
        case rel=>exact ⟨k+1,L1++[p],a2,vn+1,Ww,by omega,rfl,by go_num,MW.out⟩
        case measure=>simp [intOf];omega
       | false =>
        have eO:Op.bytesLess p.1.toList iV.toList=false:=bF;have lR:L2=L1:=by rw [Hd,ll dm,if_neg (fun e=>by rw [← HP.out] at e;unfold jt at e;rw [hb,bF] at e;simp [hto] at e),← Cw]
        rw [lR] at U1;clear Hd lR Cw VJ;go_wp2;go_roundw
        case rel=>exact ⟨k+1,L1,va,vn,vc,by omega,rfl,by go_num,U1.out⟩
        case measure=>simp [intOf];omega
    ·have hmI:¬ (vn:Int)<n:=by have:=WS.out;omega
     have lR:L2=L1:=by rw [Hd,ll dm,if_neg (fun e=>by have:=ti.1 e.1;rw [← Cw] at this;have:=HVN.out;omega),← Cw]
     rw [lR] at U1;clear Hd lR Cw VJ;go_wp2;go_roundw
     case rel=>exact ⟨k+1,L1,va,vn,vc,by omega,rfl,by go_num,U1.out⟩
     case measure=>simp [intOf];omega
   ·have dS:¬ (k:Int)<(wn:Int):=by omega
    have MT:L1=R:=by
     have ht:(aC r).take k=aC r:=aq (by have:=Cd.out;omega)
     rw [Cw,XK.out,ht]
    rw [MT] at aE;have HSA:=ab (wO (.slice ra rm rc) (.slice va vn vc) R wr (by
     have h1:R.length≤(aC r).length:=by
      rw [XK.out,ag];have:=List.length_filter_le (jt key iV) (aC r);omega
     have:=HN.out;omega) (Mw.out.below kt) aE.at)
    have bM:Hid (∀ W,Below wr.heap.size wr W→Os base A w0 W ob db tb fb fg F d r T (.slice wa wn wc) root tx (aC r)∧Fr F tb ob w W):=fun W hW=>⟨(FK.below hW).os,ui.out.trans (MA.out.trans ((cC kt).trans (cC hW)))⟩
    clear aE kt FK MT Cw v0 v2 v3 v5 u3 m0 m2 m3 m5 n4;go_wp2_with fail;refine HSA.out.mono ?_
    rintro e w5 ⟨rfl,mB⟩;have XM:=ab (bM.out w5 mB);clear HSA mB u4;go_wp2;go_ret;exact ⟨rfl,XM.out⟩
end
end T
end Go.Proofs.YtihmgigfkmofnaaGreatDoor
