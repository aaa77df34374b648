import Derived.Test.YtihmgigfkmofnaaGreatDoorG36
set_option maxHeartbeats 8000000
set_option maxRecDepth 100000
open Go.Proofs.Tryz
namespace Go.Proofs.YtihmgigfkmofnaaGreatDoor
namespace T
open Go.RowKit
theorem KP(a:Option Addr)(m c:Nat)(l:List W.Lk)(q:W.Lk)(n:SN)(pv lv cv:Value)(w:World)(hm:m=l.length)(lq:m≤100000)(hr:W.di w (.slice a (m+1) c) (l++[q]))(hs:dH w q.1 n pv lv cv)(dE:n.ps≠[]):Calls prog 53 #[.slice a (m+1) c,.nilIface] w fun e w'=>e = .returned (.tuple #[.agg #[.string (il n.ps).1,.string (il n.ps).2],.bool true,.nilIface])∧Below w.heap.size w w':=by
 have q0:=ai w (.cells #[.string ⟨#[]⟩,.string ⟨#[]⟩] 52);have x0:=B.au.new w #[.string ⟨#[]⟩,.string ⟨#[]⟩] 52;have HX:=ab x0;have z0:=x0.c0;have z1:=x0.c1;have y0:=x0.free 0;have y1:=x0.free 1;have uY:=ab q0;have vH:=ab (ja a m c l q n pv lv cv _ hm lq (by
  obtain ⟨a',cap,e,hle,hn,hc⟩:=hr;exact ⟨a',cap,e,hle,hn,fun j hj=>by
   obtain ⟨g,o,ha,h1,h2⟩:=hc j hj;exact ⟨g,o,ha,(q0.cell (p:=⟨g,o+j*2,none⟩) (World.block_lt_of_cell? w _ h1)).trans h1,(q0.cell (p:=⟨g,o+j*2+1,none⟩) (World.block_lt_of_cell? w _ h2)).trans h2⟩⟩) (hs.below q0))
 have Hu:=ab (hs.iy.below q0);have HF:Hid (n.ps.length≤4000):=hs.fine.2.1;obtain ⟨xa,xc,Bo⟩:=hs.iy.form;subst Bo;obtain ⟨M,hM⟩ : ∃ M,M=m+1:=⟨_,rfl⟩;rw [← hM] at vH ⊢;clear q0 x0 hr hs hm lq hM;obtain ⟨N,hN⟩ : ∃ N,N=n.ps.length:=⟨_,rfl⟩;have HN:=ab hN;rw [← hN] at vH Hu HF;clear hN;have h0:¬ N=0:=fun e=>dE (List.length_eq_zero_iff.1 (by rw [← HN.out];exact e))
 have bN:N - 1<n.ps.length:=by have:=HN.out;omega
 have B7:il n.ps=n.ps[N - 1]:=oY (by have:=HN.out;omega)
 obtain ⟨_,_,kL,_,_,bh⟩:=Hu.out;simp only [Value.slice.injEq] at kL;obtain ⟨rfl,-,rfl⟩:=kL;obtain ⟨g,o,rfl,c1,c2⟩:=bh (N - 1) bN;rw [← B7] at c1 c2;generalize (il n.ps).1=s1 at *;generalize (il n.ps).2=s2 at *;obtain ⟨j,rfl⟩ : ∃ j,N=j+1:=⟨N - 1,by omega⟩
 rw [Nat.add_sub_cancel] at c1 c2;have Q8:(0:Int)≤(j:Int):=by omega
 have O5:(j:Int)<(j:Int)+1:=by omega
 have Xq:(j:Int)≤4000:=by have:=HF.out;omega
 have hq3:(((j+1:Nat):Int) == 0)=false:=by simp;omega
 clear bh bN h0 B7 dE;go_enter func53,ntmps53;go_wp2_with fail;refine vH.out.mono ?_
 rintro e w1 ⟨rfl,rfl⟩;go_wp2_with fail
 (try simp only [Exit.inBlock,Exit.then])
 exact bodyPost_ret (fc rfl _ _ w.heap.size 52 _ (0,0) _ rfl (B.au.new w #[.string s1,.string s2] 52) underlying52 rfl (by kernel_rfl)) rfl ⟨rfl,ai w _⟩
def Jt(r:ch)(e:Ending)(w':World):Prop :=
 (r=none∧e = .returned (.tuple #[.slice none 0 0,.nilIface])) ∨
 ∃ (m:Nat) (a:Option Addr) (c:Nat) (l:List W.Lk) (q:W.Lk) (n:SN) (pv lv cv:Value),e = .returned (.tuple #[.slice a (m+1) c,.nilIface])∧m=l.length∧m≤100000∧W.di w' (.slice a (m+1) c) (l++[q])∧dH w' q.1 n pv lv cv∧n.ps≠[]∧∃ Y,aB r=Y++n.ps
theorem Jt.of{d:S.V.bq}{A:Nat→Addr}{x:XT}{bs:Nat}{e:Ending}{w':World}(cN:eP (some x))(h:nC (cX d) (fun n q=>q=n.lk.length) A [] x bs e w'):Jt (some x) e w':=by
 rcases h with ⟨hE,_⟩ | ⟨ss,s,a,c,he,ho,hw,⟨⟨pv,lv,cv,hs⟩,hn⟩,h0,rG,hl⟩
 ·exact (hE:False).elim
 ·simp only [List.length_nil,Nat.zero_add,List.nil_append] at he ho hl;obtain ⟨hn,hg⟩:=hn;obtain ⟨b,n,i,⟨hh,t⟩⟩:=s;cases hh with
  | zero =>
   obtain ⟨⟨Y,hY⟩,dE⟩:=Kc hw cN;have j6:n.ps=t.2:=hn.2;exact .inr ⟨ss.length,a,c,ss.map gz.lk,(b,(i:Int)),n,pv,lv,cv,he,by rw [az],by omega,ho.1.at,hs,by rw [j6];exact dE,Y,by rw [j6];exact hY⟩
  | succ h=>exact absurd (List.length_eq_zero_iff.1 h0) hn.2.1
section
variable {base:Nat} {A:Nat→Addr} {db:Nat} {F:Nat→Prop} {d:S.V.bq} {W0:World} {r:ch}
theorem yE{w w1:World}{tb:Nat}(hc:Ts base A db F d W0 w tb r)(hn:(aB r).length≤4611686018427387904)(hb:Below w.heap.size w w1):Calls prog 54 #[.pointer (some ⟨tb,0,none⟩),.func (.func 55) #[] #[]] w1 fun e w'=>Jt r e w'∧Dv base A db F d w'∧Mv db F w w':=by
 obtain ⟨rv,ht,hr⟩:=hc.tr;have hv:=hc.dv.below hb;have hm:Mv db F w w1:=Mv.of hb;rcases hr with ⟨rfl,rfl⟩ | ⟨p,h,t,rfl,rfl,hk⟩
 ·refine (vQ _ ⟨_,_,_,rfl⟩ tb _ w1 (ht.below hb)).mono fun e w' ⟨he,hw⟩=>?_
  subst hw;exact ⟨.inl ⟨rfl,he⟩,hv,hm⟩
 ·refine (AT (cX d) (fun n q=>q=n.lk.length) (fun _=>True) (fun _ _ _ h=>h) p ⟨h,t⟩ tb 55 #[] Tryz.call55 w w1 ⟨hk.cC (cP.of hb),iL hc.ok⟩ (ht.below hb) hv hm hc.dv trivial (.inr (kT hc.ok hn)) (fun W b n pv lv cv y _ hs hn xD=>?_)).mono fun e w' ⟨h1,h2,h3⟩=>⟨Jt.of hc.ok h1,h2,h3⟩
  have hk:=((cX d).fit hn).1.resolve_left xD;exact (zA n lv W hs.a8).mono fun e w' ⟨he,hb⟩=>⟨n.lk.length,he,rfl,by omega,hb⟩
theorem DO{a:Option Addr}{n c:Nat}{v:Value}{w:World}{l:List Pr}(h:(.returned (.tuple #[.slice a n c,v])=Ending.returned (.tuple #[.slice none 0 0,.nilIface])∧l=[])∨∃ (m:Nat) (a':Option Addr) (c':Nat) (l':List W.Lk) (q:W.Lk) (sn:SN) (pv lv cv:Value),Ending.returned (.tuple #[.slice a n c,v]) = .returned (.tuple #[.slice a' (m+1) c',.nilIface])∧m=l'.length∧m≤100000∧W.di w (.slice a' (m+1) c') (l'++[q])∧dH w q.1 sn pv lv cv∧sn.ps≠[]∧∃ Y,l=Y++sn.ps):Calls prog 53 #[.slice a n c,v] w fun e w'=>e = .returned (.tuple #[.agg #[.string (il l).1,.string (il l).2],.bool (!l.isEmpty),.nilIface])∧Below w.heap.size w w':=by
 rcases h with ⟨he,rfl⟩ | ⟨m,a',c',l',q,sn,pv,lv,cv,he,hm,lq,hr,hs,dE,Y,rfl⟩
 ·cases he;exact tV _ (.inl rfl) w
 ·cases he;rw [Ag dE,show (Y++sn.ps).isEmpty=false by cases h:Y++sn.ps with | nil=>exact absurd (List.append_eq_nil_iff.1 h).2 dE | cons _ _=>rfl]
  exact KP a m c l' q sn pv lv cv w hm lq hr hs dE
end
def TJ(d:S.V.bq)(key:ByteArray)(r:ch)(bs:Nat)(e:Ending)(w':World):Prop :=
 (r=none∧e = .returned (.tuple #[.slice none 0 0,.nilIface])) ∨
 ∃ (x:XT) (ss:List (gz XT)) (s:gz XT) (a:Option Addr) (c:Nat) (pv lv cv:Value) (t0:Nd 0),r=some x∧e = .returned (.tuple #[.slice a (ss.length+1) c,.nilIface])∧tv w' bs (.slice a (ss.length+1) c) (ss.map gz.lk++[s.lk])∧Way (cX d) (fun n q=>B.fE n.lk key q) w' x ss s.x∧s.x=⟨0,t0⟩∧s.at'=0∧dH w' s.b s.n pv lv cv∧s.n.ps=t0.2∧fR t0.2≤4072∧ss.length≤63
theorem TJ.of{A:Nat→Addr}{d:S.V.bq}{key:ByteArray}{x:XT}{bs:Nat}{e:Ending}{w':World}(h:nC (cX d) (fun n q=>B.fE n.lk key q) A [] x bs e w'):TJ d key (some x) bs e w':=by
 rcases h with ⟨hE,_⟩ | ⟨ss,s,a,c,he,ho,hw,⟨⟨pv,lv,cv,hs⟩,hn⟩,h0,rG,hl⟩
 ·exact (hE:False).elim
 ·simp only [List.length_nil,Nat.zero_add,List.nil_append] at he ho hl;obtain ⟨hn,hg⟩:=hn;obtain ⟨b,n,i,⟨hh,t⟩⟩:=s;cases hh with
  | zero=>exact .inr ⟨x,ss,⟨b,n,i,⟨0,t⟩⟩,a,c,pv,lv,cv,t,rfl,he,ho,hw,rfl,rG,hs,hn.2,hg.2,hl⟩
  | succ h=>exact absurd (List.length_eq_zero_iff.1 h0) hn.2.1
section
variable {base:Nat} {A:Nat→Addr} {db:Nat} {F:Nat→Prop} {d:S.V.bq} {W0:World} {r:ch}
theorem RJ{w w1:World}{tb:Nat}(key:ByteArray)(hc:Ts base A db F d W0 w tb r)(hn:(aB r).length≤4611686018427387904)(hb:Below w.heap.size w w1):Calls prog 46 #[.pointer (some ⟨tb,0,none⟩),.string key] w1 fun e w'=>TJ d key r w.heap.size e w'∧Dv base A db F d w'∧Mv db F w w':=by
 obtain ⟨rv,ht,hr⟩:=hc.tr;have hv:=hc.dv.below hb;have hm:Mv db F w w1:=Mv.of hb;rcases hr with ⟨rfl,rfl⟩ | ⟨p,h,t,rfl,rfl,hk⟩
 ·refine (vN tb _ key w1 (ht.below hb)).mono fun e w' ⟨he,hb⟩=>⟨.inl ⟨rfl,he⟩,hv.below hb,hm.trans (Mv.of hb)⟩
 ·refine (vM (cX d) p ⟨h,t⟩ tb key w w1 ⟨hk.cC (cP.of hb),iL hc.ok⟩ (ht.below hb) hv hm hc.dv (.inr (kT hc.ok hn))).mono fun e w' ⟨h1,h2,h3⟩=>⟨TJ.of h1,h2,h3⟩
theorem EL{w w1:World}{b:Nat}(hb:base≤w.heap.size)(eU:w.heap.size≤b)(hF:∀ k,F k→k<w.heap.size)(hm:Mv db F w w1)(hv:Dv base A db F d w1)(x y:Value):Dv base A db F d ((w1.setCell ⟨b,0,none⟩ x).setCell ⟨b,1,none⟩ y)∧Mv db F w ((w1.setCell ⟨b,0,none⟩ x).setCell ⟨b,1,none⟩ y):=by
 have hf:¬ F b:=fun hf=>by
  have:=hF _ hf;omega
 have hs:=(bJ.set b 0 w1 x).trans (bJ.set b 1 _ y);exact ⟨(hv.tree (by omega) hf 0 x).tree (by omega) hf 1 y,⟨⟨hs.os.trans hm.step.os,hs.tape.trans hm.step.tape,hs.output.trans hm.step.output,ar hm.size hs.size,fun k hk hn=>(hs.block k (aq hk hm.size) (by omega)).trans (hm.step.block k hk hn),fun _ h=>.inl h⟩,⟨hs.os.trans hm.step.os,hs.tape.trans hm.step.tape,hs.output.trans hm.step.output,ar hm.size hs.size,fun k hk hn=>(hs.block k (aq hk hm.size) (by omega)).trans (hm.one.block k hk hn),fun _ h=>.inl h⟩⟩⟩
theorem Ts.boxed{w w1:World}{tb:Nat}(h:Ts base A db F d W0 w tb r)(hm:Mv db F w w1)(hv:Dv base A db F d w1)(x y:Value):Dv base A db F d ((w1.setCell ⟨w.heap.size,0,none⟩ x).setCell ⟨w.heap.size,1,none⟩ y)∧Mv db F w ((w1.setCell ⟨w.heap.size,0,none⟩ x).setCell ⟨w.heap.size,1,none⟩ y):=by
 obtain ⟨d',_,hd⟩:=h.dv.dev;exact EL h.dv.env.errs.size (aj _) (fun k hk=>hd.lt _ hk) hm hv x y
theorem EN{w:World}{tb:Nat}(key:ByteArray)(hc:Ts base A db F d W0 w tb r)(hn:(aB r).length≤4611686018427387904):Calls prog 18 #[.pointer (some ⟨tb,0,none⟩),.string key] w fun e w'=>e = .returned (.tuple #[.agg #[.string (il (rS (aB r) key)).1,.string (il (rS (aB r) key)).2],.bool (!(rS (aB r) key).isEmpty),.nilIface])∧Dv base A db F d w'∧Mv db F w w':=by
 have q0:=ai w (.cells #[.string ⟨#[]⟩,.string ⟨#[]⟩] 52);have x0:=B.au.new w #[.string ⟨#[]⟩,.string ⟨#[]⟩] 52;have HX:Hid (∀ w1,Mv db F (w.alloc (.cells #[.string ⟨#[]⟩,.string ⟨#[]⟩] 52)) w1→B.au w1 w.heap.size #[.string ⟨#[]⟩,.string ⟨#[]⟩] 52):=fun w1 hm=>Vp hm x0 (by have:=hc.dv.Ha;omega)
 have HQ:=ab q0;have HC:=ab hc;have HCA:=ab (hc.below q0);have Vf:=ab (hc.dv.below q0);have HN:=ab hn;have pw:=ab hc.ok;clear hc x0 q0 hn;obtain ⟨L,hL⟩ : ∃ L,L=rS (aB r) key:=⟨_,rfl⟩;rw [← hL];have lU:=ab hL;clear hL;obtain ⟨s1,kn⟩ : ∃ s1,s1=(il L).1:=⟨_,rfl⟩;obtain ⟨s2,jm⟩ : ∃ s2,s2=(il L).2:=⟨_,rfl⟩;obtain ⟨bb,BA⟩ : ∃ bb,bb=!L.isEmpty:=⟨_,rfl⟩;rw [← kn,← jm,← BA];have lT:=ab kn;have ll:=ab jm;have mJ:=ab BA;clear kn jm BA;by_cases hk:key=⟨#[]⟩
 ·subst hk;have qI:Hid (L=aB r):=by show _=_;rw [lU.out];unfold rS;rw [if_pos rfl]
  have HW:=ab (yE HCA.out HN.out (Below.refl _ _));go_enter func18,ntmps18;go_wp2_with fail;refine HW.out.mono ?_
  rintro e w1 ⟨GC,fI,fK⟩;obtain ⟨a,n,c,he⟩ : ∃ a n c,e = .returned (.tuple #[.slice a n c,.nilIface]):=by
   rcases GC with ⟨_,he⟩ | ⟨m,a,c,_,_,_,_,_,_,he,_⟩
   ·exact ⟨_,_,_,he⟩
   ·exact ⟨_,_,_,he⟩
  subst he;have hl:=DO (l:=L) (w:=w1) (by
   rcases GC with ⟨h1,h2⟩ | ⟨m,a',c',l',q,sn,pv,lv,cv,h1,h2,h3,h4,h5,h6,Y,h7⟩
   ·exact .inl ⟨h2,by rw [qI.out,h1];rfl⟩
   ·exact .inr ⟨m,a',c',l',q,sn,pv,lv,cv,h1,h2,h3,h4,h5,h6,Y,by rw [qI.out];exact h7⟩)
  rw [← lT.out,← ll.out,← mJ.out] at hl;have HL:=ab hl;clear hl;have tE:=ab fI;have QR:=ab fK;clear GC fI fK HW;go_wp2_with fail;refine HL.out.mono ?_
  rintro e w2 ⟨rfl,aU⟩;have yp:=ab (QR.out.trans (Mv.of aU));have tD:=ab (tE.out.below aU);have nB:=ab (HX.out w2 yp.out);have z0:=nB.out.c0;have z1:=nB.out.c1;have y0:=nB.out.free 0;have y1:=nB.out.free 1;clear aU HL QR tE;go_wp2_with fail
  (try simp only [Exit.inBlock,Exit.then])
  exact bodyPost_ret (fc rfl _ _ w.heap.size 52 _ (0,0) _ rfl (nB.out.two _ _) underlying52 rfl (by kernel_rfl)) rfl ⟨rfl,HC.out.boxed ((Mv.of HQ.out).trans yp.out) tD.out _ _⟩
 ·have nM:key.toList.isEmpty=false:=by
   cases h:key.toList with
   | nil=>exact absurd (hO (by rw [← ByteArray.toList_eq,h])) hk
   | cons _ _=>rfl
  have HW:=ab (RJ key HCA.out HN.out (Below.refl _ _));have HK:=ab hk;clear hk;go_enter func18,ntmps18;go_wp2_with fail;refine HW.out.mono ?_
  rintro e w1 ⟨GC,fI,fK⟩;have tE:=ab fI;have QR:=ab fK;have zk:=ab (HX.out w1 fK);rcases GC with ⟨Uu,rfl⟩ | ⟨x,ss,s,a,c,pv,lv,cv,t0,VS,rfl,ho,jf,VO,rG,hs,j6,b7,hl⟩
  ·have Wm:L=[]:=by rw [lU.out,Uu];unfold rS;rw [if_neg HK.out];rfl
   have HE1:Hid (s1=⟨#[]⟩):=by show _=_;rw [lT.out,Wm];rfl
   have Ve:Hid (s2=⟨#[]⟩):=by show _=_;rw [ll.out,Wm];rfl
   have HE3:Hid (bb=false):=by show _=_;rw [mJ.out,Wm];rfl
   clear Wm;clear fI fK HW Uu;go_wp2_with fail;refine (gV w1).mono ?_
   rintro e w1' ⟨rfl,rfl⟩;go_wp2_with fail;refine (iQ (.slice none 0 0) [] key w1 (by simp) (gG.nil _)).mono ?_
   rintro e w2 ⟨rfl,aU⟩;rw [show bf [] key=false from rfl,show aN [] key=0 from rfl]
   have yp:=ab (QR.out.trans (Mv.of aU));have tD:=ab (tE.out.below aU);clear aU;go_wp2_with fail;refine (yF tb w2).mono ?_
   rintro e w2' ⟨rfl,rfl⟩;go_wp2_with fail;refine (tV .nilIface (.inl rfl) w2).mono ?_
   rintro e w3 ⟨rfl,bT⟩;have Ft:=ab (yp.out.trans (Mv.of bT));have EZ:=ab (tD.out.below bT);have yA:=ab (HX.out w3 Ft.out);have z0:=yA.out.c0;have z1:=yA.out.c1;have y0:=yA.out.free 0;have y1:=yA.out.free 1;clear bT;go_wp2_with fail
   (try simp only [Exit.inBlock,Exit.then])
   exact bodyPost_ret (fc rfl _ _ w.heap.size 52 _ (0,0) _ rfl (yA.out.two _ _) underlying52 rfl (by kernel_rfl)) rfl ⟨by rw [HE1.out,Ve.out,HE3.out];rfl,HC.out.boxed ((Mv.of HQ.out).trans Ft.out) EZ.out _ _⟩
  ·subst VS;have Hs:Hid (∃ rv,B.au w1 tb #[.pointer (some ⟨db,0,none⟩),rv] 100):=by
    obtain ⟨rv,h1,_⟩:=(HCA.out.mv fK fI).tr;exact ⟨rv,h1⟩
   obtain ⟨iH,hX,hZ⟩:=Co (lo:=none) (hi:=none) (VO▸jf) pw.out.1;have Wm:L=fO ss++(s.n.ps).take (aN s.n.ps key):=by
    rw [lU.out];show rS (flat x.1 x.2) key=_
    rw [iH,Qt HK.out hX hZ,j6]
   have qI:=ab Wm;have HO:=ab ho;have HWY:=ab jf;have HL:=ab hl;have yD:=ab rG;have gD:Hid (fR s.n.ps≤4072):=by show _≤_;rw [j6];exact b7
   have aex:Hid (x.1+1≤64):=kT (h:=x.1) (t:=x.2) pw.out HN.out;have vH:=ab (ja a ss.length c (ss.map gz.lk) s.lk s.n pv lv cv w1 (by rw [az]) (by omega) ho.1.at hs)
   have Hu:=ab hs.iy;obtain ⟨m,B5⟩ : ∃ m,m=ss.length:=⟨_,rfl⟩;have Fq:=ab B5;rw [← B5] at vH HO ⊢;obtain ⟨xa,xc,Bo⟩:=hs.iy.form;subst Bo;clear ho jf hs b7 rG hl fI fK HW B5 iH hX hZ j6 VO Wm;go_wp2_with fail;refine vH.out.mono ?_
   rintro e w1' ⟨rfl,rfl⟩;go_wp2_with fail;refine (iQ _ s.n.ps key w1 (by have:=iw s.n.ps;have:=gD.out;omega) Hu.out).mono ?_
   rintro e w2 ⟨rfl,aU⟩;have yp:=ab (QR.out.trans (Mv.of aU));have tD:=ab (tE.out.below aU);have nB:=ab (HX.out w2 yp.out);have aei:=ab (Hu.out.below aU);have jP:=ab (HO.out.below aU);have ad7:=ab (HWY.out.cC (cP.of aU));have AM:Hid (∃ rv,B.au w2 tb #[.pointer (some ⟨db,0,none⟩),rv] 100):=by
    obtain ⟨rv,h1⟩:=Hs.out;exact ⟨rv,h1.below aU⟩
   have iH:=cD s.n.ps key;clear aU;generalize aN s.n.ps key=fq at *;by_cases hp:0<fq
   ·obtain ⟨j,rfl⟩ : ∃ j,fq=j+1:=⟨fq - 1,by omega⟩
    obtain ⟨_,_,kL,_,_,bh⟩:=aei.out;simp only [Value.slice.injEq] at kL;obtain ⟨rfl,-,rfl⟩:=kL;obtain ⟨g,o,rfl,c1,c2⟩:=bh j (by omega)
    have dE:(s.n.ps).take (j+1)≠[]:=fun e=>by
     have:=congrArg List.length e;rw [ag,List.length_nil] at this;omega
    have B7:il L=s.n.ps[j]:=by
     rw [qI.out,Ag dE,oY (j:=j) (by rw [ag];omega),bK]
    have hem:(!L.isEmpty)=true:=by
     rw [qI.out];cases h:fO ss++(s.n.ps).take (j+1) with
     | nil=>exact absurd (List.append_eq_nil_iff.1 h).2 dE
     | cons _ _=>rfl
    rw [← B7,← lT.out] at c1;rw [← B7,← ll.out] at c2;have HE3:Hid (bb=true):=by show _=_;rw [mJ.out,hem]
    have K7:(0:Int)≤(j:Int):=by omega
    have hj1:(j:Int)<(s.n.ps.length:Int):=by omega
    have ZA:(s.n.ps.length:Int)≤4072:=by have:=iw s.n.ps;have:=gD.out;omega
    have hj3:(0:Int)<((j+1:Nat):Int):=by omega
    have z0:=nB.out.c0;have z1:=nB.out.c1;have y0:=nB.out.free 0;have y1:=nB.out.free 1;clear bh iH hp dE B7 hem;go_wp2_with fail
    (try simp only [Exit.inBlock,Exit.then])
    exact bodyPost_ret (fc rfl _ _ w.heap.size 52 _ (0,0) _ rfl (nB.out.two _ _) underlying52 rfl (by kernel_rfl)) rfl ⟨by rw [HE3.out];rfl,HC.out.boxed ((Mv.of HQ.out).trans yp.out) tD.out _ _⟩
   ·have hz:fq=0:=by omega
    subst hz;have aey:Hid (L=fO ss):=by show _=_;rw [qI.out];simp
    obtain ⟨rv2,sX⟩:=AM.out;have GC:=vP (rv:=rv2) a c ss s Vf.out yp.out tD.out sX (by rw [← Fq.out];exact jP.out.1.at) x ad7.out aex.out yD.out HL.out
    rw [← Fq.out] at GC;have HWA:=ab GC;clear GC iH hp sX;go_wp2_with fail;refine HWA.out.mono ?_
    rintro e w3 ⟨hah,yw,yx⟩;obtain ⟨a3,n3,c3,he⟩ : ∃ a n c,e = .returned (.tuple #[.slice a n c,.nilIface]):=by
     rcases hah with ⟨he,_⟩ | ⟨m,a,c,_,_,_,_,_,_,he,_⟩
     ·exact ⟨_,_,_,he⟩
     ·exact ⟨_,_,_,he⟩
    subst he;have B7:=DO (l:=L) (w:=w3) (by rw [aey.out];exact hah)
    rw [← lT.out,← ll.out,← mJ.out] at B7;have HLA:=ab B7;clear B7;have EZ:=ab yw;have Ft:=ab yx;clear hah yw yx HWA;go_wp2_with fail;refine HLA.out.mono ?_
    rintro e w4 ⟨rfl,gj⟩;have HM4:=ab (Ft.out.trans (Mv.of gj));have HV4:=ab (EZ.out.below gj);have vF:=ab (HX.out w4 HM4.out);have z0:=vF.out.c0;have z1:=vF.out.c1;have y0:=vF.out.free 0;have y1:=vF.out.free 1;clear gj HLA;go_wp2_with fail
    (try simp only [Exit.inBlock,Exit.then])
    exact bodyPost_ret (fc rfl _ _ w.heap.size 52 _ (0,0) _ rfl (vF.out.two _ _) underlying52 rfl (by kernel_rfl)) rfl ⟨rfl,HC.out.boxed ((Mv.of HQ.out).trans HM4.out) HV4.out _ _⟩
end
section
variable {base:Nat} {A:Nat→Addr} {w0:World} {ob db tb fb fg:Nat} {F:Nat→Prop} {d:S.V.bq} {r:ch} {T:Nat→Bool} {wv:Value} {root tx:Nat} {l:List Pr}
structure zr(base:Nat)(A:Nat→Addr)(w0 w:World)(ob db tb fb fg:Nat)(F:Nat→Prop)(d:S.V.bq)(r:ch)(T:Nat→Bool)(wv:Value)(root tx:Nat)(l:List Pr)(XB:Nat)(row:Array Value):Prop where
 os:Os base A w0 w ob db tb fb fg F d r T wv root tx l
 bx:B.au w XB row 44
 ne:¬ F XB∧XB≠tb∧XB≠ob
section
variable {XB:Nat} {row:Array Value}
theorem zr.fr{w w1:World}(h:zr base A w0 w ob db tb fb fg F d r T wv root tx l XB row)(ho:Os base A w0 w1 ob db tb fb fg F d r T wv root tx l)(hf:Fr db tb ob w w1):zr base A w0 w1 ob db tb fb fg F d r T wv root tx l XB row:=⟨ho,(hf.2 XB h.bx.lt (fun e=>h.ne.1 (e▸h.os.ts.dv.own)) h.ne.2.1 h.ne.2.2).trans h.bx,h.ne⟩
theorem zr.below{w w1:World}(h:zr base A w0 w ob db tb fb fg F d r T wv root tx l XB row)(hb:Below w.heap.size w w1):zr base A w0 w1 ob db tb fb fg F d r T wv root tx l XB row:=h.fr (h.os.below hb) (cV hb)
end
theorem Os.box{w:World}(h:Os base A w0 w ob db tb fb fg F d r T wv root tx l)(row:Array Value):zr base A w0 (w.alloc (.cells row 44)) ob db tb fb fg F d r T wv root tx l w.heap.size row:=by
 have hn:=h.new (aj w.heap.size);exact ⟨h.below (ai w _),B.au.new w row 44,hn.1,hn.2.1,hn.2.2.1⟩
theorem Cp{l:List Pr}{key:ByteArray}(h:bf l key=true):valOf l key=(l[aN l key]'(gw h)).2:=by unfold valOf;rw [dif_pos h]
theorem JK{l:List Pr}{key:ByteArray}(h:bf l key=false):valOf l key=⟨#[]⟩:=by unfold valOf;rw [dif_neg (by rw [h];decide)]
theorem AL{w:World}(at' n:Int)(key value eW:ByteArray)(h:Os base A w0 w ob db tb fb fg F d r T wv root tx (aB r))(hn:(aB r).length≤1000000)(cL:key.size≤140737488355328):Calls prog 61 #[.pointer (some ⟨ob,0,none⟩),.agg #[.int .i64 3,.int .i64 at',.int .i64 n,.string key,.string value,.string eW]] w fun e w'=>e = .returned (.bool true)∧Os base A w0 w' ob db tb fb fg F d r T wv root tx (aB r)∧Fr db tb ob w w':=by
 obtain ⟨row,bE⟩ : ∃ row:Array Value,row=#[.int .i64 3,.int .i64 at',.int .i64 n,.string key,.string value,.string eW]:=⟨_,rfl⟩;have h1:=h.box row;have tG:=ab (cV (db:=db) (tb:=tb) (ob:=ob) (ai w (.cells row 44)));rw [bE] at h1 tG;obtain ⟨W1,gF⟩ : ∃ W1,w.alloc (.cells #[.int .i64 3,.int .i64 at',.int .i64 n,.string key,.string value,.string eW] 44)=W1:=⟨_,rfl⟩;obtain ⟨XB,si⟩ : ∃ XB,XB=w.heap.size:=⟨_,rfl⟩;rw [gF,← si] at h1;rw [gF] at tG;rw [← bE] at h1;have HC:Hid (∀ W,zr base A w0 W ob db tb fb fg F d r T wv root tx (aB r) XB row→W.cell? ⟨ob,3,none⟩=some (.pointer (some ⟨tb,0,none⟩))∧W.cell? ⟨ob,4,none⟩=some wv∧W.cell? ⟨XB,0,none⟩=some (.int .i64 3)∧W.cell? ⟨XB,3,none⟩=some (.string key)):=fun W hb=>by
  have hx:=hb.bx;rw [bE] at hx;refine ⟨hb.os.c.1,hb.os.c.2.1,?_,?_⟩
  ·have:=hx.cell 0 (by simp)
   simpa using this
  ·have:=hx.cell 3 (by simp)
   simpa using this
 have zp:Hid (∀ W,Below W1.heap.size W1 W→Calls prog 17 #[.pointer (some ⟨tb,0,none⟩),.string key] W fun e w'=>e = .returned (if cO (key,⟨#[]⟩)=true then .tuple #[.string (valOf (aB r) key),.bool (bf (aB r) key),.nilIface] else .tuple #[.string ⟨#[]⟩,.bool false,.iface 360 (.pointer (some (A 0)))])∧zr base A w0 w' ob db tb fb fg F d r T wv root tx (aB r) XB row∧Fr db tb ob W1 w'):=fun W hW=>by
  have hb:=h1.below hW;refine (Ln key hb.os.ts (by omega) cL).mono fun e w' ⟨he,ht⟩=>⟨he,hb.fr (hb.os.tree ht (List.Sublist.refl _)) (o9 ht.st),(cV hW).trans (o9 ht.st)⟩
 have nI:Hid (∀ W,Calls prog 29 #[.string key,.string ⟨#[]⟩] W fun e w'=>e = .returned (.bool (cO (key,⟨#[]⟩)))∧W=w'):=fun W=>xQ key ⟨#[]⟩ W cL (by simp [ByteArray.size])
 have yo:Hid (∀ W,zr base A w0 W ob db tb fb fg F d r T wv root tx (aB r) XB row→∀ W2,Below W.heap.size W W2→Calls prog 28 #[wv,.string key] W2 fun e w'=>e = .returned (.tuple #[.int .i64 (aN (aB r) key:Int),.bool (bf (aB r) key)])∧Below W.heap.size W w'):=fun W hb W2 hW=>(lZ wv (aB r) key W2 (by omega) (hb.below hW).os.want.at).mono fun e w' ⟨he,k,hk⟩=>⟨he,by rw [hk];exact Below.next hW (aA (Below.refl _ _) k)⟩
 obtain ⟨q0,q4,x0,x3⟩:=HC.out W1 h1;obtain ⟨wa,wn,wc,Fb⟩:=et h.want;have XQ:=ab (cD (aB r) key);have HN:=ab hn;subst Fb;have zl:=ab gF;have QH:=ab si;clear h h1 hn cL bE gF;by_cases hm:cO (key,⟨#[]⟩)=true
 ·simp only [hm,if_true] at zp nI;clear hm;cases hf:bf (aB r) key with
  | false =>
   simp only [JK hf,hf] at zp yo;clear hf;go_enter func61,ntmps61;go_wp2_with fail;rw [zl.out,← si];clear si;go_wp2_with fail;go_region_held3 (fun w'=>w'.cell? ⟨ob,3,none⟩=some (.pointer (some ⟨tb,0,none⟩))∧w'.cell? ⟨XB,3,none⟩=some (.string key)) (go_keep)
    (first | (go_at_call 17;refine (zp.out _ ?_).mono ?_;(first | exact (Below.refl _ _).drew | exact aA (Below.refl _ _) _ | exact Below.refl _ _);rintro e w2 ⟨rfl,aU,Ed⟩;have bH:=ab aU;have Hz:=ab Ed;have n0:=HC.out w2 aU;obtain ⟨n3,n4,m0,m3⟩:=n0;clear aU Ed))
   all_goals
    clear q0 q4 x0 x3 zp;go_wp2_with fail;refine (nI.out _).mono ?_
    rintro e wq ⟨rfl,rfl⟩;have rW:=ab (yo.out w2 bH.out);clear yo;go_wp2_with fail;go_region_held3 (fun w'=>w'.cell? ⟨ob,4,none⟩=some (.slice wa wn wc)∧w'.cell? ⟨XB,3,none⟩=some (.string key)) (go_keep)
     (first | (go_at_call 28;refine (rW.out _ ?_).mono ?_;(first | exact (Below.refl _ _).drew | exact aA (Below.refl _ _) _ | exact Below.refl _ _);rintro e w3 ⟨rfl,bT⟩;have eG:=ab (bH.out.below bT);have XR:=ab (Hz.out.trans (cV bT));have o0:=HC.out w3 eG.out;obtain ⟨o3,o4,r0,r3⟩:=o0;clear bT))
   all_goals
     clear rW n3 n4 m0 m3;go_wp2;go_ret;exact ⟨rfl,eG.out.os,tG.out.trans XR.out⟩
  | true =>
   have bN:=gw hf;have se:=Cp hf;obtain ⟨vv,Ak⟩ : ∃ vv,vv=valOf (aB r) key:=⟨_,rfl⟩;have uX:Hid (∀ W,zr base A w0 W ob db tb fb fg F d r T (.slice wa wn wc) root tx (aB r) XB row→∃ g o,wa=some ⟨g,o,none⟩∧W.cell? ⟨g,o+aN (aB r) key*2+1,none⟩=some (.string vv)∧wn=(aB r).length):=fun W hb=>by
    obtain ⟨a,cap,e,_,_,hc⟩:=hb.os.want.at;obtain ⟨g,o,ha,_,h2⟩:=hc _ bN;cases e;exact ⟨g,o,ha,by rw [Ak,se];exact h2,rfl⟩
   simp only [← Ak,hf] at zp yo;have HLT:=ab bN;clear hf se Ak bN;generalize aN (aB r) key=fq at *;go_enter func61,ntmps61;go_wp2_with fail;rw [zl.out,← si];clear si;go_wp2_with fail;go_region_held3 (fun w'=>w'.cell? ⟨ob,3,none⟩=some (.pointer (some ⟨tb,0,none⟩))∧w'.cell? ⟨XB,3,none⟩=some (.string key)) (go_keep)
    (first | (go_at_call 17;refine (zp.out _ ?_).mono ?_;(first | exact (Below.refl _ _).drew | exact aA (Below.refl _ _) _ | exact Below.refl _ _);rintro e w2 ⟨rfl,aU,Ed⟩;have bH:=ab aU;have Hz:=ab Ed;have n0:=HC.out w2 aU;obtain ⟨n3,n4,m0,m3⟩:=n0;clear aU Ed))
   all_goals
    clear q0 q4 x0 x3 zp;go_wp2_with fail;refine (nI.out _).mono ?_
    rintro e wq ⟨rfl,rfl⟩;have rW:=ab (yo.out w2 bH.out);clear yo;go_wp2_with fail;go_region_held3 (fun w'=>w'.cell? ⟨ob,4,none⟩=some (.slice wa wn wc)∧w'.cell? ⟨XB,3,none⟩=some (.string key)) (go_keep)
     (first | (go_at_call 28;refine (rW.out _ ?_).mono ?_;(first | exact (Below.refl _ _).drew | exact aA (Below.refl _ _) _ | exact Below.refl _ _);rintro e w3 ⟨rfl,bT⟩;have eG:=ab (bH.out.below bT);have XR:=ab (Hz.out.trans (cV bT));have o0:=HC.out w3 eG.out;obtain ⟨o3,o4,r0,r3⟩:=o0;clear bT))
   all_goals
     clear rW n3 n4 m0 m3;obtain ⟨g,o,hg,bh,GB⟩:=uX.out w3 eG.out;subst hg;have j0:(0:Int)≤(fq:Int):=by omega
     have j1:(fq:Int)<(wn:Int):=by have:=HLT.out;omega
     have j2:(wn:Int)≤1000000:=by have:=HN.out;omega
     clear uX GB;go_wp2;go_ret;exact ⟨rfl,eG.out.os,tG.out.trans XR.out⟩
 ·have K3:cO (key,⟨#[]⟩)=false:=by simpa using hm
  simp only [K3,kq,if_false] at zp nI;clear hm K3;go_enter func61,ntmps61;go_wp2_with fail;rw [zl.out,← si];clear si;go_wp2_with fail;go_region_held3 (fun w'=>w'.cell? ⟨ob,3,none⟩=some (.pointer (some ⟨tb,0,none⟩))∧w'.cell? ⟨XB,3,none⟩=some (.string key)) (go_keep)
   (first | (go_at_call 17;refine (zp.out _ ?_).mono ?_;(first | exact (Below.refl _ _).drew | exact aA (Below.refl _ _) _ | exact Below.refl _ _);rintro e w2 ⟨rfl,aU,Ed⟩;have bH:=ab aU;have Hz:=ab Ed;have n0:=HC.out w2 aU;obtain ⟨n3,n4,m0,m3⟩:=n0;clear aU Ed))
  all_goals
   clear q0 q4 x0 x3 zp;go_wp2_with fail;refine (nI.out _).mono ?_
   rintro e wq ⟨rfl,rfl⟩;have WJ:=ab (vl A w2 bH.out.os.ts.dv.errs);go_wp2_with fail;refine WJ.out.mono ?_
   rintro e wq ⟨rfl,rfl⟩;go_wp2;go_ret;exact ⟨rfl,bH.out.os,tG.out.trans Hz.out⟩
end
theorem kQ{p:Pr→Bool}{l:List Pr}{k lim:Nat}(h:k<l.length):((l.take (k+1)).filter p).take lim=if ((l.take k).filter p).length<lim∧p l[k]=true then ((l.take k).filter p).take lim++[l[k]] else ((l.take k).filter p).take lim:=by
 rw [ay h,oK];by_cases hp:p l[k]=true
 ·have e:[l[k]].filter p=[l[k]]:=by simp [hp]
  rw [e,List.take_append];by_cases hl:((l.take k).filter p).length<lim
  ·rw [if_pos ⟨hl,hp⟩];congr 1
   obtain ⟨j,hj⟩ : ∃ j,lim - ((l.take k).filter p).length=j+1:=⟨lim - ((l.take k).filter p).length - 1,by omega⟩
   rw [hj];simp
  ·rw [if_neg (fun e=>hl e.1),show lim - ((l.take k).filter p).length=0 by omega]
   simp
 ·have e:[l[k]].filter p=[]:=by simp [hp]
  rw [if_neg (fun e=>hp e.2),e,List.append_nil]
theorem sF{p:Pr→Bool}{l:List Pr}{k lim:Nat}:((l.take k).filter p).length<lim↔(((l.take k).filter p).take lim).length<lim:=by
 rw [ag];omega
theorem Il{s:ByteArray}(h:s=⟨#[]⟩):s.toList=[]:=by
 subst h;rw [ByteArray.toList_eq]
theorem Cr{s:ByteArray}(h:s≠⟨#[]⟩):s.toList.isEmpty=false∧¬ s.toList=[]:=by
 have h1:¬ s.toList=[]:=fun e=>h (hO (by rw [← ByteArray.toList_eq,e]))
 refine ⟨?_,h1⟩;cases hx:s.toList with
 | nil=>exact absurd hx h1
 | cons _ _=>rfl
section
variable {base:Nat} {A:Nat→Addr} {w0:World} {ob db tb fb fg:Nat} {F:Nat→Prop} {d:S.V.bq} {r:ch} {T:Nat→Bool} {wv:Value} {root tx:Nat} {l:List Pr}
theorem uG{w:World}(kind at' n:Int)(key value eW:ByteArray)(hk:kind≠3∧kind≠4∧kind≠5)(h:Os base A w0 w ob db tb fb fg F d r T wv root tx l):Calls prog 61 #[.pointer (some ⟨ob,0,none⟩),.agg #[.int .i64 kind,.int .i64 at',.int .i64 n,.string key,.string value,.string eW]] w fun e w'=>e = .returned (.bool true)∧Os base A w0 w' ob db tb fb fg F d r T wv root tx l∧Fr db tb ob w w':=by
 have q0:=ai w (.cells #[.int .i64 kind,.int .i64 at',.int .i64 n,.string key,.string value,.string eW] 44);have x0:=B.au.new w #[.int .i64 kind,.int .i64 at',.int .i64 n,.string key,.string value,.string eW] 44;have k0:=x0.cell 0 (by simp)
 simp only [bQ,List.getElem_cons_zero] at k0;have HR:Hid (Os base A w0 (w.alloc (.cells #[.int .i64 kind,.int .i64 at',.int .i64 n,.string key,.string value,.string eW] 44)) ob db tb fb fg F d r T wv root tx l∧Fr db tb ob w (w.alloc (.cells #[.int .i64 kind,.int .i64 at',.int .i64 n,.string key,.string value,.string eW] 44))):=⟨h.below q0,cV q0⟩;have n3:(kind == 3)=false:=by rw [beq_eq_false_iff_ne];exact hk.1
 have n4:(kind == 4)=false:=by rw [beq_eq_false_iff_ne];exact hk.2.1
 have n5:(kind == 5)=false:=by rw [beq_eq_false_iff_ne];exact hk.2.2
 clear hk h q0 x0;go_enter func61,ntmps61;go_wp2;go_ret;exact ⟨rfl,HR.out⟩
theorem AK{w:World}(at' n:Int)(key value eW:ByteArray)(h:Os base A w0 w ob db tb fb fg F d r T wv root tx (aB r))(hn:(aB r).length≤1000000)(GO:n<0):Calls prog 61 #[.pointer (some ⟨ob,0,none⟩),.agg #[.int .i64 4,.int .i64 at',.int .i64 n,.string key,.string value,.string eW]] w fun e w'=>e = .returned (.bool true)∧Os base A w0 w' ob db tb fb fg F d r T wv root tx (aB r)∧Fr db tb ob w w':=by
 obtain ⟨row,bE⟩ : ∃ row:Array Value,row=#[.int .i64 4,.int .i64 at',.int .i64 n,.string key,.string value,.string eW]:=⟨_,rfl⟩;have h1:=h.box row;have tG:=ab (cV (db:=db) (tb:=tb) (ob:=ob) (ai w (.cells row 44)));rw [bE] at h1 tG;obtain ⟨W1,gF⟩ : ∃ W1,w.alloc (.cells #[.int .i64 4,.int .i64 at',.int .i64 n,.string key,.string value,.string eW] 44)=W1:=⟨_,rfl⟩;obtain ⟨XB,si⟩ : ∃ XB,XB=w.heap.size:=⟨_,rfl⟩;rw [gF,← si] at h1;rw [gF] at tG;rw [← bE] at h1;have HC:Hid (∀ W,zr base A w0 W ob db tb fb fg F d r T wv root tx (aB r) XB row→W.cell? ⟨ob,3,none⟩=some (.pointer (some ⟨tb,0,none⟩))∧W.cell? ⟨ob,4,none⟩=some wv∧W.cell? ⟨XB,0,none⟩=some (.int .i64 4)∧W.cell? ⟨XB,2,none⟩=some (.int .i64 n)∧W.cell? ⟨XB,3,none⟩=some (.string key)∧W.cell? ⟨XB,5,none⟩=some (.string eW)):=fun W hb=>by
  have hx:=hb.bx;rw [bE] at hx;refine ⟨hb.os.c.1,hb.os.c.2.1,?_,?_,?_,?_⟩
  ·have:=hx.cell 0 (by simp)
   simpa using this
  ·have:=hx.cell 2 (by simp)
   simpa using this
  ·have:=hx.cell 3 (by simp)
   simpa using this
  ·have:=hx.cell 5 (by simp)
   simpa using this
 have Rx:Hid (∀ W,Below W1.heap.size W1 W→Calls prog 59 #[.pointer (some ⟨tb,0,none⟩),.string key,.string eW,.int .i64 n] W fun e w'=>e = .returned (.tuple #[.slice none 0 0,.iface 360 (.pointer (some (A 0)))])∧zr base A w0 w' ob db tb fb fg F d r T wv root tx (aB r) XB row∧Fr db tb ob W1 w'):=fun W hW=>by
  have hb:=h1.below hW;refine (Kl hb.os.ts n GO).mono fun e w' ⟨he,BA⟩=>⟨he,hb.below BA,(cV hW).trans (cV BA)⟩
 obtain ⟨q3,q4,x0,x2,x3,x5⟩:=HC.out W1 h1;obtain ⟨wa,wn,wc,Fb⟩:=et h.want;have HN:=ab hn;have EY:Hid (wn=(aB r).length):=by
  obtain ⟨a,c,e2⟩:=h.want.form;rw [Fb] at e2;cases e2;rfl
 subst Fb;have zl:=ab gF;have QH:=ab si;clear h h1 hn bE gF;go_enter func61,ntmps61;go_wp2_with fail;rw [zl.out,← si];clear si;go_wp2_with fail;go_region_held3 (fun w'=>w'.cell? ⟨ob,3,none⟩=some (.pointer (some ⟨tb,0,none⟩))∧w'.cell? ⟨XB,2,none⟩=some (.int .i64 n)∧w'.cell? ⟨XB,3,none⟩=some (.string key)∧w'.cell? ⟨XB,5,none⟩=some (.string eW)) (go_keep)
  (first | (go_at_call 59;refine (Rx.out _ ?_).mono ?_;(first | exact (Below.refl _ _).drew | exact aA (Below.refl _ _) _ | exact Below.refl _ _);rintro e w2 ⟨rfl,aU,Ed⟩;have bH:=ab aU;have Hz:=ab Ed;have n0:=HC.out w2 aU;obtain ⟨n3,n4,m0,m2,m3,m5⟩:=n0;clear aU Ed))
 all_goals
  clear q3 q4 x0 x2 x3 x5 Rx;have WJ:=ab (vl A w2 bH.out.os.ts.dv.errs);go_wp2_with fail;refine WJ.out.mono ?_
  rintro e wq ⟨rfl,rfl⟩;go_wp2;go_ret;exact ⟨rfl,bH.out.os,tG.out.trans Hz.out⟩
end
theorem kP{ops:Array Oper}{rest:List Oper}{o:Oper}{a:Act}{w:World}{Q:Exit→Act→World→Prop}(t:TypeId)(nx:o.guard=none)(d x:Operand)
  (ho:o.op = .call { callee:=.builtin .append,args:=#[d,x],argTypes:=#[t,t] }) (yS:o.type=t) (vd vx:Value) (hd:a.eval d=vd) (hx:a.eval x=vx) (v:Value) (w':World)
  (bn:(Builtin.append_ #[t,t] t #[vd,vx]).run prog w = .ok v w') (h:wpList prog ops Q rest (a.put o.dst v) w'):wpList prog ops Q (o::rest) a w :=
 wpList_plain nx fun _ hK=>by
  unfold Oper.wp;simp [execOp,ho,resolve,invoke,builtin,hd,hx,yS,bn,Result.andThen]
  exact hK _ _ h
section
variable {base:Nat} {A:Nat→Addr} {w0:World} {ob db tb fb fg:Nat} {F:Nat→Prop} {d:S.V.bq} {r:ch} {T:Nat→Bool} {wv:Value} {root tx:Nat} {l:List Pr}
theorem uF{w:World}(at' n:Int)(key value eW:ByteArray)(h:Os base A w0 w ob db tb fb fg F d r T wv root tx (aB r))(hn:(aB r).length≤1000000)(h0n:0≤n)(nL:n≤9223372036854775807):Calls prog 61 #[.pointer (some ⟨ob,0,none⟩),.agg #[.int .i64 4,.int .i64 at',.int .i64 n,.string key,.string value,.string eW]] w fun e w'=>e = .returned (.bool true)∧Os base A w0 w' ob db tb fb fg F d r T wv root tx (aB r)∧Fr db tb ob w w':=by
 obtain ⟨row,bE⟩ : ∃ row:Array Value,row=#[.int .i64 4,.int .i64 at',.int .i64 n,.string key,.string value,.string eW]:=⟨_,rfl⟩;have h1:=h.box row;have tG:=ab (cV (db:=db) (tb:=tb) (ob:=ob) (ai w (.cells row 44)));rw [bE] at h1 tG;obtain ⟨W1,gF⟩ : ∃ W1,w.alloc (.cells #[.int .i64 4,.int .i64 at',.int .i64 n,.string key,.string value,.string eW] 44)=W1:=⟨_,rfl⟩;obtain ⟨XB,si⟩ : ∃ XB,XB=w.heap.size:=⟨_,rfl⟩;rw [gF,← si] at h1;rw [gF] at tG;rw [← bE] at h1;have HC:Hid (∀ W,zr base A w0 W ob db tb fb fg F d r T wv root tx (aB r) XB row→W.cell? ⟨ob,3,none⟩=some (.pointer (some ⟨tb,0,none⟩))∧W.cell? ⟨ob,4,none⟩=some wv∧W.cell? ⟨XB,0,none⟩=some (.int .i64 4)∧W.cell? ⟨XB,2,none⟩=some (.int .i64 n)∧W.cell? ⟨XB,3,none⟩=some (.string key)∧W.cell? ⟨XB,5,none⟩=some (.string eW)):=fun W hb=>by
  have hx:=hb.bx;rw [bE] at hx;refine ⟨hb.os.c.1,hb.os.c.2.1,?_,?_,?_,?_⟩
  ·have:=hx.cell 0 (by simp)
   simpa using this
  ·have:=hx.cell 2 (by simp)
   simpa using this
  ·have:=hx.cell 3 (by simp)
   simpa using this
  ·have:=hx.cell 5 (by simp)
   simpa using this
 obtain ⟨lim,nF⟩ : ∃ lim:Nat,n=(lim:Int):=⟨n.toNat,by omega⟩
 obtain ⟨R,hR⟩ : ∃ R,R=((aB r).filter (je key eW)).take lim:=⟨_,rfl⟩;have uU:=ld h.ts.ok;have sr:Hid (∀ W,Below W1.heap.size W1 W→Calls prog 59 #[.pointer (some ⟨tb,0,none⟩),.string key,.string eW,.int .i64 n] W fun e w'=>(∃ a m c,e = .returned (.tuple #[.slice a m c,.nilIface])∧gG w' (.slice a m c) R)∧zr base A w0 w' ob db tb fb fg F d r T wv root tx (aB r) XB row∧Fr db tb ob W1 w'):=fun W hW=>by
  have hb:=h1.below hW;rw [nF];refine (wM (lim:=lim) hb.os.ts (by omega) hb.os.nd (by omega) (by omega)).mono ?_
  rintro e w' ⟨⟨v,he,hp⟩,hv,hm⟩;obtain ⟨a,m,c,kL⟩:=et hp.1;subst kL;exact ⟨⟨a,m,c,he,by rw [hR];exact hp.1.at⟩,hb.fr (hb.os.mv hv hm) (rM hm),(cV hW).trans (rM hm)⟩
 clear uU;obtain ⟨q3,q4,x0,x2,x3,x5⟩:=HC.out W1 h1;obtain ⟨wa,wn,wc,Fb⟩:=et h.want;have HN:=ab hn;have EY:Hid (wn=(aB r).length):=by
  obtain ⟨a,c,e2⟩:=h.want.form;rw [Fb] at e2;cases e2;rfl
 subst Fb;have zl:=ab gF;have QH:=ab si;have XK:=ab hR;have WS:=ab nF;clear h h1 hn bE gF hR nF;go_enter func61,ntmps61;go_wp2_with fail;rw [zl.out,← si];clear si;go_wp2_with fail;go_region_held3 (fun w'=>w'.cell? ⟨ob,3,none⟩=some (.pointer (some ⟨tb,0,none⟩))∧w'.cell? ⟨XB,2,none⟩=some (.int .i64 n)∧w'.cell? ⟨XB,3,none⟩=some (.string key)∧w'.cell? ⟨XB,5,none⟩=some (.string eW)) (go_keep)
  (first | (go_at_call 59;refine (sr.out _ ?_).mono ?_;(first | exact (Below.refl _ _).drew | exact aA (Below.refl _ _) _ | exact Below.refl _ _);rintro e w2 ⟨⟨ra,rm,rc,rfl,uQ⟩,aU,Ed⟩;have bH:=ab aU;have Hz:=ab Ed;have Mo:=ab uQ;have n0:=HC.out w2 aU;obtain ⟨n3,n4,m0,m2,m3,m5⟩:=n0;clear aU Ed uQ))
 all_goals
  clear q3 q4 x0 x2 x3 x5 sr n3;have D6:¬ n<0:=by omega
  go_wp2;go_loopw [13,14] (fun v iv wr=>∃ (k:Nat) (L:List Pr) (va:Option Addr) (vn vc:Nat),k≤wn∧v = .slice va vn vc∧iv = .int .i64 (k:Int)∧Hid (L=(((aB r).take k).filter (je key eW)).take lim∧ij wr w2.heap.size (.slice va vn vc) L∧Below w2.heap.size w2 wr)) (fun _ iv _=>wn - (intOf iv).toNat)
  case atStart=>exact ⟨0,[],none,0,0,aD _,rfl,rfl,by simp,ij.nil _ _,Below.refl _ _⟩
  case round =>
   obtain ⟨k,L1,va,vn,vc,hk,rfl,rfl,hh⟩:=hrel;obtain ⟨Cd,aE,jX⟩:=hh.out;clear hh;have k0:(0:Int)≤(k:Int):=by omega
   have Fo:=bH.out.below jX;obtain ⟨u3,u4,v0,v2,v3,v5⟩:=HC.out wr Fo;have VM:L1.length=vn:=by
    obtain ⟨a,c,e⟩:=aE.form;cases e;rfl
   have HVN:=ab VM;by_cases bN:k<wn
   ·have dP:(k:Int)<(wn:Int):=by omega
    have cL:k<(aB r).length:=by have:=EY.out;omega
    have ahF:(wn:Int)≤1000000:=by have:=EY.out;have:=HN.out;omega
    have ahH:(vn:Int)≤1000000:=by
     have h1:L1.length≤(aB r).length:=by
      rw [Cd,ag];have:=List.length_filter_le (je key eW) ((aB r).take k);rw [ag] at this;omega
     have:=HN.out;omega
    obtain ⟨_,_,Yv,_,_,bh⟩:=Fo.os.want.at;simp only [Value.slice.injEq] at Yv;obtain ⟨rfl,-,rfl⟩:=Yv;obtain ⟨g,o,yY,c1,c2⟩:=bh k cL;subst yY;obtain ⟨p,hp⟩ : ∃ p,p=(aB r)[k]:=⟨_,rfl⟩;rw [← hp] at c1 c2;have HP:=ab hp;clear hp;have MH:=ai wr (.cells #[.string p.1,.string p.2] 52);have xp:=B.au.new wr #[.string p.1,.string p.2] 52;obtain ⟨_,_,_,t2,t3,t5⟩:=HC.out _ (Fo.below MH);have p0:=xp.c0;have p1:=xp.c1;obtain ⟨L2,GZ⟩ : ∃ L2,L2=(((aB r).take (k+1)).filter (je key eW)).take lim:=⟨_,rfl⟩;have U1:Hid (L2=(((aB r).take (k+1)).filter (je key eW)).take lim∧ij (wr.alloc (.cells #[.string p.1,.string p.2] 52)) w2.heap.size (.slice va vn vc) L1∧Below w2.heap.size w2 (wr.alloc (.cells #[.string p.1,.string p.2] 52))):=⟨GZ,aE.below MH,Below.next jX MH⟩;obtain ⟨a2,Ww,w4,bn,D0,gj,_⟩:=CX w2.heap.size (.slice va vn vc) L1 p 52 (wr.alloc (.cells #[.string p.1,.string p.2] 52)) w2 w2.heap.size vn VM (aE.below MH) (by omega) (by have:=jX.size;simp;omega) (aj _) (Below.next jX MH)
    rw [show (wr.alloc (.cells #[.string p.1,.string p.2] 52)).heap.size=wr.heap.size+1 by simp] at bn
    have rV:=ab bn;have MP:Hid (L2=(((aB r).take (k+1)).filter (je key eW)).take lim∧ij w4 w2.heap.size (.slice a2 (vn+1) Ww) (L1++[p])∧Below w2.heap.size w2 w4):=⟨GZ,D0,gj⟩;clear aE jX Fo bh MH xp bn D0 gj;by_cases hm:vn<lim
    ·have hmI:(vn:Int)<n:=by have:=WS.out;omega
     cases hb:cR p.1 key with
     | true =>
      have aU:Op.bytesLess p.1.toList key.toList=true:=hb;have lC:L2=L1:=by rw [GZ,kQ cL,if_neg (fun e=>by rw [← HP.out] at e;unfold je at e;rw [hb] at e;simp at e),← Cd]
      rw [lC] at U1;clear GZ lC Cd VM;go_wp2;go_roundw
      case rel=>exact ⟨k+1,L1,va,vn,vc,by omega,rfl,by go_num,U1.out⟩
      case measure=>simp [intOf];omega
     | false =>
      have aU:Op.bytesLess p.1.toList key.toList=false:=hb;by_cases Uo:eW=⟨#[]⟩
      ·have hte:=Il Uo;have lC:L2=L1++[p]:=by rw [GZ,kQ cL,if_pos ⟨sF.2 (by rw [← Cd];have:=HVN.out;omega),by rw [← HP.out];unfold je;rw [hb,Uo];rfl⟩,← Cd,← HP.out]
       rw [lC] at MP;clear GZ lC U1 Cd Uo VM;go_wp2_with (first | (at_builtin;refine kP 63 rfl (.tmp 159) (.tmp 161) rfl rfl _ _ rfl rfl _ _ rV.out ?_))
       clear rV;go_roundw
       case rel=>exact ⟨k+1,L1++[p],a2,vn+1,Ww,by omega,rfl,by go_num,MP.out⟩
       case measure=>simp [intOf];omega
      ·obtain ⟨e0,e1⟩:=Cr Uo;cases bT:cR p.1 eW with
       | true =>
        have gj:Op.bytesLess p.1.toList eW.toList=true:=bT;have lC:L2=L1++[p]:=by rw [GZ,kQ cL,if_pos ⟨sF.2 (by rw [← Cd];have:=HVN.out;omega),by rw [← HP.out];unfold je;rw [hb,bT];simp⟩,← Cd,← HP.out]
        rw [lC] at MP;clear GZ lC U1 Cd Uo VM;go_wp2_with (first | (at_builtin;refine kP 63 rfl (.tmp 159) (.tmp 161) rfl rfl _ _ rfl rfl _ _ rV.out ?_))
        clear rV;go_roundw
        case rel=>exact ⟨k+1,L1++[p],a2,vn+1,Ww,by omega,rfl,by go_num,MP.out⟩
        case measure=>simp [intOf];omega
       | false =>
        have gj:Op.bytesLess p.1.toList eW.toList=false:=bT;have lC:L2=L1:=by rw [GZ,kQ cL,if_neg (fun e=>by rw [← HP.out] at e;unfold je at e;rw [hb,bT] at e;simp [Uo] at e),← Cd]
        rw [lC] at U1;clear GZ lC Cd VM;go_wp2;go_roundw
        case rel=>exact ⟨k+1,L1,va,vn,vc,by omega,rfl,by go_num,U1.out⟩
        case measure=>simp [intOf];omega
    ·have hmI:¬ (vn:Int)<n:=by have:=WS.out;omega
     have lC:L2=L1:=by rw [GZ,kQ cL,if_neg (fun e=>by have:=sF.1 e.1;rw [← Cd] at this;have:=HVN.out;omega),← Cd]
     rw [lC] at U1;clear GZ lC Cd VM;go_wp2;go_roundw
     case rel=>exact ⟨k+1,L1,va,vn,vc,by omega,rfl,by go_num,U1.out⟩
     case measure=>simp [intOf];omega
   ·have dP:¬ (k:Int)<(wn:Int):=by omega
    have MM:L1=R:=by
     have ht:(aB r).take k=aB r:=al (by have:=EY.out;omega)
     rw [Cd,XK.out,ht]
    rw [MM] at aE;have HSA:=ab (wh (.slice ra rm rc) (.slice va vn vc) R wr (by
     have h1:R.length≤(aB r).length:=by
      rw [XK.out,ag];have:=List.length_filter_le (je key eW) (aB r);omega
     have:=HN.out;omega) (Mo.out.below jX) aE.at)
    have b8:Hid (∀ W,Below wr.heap.size wr W→Os base A w0 W ob db tb fb fg F d r T (.slice wa wn wc) root tx (aB r)∧Fr db tb ob w W):=fun W hW=>⟨(Fo.below hW).os,tG.out.trans (Hz.out.trans ((cV jX).trans (cV hW)))⟩
    clear aE jX Fo MM Cd v0 v2 v3 v5 u3 m0 m2 m3 m5 n4;go_wp2_with fail;refine HSA.out.mono ?_
    rintro e w5 ⟨rfl,mj⟩;have XM:=ab (b8.out w5 mj);clear HSA mj u4;go_wp2;go_ret;exact ⟨rfl,XM.out⟩
end
end T
end Go.Proofs.YtihmgigfkmofnaaGreatDoor
