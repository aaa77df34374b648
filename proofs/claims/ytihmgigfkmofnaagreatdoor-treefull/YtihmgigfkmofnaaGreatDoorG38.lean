import Derived.Test.YtihmgigfkmofnaaGreatDoorG37
set_option maxHeartbeats 8000000
set_option maxRecDepth 100000
open Go.Proofs.Tryz
namespace Go.Proofs.YtihmgigfkmofnaaGreatDoor
namespace T
open Go.RowKit
theorem La(a:Option Addr)(m c:Nat)(l:List W.Lk)(q:W.Lk)(n:SN)(pv lv cv:Value)(w:World)(hm:m=l.length)(kO:m≤100000)(hr:W.di w (.slice a (m+1) c) (l++[q]))(hs:dQ w q.1 n pv lv cv)(dH:n.ps≠[]):Calls prog 53 #[.slice a (m+1) c,.nilIface] w fun e w'=>e = .returned (.tuple #[.agg #[.string (iy n.ps).1,.string (iy n.ps).2],.bool true,.nilIface])∧Below w.heap.size w w':=by
 have q0:=ai w (.cells #[.string ⟨#[]⟩,.string ⟨#[]⟩] 52);have x0:=B.au.new w #[.string ⟨#[]⟩,.string ⟨#[]⟩] 52;have HX:=ab x0;have z0:=x0.c0;have z1:=x0.c1;have y0:=x0.free 0;have y1:=x0.free 1;have vz:=ab q0;have wi:=ab (jg a m c l q n pv lv cv _ hm kO (by
  obtain ⟨a',cap,e,hle,hn,hc⟩:=hr;exact ⟨a',cap,e,hle,hn,fun j hj=>by
   obtain ⟨g,o,ha,h1,h2⟩:=hc j hj;exact ⟨g,o,ha,(q0.cell (p:=⟨g,o+j*2,none⟩) (World.block_lt_of_cell? w _ h1)).trans h1,(q0.cell (p:=⟨g,o+j*2+1,none⟩) (World.block_lt_of_cell? w _ h2)).trans h2⟩⟩) (hs.below q0))
 have Ii:=ab (hs.iI.below q0);have HF:Hid (n.ps.length≤4000):=hs.fine.2.1;obtain ⟨xa,xc,BN⟩:=hs.iI.form;subst BN;obtain ⟨M,hM⟩ : ∃ M,M=m+1:=⟨_,rfl⟩;rw [← hM] at wi ⊢;clear q0 x0 hr hs hm kO hM;obtain ⟨N,hN⟩ : ∃ N,N=n.ps.length:=⟨_,rfl⟩;have HN:=ab hN;rw [← hN] at wi Ii HF;clear hN;have h0:¬ N=0:=fun e=>dH (List.length_eq_zero_iff.1 (by rw [← HN.out];exact e))
 have bK:N - 1<n.ps.length:=by have:=HN.out;omega
 have Cr:iy n.ps=n.ps[N - 1]:=pq (by have:=HN.out;omega)
 obtain ⟨_,_,kq,_,_,bm⟩:=Ii.out;simp only [Value.slice.injEq] at kq;obtain ⟨rfl,-,rfl⟩:=kq;obtain ⟨g,o,rfl,c1,c2⟩:=bm (N - 1) bK;rw [← Cr] at c1 c2;generalize (iy n.ps).1=s1 at *;generalize (iy n.ps).2=s2 at *;obtain ⟨j,rfl⟩ : ∃ j,N=j+1:=⟨N - 1,by omega⟩
 rw [Nat.add_sub_cancel] at c1 c2;have RF:(0:Int)≤(j:Int):=by omega
 have PF:(j:Int)<(j:Int)+1:=by omega
 have X0:(j:Int)≤4000:=by have:=HF.out;omega
 have hq3:(((j+1:Nat):Int) == 0)=false:=by simp;omega
 clear bm bK h0 Cr dH;go_enter func53,ntmps53;go_wp2_with fail;refine wi.out.mono ?_
 rintro e w1 ⟨rfl,rfl⟩;go_wp2_with fail
 (try simp only [Exit.inBlock,Exit.then])
 exact bodyPost_ret (fk rfl _ _ w.heap.size 52 _ (0,0) _ rfl (B.au.new w #[.string s1,.string s2] 52) underlying52 rfl (by kernel_rfl)) rfl ⟨rfl,ai w _⟩
def JL(r:cC)(e:Ending)(w':World):Prop :=
 (r=none∧e = .returned (.tuple #[.slice none 0 0,.nilIface])) ∨
 ∃ (m:Nat) (a:Option Addr) (c:Nat) (l:List W.Lk) (q:W.Lk) (n:SN) (pv lv cv:Value),e = .returned (.tuple #[.slice a (m+1) c,.nilIface])∧m=l.length∧m≤100000∧W.di w' (.slice a (m+1) c) (l++[q])∧dQ w' q.1 n pv lv cv∧n.ps≠[]∧∃ Y,aD r=Y++n.ps
theorem JL.of{d:S.V.bw}{A:Nat→Addr}{x:XT}{bs:Nat}{e:Ending}{w':World}(cO:fc (some x))(h:nP (cX d) (fun n q=>q=n.lk.length) A [] x bs e w'):JL (some x) e w':=by
 rcases h with ⟨hE,_⟩ | ⟨ss,s,a,c,he,ho,hw,⟨⟨pv,lv,cv,hs⟩,hn⟩,h0,rR,hl⟩
 ·exact (hE:False).elim
 ·simp only [List.length_nil,Nat.zero_add,List.nil_append] at he ho hl;obtain ⟨hn,hg⟩:=hn;obtain ⟨b,n,i,⟨hh,t⟩⟩:=s;cases hh with
  | zero =>
   obtain ⟨⟨Y,hY⟩,dH⟩:=Kw hw cO;have kt:n.ps=t.2:=hn.2;exact .inr ⟨ss.length,a,c,ss.map gD.lk,(b,(i:Int)),n,pv,lv,cv,he,by rw [az],by omega,ho.1.at,hs,by rw [kt];exact dH,Y,by rw [kt];exact hY⟩
  | succ h=>exact absurd (List.length_eq_zero_iff.1 h0) hn.2.1
section
variable {base:Nat} {A:Nat→Addr} {db:Nat} {F:Nat→Prop} {d:S.V.bw} {W0:World} {r:cC}
theorem zb{w w1:World}{tb:Nat}(hc:Ts base A db F d W0 w tb r)(hn:(aD r).length≤4611686018427387904)(hb:Below w.heap.size w w1):Calls prog 54 #[.pointer (some ⟨tb,0,none⟩),.func (.func 55) #[] #[]] w1 fun e w'=>JL r e w'∧Dv base A db F d w'∧Mv db F w w':=by
 obtain ⟨rv,ht,hr⟩:=hc.tr;have hv:=hc.dv.below hb;have hm:Mv db F w w1:=Mv.of hb;rcases hr with ⟨rfl,rfl⟩ | ⟨p,h,t,rfl,rfl,hk⟩
 ·refine (wF _ ⟨_,_,_,rfl⟩ tb _ w1 (ht.below hb)).mono fun e w' ⟨he,hw⟩=>?_
  subst hw;exact ⟨.inl ⟨rfl,he⟩,hv,hm⟩
 ·refine (Bg (cX d) (fun n q=>q=n.lk.length) (fun _=>True) (fun _ _ _ h=>h) p ⟨h,t⟩ tb 55 #[] Tryz.call55 w w1 ⟨hk.cH (cW.of hb),jI hc.ok⟩ (ht.below hb) hv hm hc.dv trivial (.inr (ld hc.ok hn)) (fun W b n pv lv cv y _ hs hn yf=>?_)).mono fun e w' ⟨h1,h2,h3⟩=>⟨JL.of hc.ok h1,h2,h3⟩
  have hk:=((cX d).fit hn).1.resolve_left yf;exact (zX n lv W hs.bh).mono fun e w' ⟨he,hb⟩=>⟨n.lk.length,he,rfl,by omega,hb⟩
theorem D9{a:Option Addr}{n c:Nat}{v:Value}{w:World}{l:List Pr}(h:(.returned (.tuple #[.slice a n c,v])=Ending.returned (.tuple #[.slice none 0 0,.nilIface])∧l=[])∨∃ (m:Nat) (a':Option Addr) (c':Nat) (l':List W.Lk) (q:W.Lk) (sn:SN) (pv lv cv:Value),Ending.returned (.tuple #[.slice a n c,v]) = .returned (.tuple #[.slice a' (m+1) c',.nilIface])∧m=l'.length∧m≤100000∧W.di w (.slice a' (m+1) c') (l'++[q])∧dQ w q.1 sn pv lv cv∧sn.ps≠[]∧∃ Y,l=Y++sn.ps):Calls prog 53 #[.slice a n c,v] w fun e w'=>e = .returned (.tuple #[.agg #[.string (iy l).1,.string (iy l).2],.bool (!l.isEmpty),.nilIface])∧Below w.heap.size w w':=by
 rcases h with ⟨he,rfl⟩ | ⟨m,a',c',l',q,sn,pv,lv,cv,he,hm,kO,hr,hs,dH,Y,rfl⟩
 ·cases he;exact uv _ (.inl rfl) w
 ·cases he;rw [AH dH,show (Y++sn.ps).isEmpty=false by cases h:Y++sn.ps with | nil=>exact absurd (List.append_eq_nil_iff.1 h).2 dH | cons _ _=>rfl]
  exact La a m c l' q sn pv lv cv w hm kO hr hs dH
end
def Ui(d:S.V.bw)(key:ByteArray)(r:cC)(bs:Nat)(e:Ending)(w':World):Prop :=
 (r=none∧e = .returned (.tuple #[.slice none 0 0,.nilIface])) ∨
 ∃ (x:XT) (ss:List (gD XT)) (s:gD XT) (a:Option Addr) (c:Nat) (pv lv cv:Value) (t0:Nd 0),r=some x∧e = .returned (.tuple #[.slice a (ss.length+1) c,.nilIface])∧tQ w' bs (.slice a (ss.length+1) c) (ss.map gD.lk++[s.lk])∧Way (cX d) (fun n q=>B.fL n.lk key q) w' x ss s.x∧s.x=⟨0,t0⟩∧s.at'=0∧dQ w' s.b s.n pv lv cv∧s.n.ps=t0.2∧fY t0.2≤4072∧ss.length≤63
theorem Ui.of{A:Nat→Addr}{d:S.V.bw}{key:ByteArray}{x:XT}{bs:Nat}{e:Ending}{w':World}(h:nP (cX d) (fun n q=>B.fL n.lk key q) A [] x bs e w'):Ui d key (some x) bs e w':=by
 rcases h with ⟨hE,_⟩ | ⟨ss,s,a,c,he,ho,hw,⟨⟨pv,lv,cv,hs⟩,hn⟩,h0,rR,hl⟩
 ·exact (hE:False).elim
 ·simp only [List.length_nil,Nat.zero_add,List.nil_append] at he ho hl;obtain ⟨hn,hg⟩:=hn;obtain ⟨b,n,i,⟨hh,t⟩⟩:=s;cases hh with
  | zero=>exact .inr ⟨x,ss,⟨b,n,i,⟨0,t⟩⟩,a,c,pv,lv,cv,t,rfl,he,ho,hw,rfl,rR,hs,hn.2,hg.2,hl⟩
  | succ h=>exact absurd (List.length_eq_zero_iff.1 h0) hn.2.1
section
variable {base:Nat} {A:Nat→Addr} {db:Nat} {F:Nat→Prop} {d:S.V.bw} {W0:World} {r:cC}
theorem Sc{w w1:World}{tb:Nat}(key:ByteArray)(hc:Ts base A db F d W0 w tb r)(hn:(aD r).length≤4611686018427387904)(hb:Below w.heap.size w w1):Calls prog 46 #[.pointer (some ⟨tb,0,none⟩),.string key] w1 fun e w'=>Ui d key r w.heap.size e w'∧Dv base A db F d w'∧Mv db F w w':=by
 obtain ⟨rv,ht,hr⟩:=hc.tr;have hv:=hc.dv.below hb;have hm:Mv db F w w1:=Mv.of hb;rcases hr with ⟨rfl,rfl⟩ | ⟨p,h,t,rfl,rfl,hk⟩
 ·refine (wC tb _ key w1 (ht.below hb)).mono fun e w' ⟨he,hb⟩=>⟨.inl ⟨rfl,he⟩,hv.below hb,hm.trans (Mv.of hb)⟩
 ·refine (wB (cX d) p ⟨h,t⟩ tb key w w1 ⟨hk.cH (cW.of hb),jI hc.ok⟩ (ht.below hb) hv hm hc.dv (.inr (ld hc.ok hn))).mono fun e w' ⟨h1,h2,h3⟩=>⟨Ui.of h1,h2,h3⟩
theorem E7{w w1:World}{b:Nat}(hb:base≤w.heap.size)(fi:w.heap.size≤b)(hF:∀ k,F k→k<w.heap.size)(hm:Mv db F w w1)(hv:Dv base A db F d w1)(x y:Value):Dv base A db F d ((w1.setCell ⟨b,0,none⟩ x).setCell ⟨b,1,none⟩ y)∧Mv db F w ((w1.setCell ⟨b,0,none⟩ x).setCell ⟨b,1,none⟩ y):=by
 have hf:¬ F b:=fun hf=>by
  have:=hF _ hf;omega
 have hs:=(bJ.set b 0 w1 x).trans (bJ.set b 1 _ y);exact ⟨(hv.tree (by omega) hf 0 x).tree (by omega) hf 1 y,⟨⟨hs.os.trans hm.step.os,hs.tape.trans hm.step.tape,hs.output.trans hm.step.output,ar hm.size hs.size,fun k hk hn=>(hs.block k (aq hk hm.size) (by omega)).trans (hm.step.block k hk hn),fun _ h=>.inl h⟩,⟨hs.os.trans hm.step.os,hs.tape.trans hm.step.tape,hs.output.trans hm.step.output,ar hm.size hs.size,fun k hk hn=>(hs.block k (aq hk hm.size) (by omega)).trans (hm.one.block k hk hn),fun _ h=>.inl h⟩⟩⟩
theorem Ts.boxed{w w1:World}{tb:Nat}(h:Ts base A db F d W0 w tb r)(hm:Mv db F w w1)(hv:Dv base A db F d w1)(x y:Value):Dv base A db F d ((w1.setCell ⟨w.heap.size,0,none⟩ x).setCell ⟨w.heap.size,1,none⟩ y)∧Mv db F w ((w1.setCell ⟨w.heap.size,0,none⟩ x).setCell ⟨w.heap.size,1,none⟩ y):=by
 obtain ⟨d',_,hd⟩:=h.dv.dev;exact E7 h.dv.env.errs.size (aj _) (fun k hk=>hd.lt _ hk) hm hv x y
theorem E9{w:World}{tb:Nat}(key:ByteArray)(hc:Ts base A db F d W0 w tb r)(hn:(aD r).length≤4611686018427387904):Calls prog 18 #[.pointer (some ⟨tb,0,none⟩),.string key] w fun e w'=>e = .returned (.tuple #[.agg #[.string (iy (sg (aD r) key)).1,.string (iy (sg (aD r) key)).2],.bool (!(sg (aD r) key).isEmpty),.nilIface])∧Dv base A db F d w'∧Mv db F w w':=by
 have q0:=ai w (.cells #[.string ⟨#[]⟩,.string ⟨#[]⟩] 52);have x0:=B.au.new w #[.string ⟨#[]⟩,.string ⟨#[]⟩] 52;have HX:Hid (∀ w1,Mv db F (w.alloc (.cells #[.string ⟨#[]⟩,.string ⟨#[]⟩] 52)) w1→B.au w1 w.heap.size #[.string ⟨#[]⟩,.string ⟨#[]⟩] 52):=fun w1 hm=>VW hm x0 (by have:=hc.dv.Hr;omega)
 have HQ:=ab q0;have HC:=ab hc;have HCA:=ab (hc.below q0);have VL:=ab (hc.dv.below q0);have HN:=ab hn;have pF:=ab hc.ok;clear hc x0 q0 hn;obtain ⟨L,hL⟩ : ∃ L,L=sg (aD r) key:=⟨_,rfl⟩;rw [← hL];have lW:=ab hL;clear hL;obtain ⟨s1,ke⟩ : ∃ s1,s1=(iy L).1:=⟨_,rfl⟩;obtain ⟨s2,jv⟩ : ∃ s2,s2=(iy L).2:=⟨_,rfl⟩;obtain ⟨bb,BV⟩ : ∃ bb,bb=!L.isEmpty:=⟨_,rfl⟩;rw [← ke,← jv,← BV];have mh:=ab ke;have lD:=ab jv;have lI:=ab BV;clear ke jv BV;by_cases hk:key=⟨#[]⟩
 ·subst hk;have wj:Hid (L=aD r):=by show _=_;rw [lW.out];unfold sg;rw [if_pos rfl]
  have HW:=ab (zb HCA.out HN.out (Below.refl _ _));go_enter func18,ntmps18;go_wp2_with fail;refine HW.out.mono ?_
  rintro e w1 ⟨GX,fP,fs⟩;obtain ⟨a,n,c,he⟩ : ∃ a n c,e = .returned (.tuple #[.slice a n c,.nilIface]):=by
   rcases GX with ⟨_,he⟩ | ⟨m,a,c,_,_,_,_,_,_,he,_⟩
   ·exact ⟨_,_,_,he⟩
   ·exact ⟨_,_,_,he⟩
  subst he;have hl:=D9 (l:=L) (w:=w1) (by
   rcases GX with ⟨h1,h2⟩ | ⟨m,a',c',l',q,sn,pv,lv,cv,h1,h2,h3,h4,h5,h6,Y,h7⟩
   ·exact .inl ⟨h2,by rw [wj.out,h1];rfl⟩
   ·exact .inr ⟨m,a',c',l',q,sn,pv,lv,cv,h1,h2,h3,h4,h5,h6,Y,by rw [wj.out];exact h7⟩)
  rw [← mh.out,← lD.out,← lI.out] at hl;have HL:=ab hl;clear hl;have tU:=ab fP;have Rq:=ab fs;clear GX fP fs HW;go_wp2_with fail;refine HL.out.mono ?_
  rintro e w2 ⟨rfl,aS⟩;have vw:=ab (Rq.out.trans (Mv.of aS));have tT:=ab (tU.out.below aS);have nO:=ab (HX.out w2 vw.out);have z0:=nO.out.c0;have z1:=nO.out.c1;have y0:=nO.out.free 0;have y1:=nO.out.free 1;clear aS HL Rq tU;go_wp2_with fail
  (try simp only [Exit.inBlock,Exit.then])
  exact bodyPost_ret (fk rfl _ _ w.heap.size 52 _ (0,0) _ rfl (nO.out.two _ _) underlying52 rfl (by kernel_rfl)) rfl ⟨rfl,HC.out.boxed ((Mv.of HQ.out).trans vw.out) tT.out _ _⟩
 ·have nU:key.toList.isEmpty=false:=by
   cases h:key.toList with
   | nil=>exact absurd (ig (by rw [← ByteArray.toList_eq,h])) hk
   | cons _ _=>rfl
  have HW:=ab (Sc key HCA.out HN.out (Below.refl _ _));have HK:=ab hk;clear hk;go_enter func18,ntmps18;go_wp2_with fail;refine HW.out.mono ?_
  rintro e w1 ⟨GX,fP,fs⟩;have tU:=ab fP;have Rq:=ab fs;have zL:=ab (HX.out w1 fs);rcases GX with ⟨U2,rfl⟩ | ⟨x,ss,s,a,c,pv,lv,cv,t0,Wq,rfl,ho,jl,Zj,rR,hs,kt,b8,hl⟩
  ·have Xa:L=[]:=by rw [lW.out,U2];unfold sg;rw [if_neg HK.out];rfl
   have HE1:Hid (s1=⟨#[]⟩):=by show _=_;rw [mh.out,Xa];rfl
   have VK:Hid (s2=⟨#[]⟩):=by show _=_;rw [lD.out,Xa];rfl
   have HE3:Hid (bb=false):=by show _=_;rw [lI.out,Xa];rfl
   clear Xa;clear fP fs HW U2;go_wp2_with fail;refine (hU w1).mono ?_
   rintro e w1' ⟨rfl,rfl⟩;go_wp2_with fail;refine (iT (.slice none 0 0) [] key w1 (by simp) (gM.nil _)).mono ?_
   rintro e w2 ⟨rfl,aS⟩;rw [show bg [] key=false from rfl,show aP [] key=0 from rfl]
   have vw:=ab (Rq.out.trans (Mv.of aS));have tT:=ab (tU.out.below aS);clear aS;go_wp2_with fail;refine (zd tb w2).mono ?_
   rintro e w2' ⟨rfl,rfl⟩;go_wp2_with fail;refine (uv .nilIface (.inl rfl) w2).mono ?_
   rintro e w3 ⟨rfl,bQ⟩;have CC:=ab (vw.out.trans (Mv.of bQ));have Fq:=ab (tT.out.below bQ);have yX:=ab (HX.out w3 CC.out);have z0:=yX.out.c0;have z1:=yX.out.c1;have y0:=yX.out.free 0;have y1:=yX.out.free 1;clear bQ;go_wp2_with fail
   (try simp only [Exit.inBlock,Exit.then])
   exact bodyPost_ret (fk rfl _ _ w.heap.size 52 _ (0,0) _ rfl (yX.out.two _ _) underlying52 rfl (by kernel_rfl)) rfl ⟨by rw [HE1.out,VK.out,HE3.out];rfl,HC.out.boxed ((Mv.of HQ.out).trans CC.out) Fq.out _ _⟩
  ·subst Wq;have Ig:Hid (∃ rv,B.au w1 tb #[.pointer (some ⟨db,0,none⟩),rv] 100):=by
    obtain ⟨rv,h1,_⟩:=(HCA.out.mv fs fP).tr;exact ⟨rv,h1⟩
   obtain ⟨gU,hX,hZ⟩:=CK (lo:=none) (hi:=none) (Zj▸jl) pF.out.1;have Xa:L=fT ss++(s.n.ps).take (aP s.n.ps key):=by
    rw [lW.out];show sg (flat x.1 x.2) key=_
    rw [gU,QZ HK.out hX hZ,kt]
   have wj:=ab Xa;have HO:=ab ho;have HWY:=ab jl;have HL:=ab hl;have vA:=ab rR;have jb:Hid (fY s.n.ps≤4072):=by show _≤_;rw [kt];exact b8
   have aeV:Hid (x.1+1≤64):=ld (h:=x.1) (t:=x.2) pF.out HN.out;have wi:=ab (jg a ss.length c (ss.map gD.lk) s.lk s.n pv lv cv w1 (by rw [az]) (by omega) ho.1.at hs)
   have Ii:=ab hs.iI;obtain ⟨m,Cp⟩ : ∃ m,m=ss.length:=⟨_,rfl⟩;have FO:=ab Cp;rw [← Cp] at wi HO ⊢;obtain ⟨xa,xc,BN⟩:=hs.iI.form;subst BN;clear ho jl hs b8 rR hl fP fs HW Cp gU hX hZ kt Zj Xa;go_wp2_with fail;refine wi.out.mono ?_
   rintro e w1' ⟨rfl,rfl⟩;go_wp2_with fail;refine (iT _ s.n.ps key w1 (by have:=iE s.n.ps;have:=jb.out;omega) Ii.out).mono ?_
   rintro e w2 ⟨rfl,aS⟩;have vw:=ab (Rq.out.trans (Mv.of aS));have tT:=ab (tU.out.below aS);have nO:=ab (HX.out w2 vw.out);have aeI:=ab (Ii.out.below aS);have jE:=ab (HO.out.below aS);have aex:=ab (HWY.out.cH (cW.of aS));have Ba:Hid (∃ rv,B.au w2 tb #[.pointer (some ⟨db,0,none⟩),rv] 100):=by
    obtain ⟨rv,h1⟩:=Ig.out;exact ⟨rv,h1.below aS⟩
   have gU:=cD s.n.ps key;clear aS;generalize aP s.n.ps key=fq at *;by_cases hp:0<fq
   ·obtain ⟨j,rfl⟩ : ∃ j,fq=j+1:=⟨fq - 1,by omega⟩
    obtain ⟨_,_,kq,_,_,bm⟩:=aeI.out;simp only [Value.slice.injEq] at kq;obtain ⟨rfl,-,rfl⟩:=kq;obtain ⟨g,o,rfl,c1,c2⟩:=bm j (by omega)
    have dH:(s.n.ps).take (j+1)≠[]:=fun e=>by
     have:=congrArg List.length e;rw [ag,List.length_nil] at this;omega
    have Cr:iy L=s.n.ps[j]:=by
     rw [wj.out,AH dH,pq (j:=j) (by rw [ag];omega),bF]
    have hem:(!L.isEmpty)=true:=by
     rw [wj.out];cases h:fT ss++(s.n.ps).take (j+1) with
     | nil=>exact absurd (List.append_eq_nil_iff.1 h).2 dH
     | cons _ _=>rfl
    rw [← Cr,← mh.out] at c1;rw [← Cr,← lD.out] at c2;have HE3:Hid (bb=true):=by show _=_;rw [lI.out,hem]
    have Lp:(0:Int)≤(j:Int):=by omega
    have hj1:(j:Int)<(s.n.ps.length:Int):=by omega
    have hj2:(s.n.ps.length:Int)≤4072:=by have:=iE s.n.ps;have:=jb.out;omega
    have hj3:(0:Int)<((j+1:Nat):Int):=by omega
    have z0:=nO.out.c0;have z1:=nO.out.c1;have y0:=nO.out.free 0;have y1:=nO.out.free 1;clear bm gU hp dH Cr hem;go_wp2_with fail
    (try simp only [Exit.inBlock,Exit.then])
    exact bodyPost_ret (fk rfl _ _ w.heap.size 52 _ (0,0) _ rfl (nO.out.two _ _) underlying52 rfl (by kernel_rfl)) rfl ⟨by rw [HE3.out];rfl,HC.out.boxed ((Mv.of HQ.out).trans vw.out) tT.out _ _⟩
   ·have hz:fq=0:=by omega
    subst hz;have aeW:Hid (L=fT ss):=by show _=_;rw [wj.out];simp
    obtain ⟨rv2,tk⟩:=Ba.out;have GX:=wE (rv:=rv2) a c ss s VL.out vw.out tT.out tk (by rw [← FO.out];exact jE.out.1.at) x aex.out aeV.out vA.out HL.out
    rw [← FO.out] at GX;have HWA:=ab GX;clear GX gU hp tk;go_wp2_with fail;refine HWA.out.mono ?_
    rintro e w3 ⟨hah,yV,sA⟩;obtain ⟨a3,n3,c3,he⟩ : ∃ a n c,e = .returned (.tuple #[.slice a n c,.nilIface]):=by
     rcases hah with ⟨he,_⟩ | ⟨m,a,c,_,_,_,_,_,_,he,_⟩
     ·exact ⟨_,_,_,he⟩
     ·exact ⟨_,_,_,he⟩
    subst he;have Cr:=D9 (l:=L) (w:=w3) (by rw [aeW.out];exact hah)
    rw [← mh.out,← lD.out,← lI.out] at Cr;have HLA:=ab Cr;clear Cr;have Fq:=ab yV;have CC:=ab sA;clear hah yV sA HWA;go_wp2_with fail;refine HLA.out.mono ?_
    rintro e w4 ⟨rfl,fW⟩;have HM4:=ab (CC.out.trans (Mv.of fW));have HV4:=ab (Fq.out.below fW);have vZ:=ab (HX.out w4 HM4.out);have z0:=vZ.out.c0;have z1:=vZ.out.c1;have y0:=vZ.out.free 0;have y1:=vZ.out.free 1;clear fW HLA;go_wp2_with fail
    (try simp only [Exit.inBlock,Exit.then])
    exact bodyPost_ret (fk rfl _ _ w.heap.size 52 _ (0,0) _ rfl (vZ.out.two _ _) underlying52 rfl (by kernel_rfl)) rfl ⟨rfl,HC.out.boxed ((Mv.of HQ.out).trans HM4.out) HV4.out _ _⟩
end
section
variable {base:Nat} {A:Nat→Addr} {w0:World} {ob db tb fb fg:Nat} {F:Nat→Prop} {d:S.V.bw} {r:cC} {T:Nat→Bool} {wv:Value} {root tx:Nat} {l:List Pr}
structure zT(base:Nat)(A:Nat→Addr)(w0 w:World)(ob db tb fb fg:Nat)(F:Nat→Prop)(d:S.V.bw)(r:cC)(T:Nat→Bool)(wv:Value)(root tx:Nat)(l:List Pr)(XB:Nat)(row:Array Value):Prop where
 os:Os base A w0 w ob db tb fb fg F d r T wv root tx l
 bx:B.au w XB row 44
 ne:¬ F XB∧XB≠tb∧XB≠ob
section
variable {XB:Nat} {row:Array Value}
theorem zT.fr{w w1:World}(h:zT base A w0 w ob db tb fb fg F d r T wv root tx l XB row)(ho:Os base A w0 w1 ob db tb fb fg F d r T wv root tx l)(hf:Fr db tb ob w w1):zT base A w0 w1 ob db tb fb fg F d r T wv root tx l XB row:=⟨ho,(hf.2 XB h.bx.lt (fun e=>h.ne.1 (e▸h.os.ts.dv.own)) h.ne.2.1 h.ne.2.2).trans h.bx,h.ne⟩
theorem zT.below{w w1:World}(h:zT base A w0 w ob db tb fb fg F d r T wv root tx l XB row)(hb:Below w.heap.size w w1):zT base A w0 w1 ob db tb fb fg F d r T wv root tx l XB row:=h.fr (h.os.below hb) (dC hb)
end
theorem Os.box{w:World}(h:Os base A w0 w ob db tb fb fg F d r T wv root tx l)(row:Array Value):zT base A w0 (w.alloc (.cells row 44)) ob db tb fb fg F d r T wv root tx l w.heap.size row:=by
 have hn:=h.new (aj w.heap.size);exact ⟨h.below (ai w _),B.au.new w row 44,hn.1,hn.2.1,hn.2.2.1⟩
theorem CL{l:List Pr}{key:ByteArray}(h:bg l key=true):valOf l key=(l[aP l key]'(gz h)).2:=by unfold valOf;rw [dif_pos h]
theorem J3{l:List Pr}{key:ByteArray}(h:bg l key=false):valOf l key=⟨#[]⟩:=by unfold valOf;rw [dif_neg (by rw [h];decide)]
theorem Mz{w:World}(at' n:Int)(key value iN:ByteArray)(h:Os base A w0 w ob db tb fb fg F d r T wv root tx (aD r))(hn:(aD r).length≤1000000)(de:key.size≤140737488355328):Calls prog 61 #[.pointer (some ⟨ob,0,none⟩),.agg #[.int .i64 3,.int .i64 at',.int .i64 n,.string key,.string value,.string iN]] w fun e w'=>e = .returned (.bool true)∧Os base A w0 w' ob db tb fb fg F d r T wv root tx (aD r)∧Fr db tb ob w w':=by
 obtain ⟨row,bE⟩ : ∃ row:Array Value,row=#[.int .i64 3,.int .i64 at',.int .i64 n,.string key,.string value,.string iN]:=⟨_,rfl⟩;have h1:=h.box row;have zR:=ab (dC (db:=db) (tb:=tb) (ob:=ob) (ai w (.cells row 44)));rw [bE] at h1 zR;obtain ⟨W1,gL⟩ : ∃ W1,w.alloc (.cells #[.int .i64 3,.int .i64 at',.int .i64 n,.string key,.string value,.string iN] 44)=W1:=⟨_,rfl⟩;obtain ⟨XB,qE⟩ : ∃ XB,XB=w.heap.size:=⟨_,rfl⟩;rw [gL,← qE] at h1;rw [gL] at zR;rw [← bE] at h1;have HC:Hid (∀ W,zT base A w0 W ob db tb fb fg F d r T wv root tx (aD r) XB row→W.cell? ⟨ob,3,none⟩=some (.pointer (some ⟨tb,0,none⟩))∧W.cell? ⟨ob,4,none⟩=some wv∧W.cell? ⟨XB,0,none⟩=some (.int .i64 3)∧W.cell? ⟨XB,3,none⟩=some (.string key)):=fun W hb=>by
  have hx:=hb.bx;rw [bE] at hx;refine ⟨hb.os.c.1,hb.os.c.2.1,?_,?_⟩
  ·have:=hx.cell 0 (by simp)
   simpa using this
  ·have:=hx.cell 3 (by simp)
   simpa using this
 have zQ:Hid (∀ W,Below W1.heap.size W1 W→Calls prog 17 #[.pointer (some ⟨tb,0,none⟩),.string key] W fun e w'=>e = .returned (if cN (key,⟨#[]⟩)=true then .tuple #[.string (valOf (aD r) key),.bool (bg (aD r) key),.nilIface] else .tuple #[.string ⟨#[]⟩,.bool false,.iface 360 (.pointer (some (A 0)))])∧zT base A w0 w' ob db tb fb fg F d r T wv root tx (aD r) XB row∧Fr db tb ob W1 w'):=fun W hW=>by
  have hb:=h1.below hW;refine (LC key hb.os.ts (by omega) de).mono fun e w' ⟨he,ht⟩=>⟨he,hb.fr (hb.os.tree ht (List.Sublist.refl _)) (pA ht.st),(dC hW).trans (pA ht.st)⟩
 have mP:Hid (∀ W,Calls prog 29 #[.string key,.string ⟨#[]⟩] W fun e w'=>e = .returned (.bool (cN (key,⟨#[]⟩)))∧W=w'):=fun W=>yt key ⟨#[]⟩ W de (by simp [ByteArray.size])
 have yP:Hid (∀ W,zT base A w0 W ob db tb fb fg F d r T wv root tx (aD r) XB row→∀ W2,Below W.heap.size W W2→Calls prog 28 #[wv,.string key] W2 fun e w'=>e = .returned (.tuple #[.int .i64 (aP (aD r) key:Int),.bool (bg (aD r) key)])∧Below W.heap.size W w'):=fun W hb W2 hW=>(mn wv (aD r) key W2 (by omega) (hb.below hW).os.want.at).mono fun e w' ⟨he,k,hk⟩=>⟨he,by rw [hk];exact Below.next hW (aA (Below.refl _ _) k)⟩
 obtain ⟨q0,q4,x0,x3⟩:=HC.out W1 h1;obtain ⟨wa,wn,wc,Jj⟩:=gr h.want;have Yt:=ab (cD (aD r) key);have HN:=ab hn;subst Jj;have we:=ab gL;have Rg:=ab qE;clear h h1 hn de bE gL;by_cases hm:cN (key,⟨#[]⟩)=true
 ·simp only [hm,if_true] at zQ mP;clear hm;cases hf:bg (aD r) key with
  | false =>
   simp only [J3 hf,hf] at zQ yP;clear hf;go_enter func61,ntmps61;go_wp2_with fail;rw [we.out,← qE];clear qE;go_wp2_with fail;go_region_held3 (fun w'=>w'.cell? ⟨ob,3,none⟩=some (.pointer (some ⟨tb,0,none⟩))∧w'.cell? ⟨XB,3,none⟩=some (.string key)) (go_keep)
    (first | (go_at_call 17;refine (zQ.out _ ?_).mono ?_;(first | exact (Below.refl _ _).drew | exact aA (Below.refl _ _) _ | exact Below.refl _ _);rintro e w2 ⟨rfl,aS,hf2⟩;have bG:=ab aS;have Bc:=ab hf2;have n0:=HC.out w2 aS;obtain ⟨n3,n4,m0,m3⟩:=n0;clear aS hf2))
   all_goals
    clear q0 q4 x0 x3 zQ;go_wp2_with fail;refine (mP.out _).mono ?_
    rintro e wq ⟨rfl,rfl⟩;have pS:=ab (yP.out w2 bG.out);clear yP;go_wp2_with fail;go_region_held3 (fun w'=>w'.cell? ⟨ob,4,none⟩=some (.slice wa wn wc)∧w'.cell? ⟨XB,3,none⟩=some (.string key)) (go_keep)
     (first | (go_at_call 28;refine (pS.out _ ?_).mono ?_;(first | exact (Below.refl _ _).drew | exact aA (Below.refl _ _) _ | exact Below.refl _ _);rintro e w3 ⟨rfl,bQ⟩;have eG:=ab (bG.out.below bQ);have Yu:=ab (Bc.out.trans (dC bQ));have o0:=HC.out w3 eG.out;obtain ⟨o3,o4,r0,r3⟩:=o0;clear bQ))
   all_goals
     clear pS n3 n4 m0 m3;go_wp2;go_ret;exact ⟨rfl,eG.out.os,zR.out.trans Yu.out⟩
  | true =>
   have bK:=gz hf;have vf:=CL hf;obtain ⟨vv,AL⟩ : ∃ vv,vv=valOf (aD r) key:=⟨_,rfl⟩;have sq:Hid (∀ W,zT base A w0 W ob db tb fb fg F d r T (.slice wa wn wc) root tx (aD r) XB row→∃ g o,wa=some ⟨g,o,none⟩∧W.cell? ⟨g,o+aP (aD r) key*2+1,none⟩=some (.string vv)∧wn=(aD r).length):=fun W hb=>by
    obtain ⟨a,cap,e,_,_,hc⟩:=hb.os.want.at;obtain ⟨g,o,ha,_,h2⟩:=hc _ bK;cases e;exact ⟨g,o,ha,by rw [AL,vf];exact h2,rfl⟩
   simp only [← AL,hf] at zQ yP;have XA:=ab bK;clear hf vf AL bK;generalize aP (aD r) key=fq at *;go_enter func61,ntmps61;go_wp2_with fail;rw [we.out,← qE];clear qE;go_wp2_with fail;go_region_held3 (fun w'=>w'.cell? ⟨ob,3,none⟩=some (.pointer (some ⟨tb,0,none⟩))∧w'.cell? ⟨XB,3,none⟩=some (.string key)) (go_keep)
    (first | (go_at_call 17;refine (zQ.out _ ?_).mono ?_;(first | exact (Below.refl _ _).drew | exact aA (Below.refl _ _) _ | exact Below.refl _ _);rintro e w2 ⟨rfl,aS,hf2⟩;have bG:=ab aS;have Bc:=ab hf2;have n0:=HC.out w2 aS;obtain ⟨n3,n4,m0,m3⟩:=n0;clear aS hf2))
   all_goals
    clear q0 q4 x0 x3 zQ;go_wp2_with fail;refine (mP.out _).mono ?_
    rintro e wq ⟨rfl,rfl⟩;have pS:=ab (yP.out w2 bG.out);clear yP;go_wp2_with fail;go_region_held3 (fun w'=>w'.cell? ⟨ob,4,none⟩=some (.slice wa wn wc)∧w'.cell? ⟨XB,3,none⟩=some (.string key)) (go_keep)
     (first | (go_at_call 28;refine (pS.out _ ?_).mono ?_;(first | exact (Below.refl _ _).drew | exact aA (Below.refl _ _) _ | exact Below.refl _ _);rintro e w3 ⟨rfl,bQ⟩;have eG:=ab (bG.out.below bQ);have Yu:=ab (Bc.out.trans (dC bQ));have o0:=HC.out w3 eG.out;obtain ⟨o3,o4,r0,r3⟩:=o0;clear bQ))
   all_goals
     clear pS n3 n4 m0 m3;obtain ⟨g,o,hg,bm,GW⟩:=sq.out w3 eG.out;subst hg;have j0:(0:Int)≤(fq:Int):=by omega
     have j1:(fq:Int)<(wn:Int):=by have:=XA.out;omega
     have j2:(wn:Int)≤1000000:=by have:=HN.out;omega
     clear sq GW;go_wp2;go_ret;exact ⟨rfl,eG.out.os,zR.out.trans Yu.out⟩
 ·have Lm:cN (key,⟨#[]⟩)=false:=by simpa using hm
  simp only [Lm,kF,if_false] at zQ mP;clear hm Lm;go_enter func61,ntmps61;go_wp2_with fail;rw [we.out,← qE];clear qE;go_wp2_with fail;go_region_held3 (fun w'=>w'.cell? ⟨ob,3,none⟩=some (.pointer (some ⟨tb,0,none⟩))∧w'.cell? ⟨XB,3,none⟩=some (.string key)) (go_keep)
   (first | (go_at_call 17;refine (zQ.out _ ?_).mono ?_;(first | exact (Below.refl _ _).drew | exact aA (Below.refl _ _) _ | exact Below.refl _ _);rintro e w2 ⟨rfl,aS,hf2⟩;have bG:=ab aS;have Bc:=ab hf2;have n0:=HC.out w2 aS;obtain ⟨n3,n4,m0,m3⟩:=n0;clear aS hf2))
  all_goals
   clear q0 q4 x0 x3 zQ;go_wp2_with fail;refine (mP.out _).mono ?_
   rintro e wq ⟨rfl,rfl⟩;have R0:=ab (vJ A w2 bG.out.os.ts.dv.errs);go_wp2_with fail;refine R0.out.mono ?_
   rintro e wq ⟨rfl,rfl⟩;go_wp2;go_ret;exact ⟨rfl,bG.out.os,zR.out.trans Bc.out⟩
end
theorem kY{p:Pr→Bool}{l:List Pr}{k lim:Nat}(h:k<l.length):((l.take (k+1)).filter p).take lim=if ((l.take k).filter p).length<lim∧p l[k]=true then ((l.take k).filter p).take lim++[l[k]] else ((l.take k).filter p).take lim:=by
 rw [ax h,oS];by_cases hp:p l[k]=true
 ·have e:[l[k]].filter p=[l[k]]:=by simp [hp]
  rw [e,List.take_append];by_cases hl:((l.take k).filter p).length<lim
  ·rw [if_pos ⟨hl,hp⟩];congr 1
   obtain ⟨j,hj⟩ : ∃ j,lim - ((l.take k).filter p).length=j+1:=⟨lim - ((l.take k).filter p).length - 1,by omega⟩
   rw [hj];simp
  ·rw [if_neg (fun e=>hl e.1),show lim - ((l.take k).filter p).length=0 by omega]
   simp
 ·have e:[l[k]].filter p=[]:=by simp [hp]
  rw [if_neg (fun e=>hp e.2),e,List.append_nil]
theorem sQ{p:Pr→Bool}{l:List Pr}{k lim:Nat}:((l.take k).filter p).length<lim↔(((l.take k).filter p).take lim).length<lim:=by
 rw [ag];omega
theorem IA{s:ByteArray}(h:s=⟨#[]⟩):s.toList=[]:=by
 subst h;rw [ByteArray.toList_eq]
theorem CP{s:ByteArray}(h:s≠⟨#[]⟩):s.toList.isEmpty=false∧¬ s.toList=[]:=by
 have h1:¬ s.toList=[]:=fun e=>h (ig (by rw [← ByteArray.toList_eq,e]))
 refine ⟨?_,h1⟩;cases hx:s.toList with
 | nil=>exact absurd hx h1
 | cons _ _=>rfl
section
variable {base:Nat} {A:Nat→Addr} {w0:World} {ob db tb fb fg:Nat} {F:Nat→Prop} {d:S.V.bw} {r:cC} {T:Nat→Bool} {wv:Value} {root tx:Nat} {l:List Pr}
theorem Fg{w:World}(kind at' n:Int)(key value iN:ByteArray)(hk:kind≠3∧kind≠4∧kind≠5)(h:Os base A w0 w ob db tb fb fg F d r T wv root tx l):Calls prog 61 #[.pointer (some ⟨ob,0,none⟩),.agg #[.int .i64 kind,.int .i64 at',.int .i64 n,.string key,.string value,.string iN]] w fun e w'=>e = .returned (.bool true)∧Os base A w0 w' ob db tb fb fg F d r T wv root tx l∧Fr db tb ob w w':=by
 have q0:=ai w (.cells #[.int .i64 kind,.int .i64 at',.int .i64 n,.string key,.string value,.string iN] 44);have x0:=B.au.new w #[.int .i64 kind,.int .i64 at',.int .i64 n,.string key,.string value,.string iN] 44;have k0:=x0.cell 0 (by simp)
 simp only [dm,List.getElem_cons_zero] at k0;have HR:Hid (Os base A w0 (w.alloc (.cells #[.int .i64 kind,.int .i64 at',.int .i64 n,.string key,.string value,.string iN] 44)) ob db tb fb fg F d r T wv root tx l∧Fr db tb ob w (w.alloc (.cells #[.int .i64 kind,.int .i64 at',.int .i64 n,.string key,.string value,.string iN] 44))):=⟨h.below q0,dC q0⟩;have n3:(kind == 3)=false:=by rw [beq_eq_false_iff_ne];exact hk.1
 have n4:(kind == 4)=false:=by rw [beq_eq_false_iff_ne];exact hk.2.1
 have n5:(kind == 5)=false:=by rw [beq_eq_false_iff_ne];exact hk.2.2
 clear hk h q0 x0;go_enter func61,ntmps61;go_wp2;go_ret;exact ⟨rfl,HR.out⟩
theorem My{w:World}(at' n:Int)(key value iN:ByteArray)(h:Os base A w0 w ob db tb fb fg F d r T wv root tx (aD r))(hn:(aD r).length≤1000000)(PM:n<0):Calls prog 61 #[.pointer (some ⟨ob,0,none⟩),.agg #[.int .i64 4,.int .i64 at',.int .i64 n,.string key,.string value,.string iN]] w fun e w'=>e = .returned (.bool true)∧Os base A w0 w' ob db tb fb fg F d r T wv root tx (aD r)∧Fr db tb ob w w':=by
 obtain ⟨row,bE⟩ : ∃ row:Array Value,row=#[.int .i64 4,.int .i64 at',.int .i64 n,.string key,.string value,.string iN]:=⟨_,rfl⟩;have h1:=h.box row;have zR:=ab (dC (db:=db) (tb:=tb) (ob:=ob) (ai w (.cells row 44)));rw [bE] at h1 zR;obtain ⟨W1,gL⟩ : ∃ W1,w.alloc (.cells #[.int .i64 4,.int .i64 at',.int .i64 n,.string key,.string value,.string iN] 44)=W1:=⟨_,rfl⟩;obtain ⟨XB,qE⟩ : ∃ XB,XB=w.heap.size:=⟨_,rfl⟩;rw [gL,← qE] at h1;rw [gL] at zR;rw [← bE] at h1;have HC:Hid (∀ W,zT base A w0 W ob db tb fb fg F d r T wv root tx (aD r) XB row→W.cell? ⟨ob,3,none⟩=some (.pointer (some ⟨tb,0,none⟩))∧W.cell? ⟨ob,4,none⟩=some wv∧W.cell? ⟨XB,0,none⟩=some (.int .i64 4)∧W.cell? ⟨XB,2,none⟩=some (.int .i64 n)∧W.cell? ⟨XB,3,none⟩=some (.string key)∧W.cell? ⟨XB,5,none⟩=some (.string iN)):=fun W hb=>by
  have hx:=hb.bx;rw [bE] at hx;refine ⟨hb.os.c.1,hb.os.c.2.1,?_,?_,?_,?_⟩
  ·have:=hx.cell 0 (by simp)
   simpa using this
  ·have:=hx.cell 2 (by simp)
   simpa using this
  ·have:=hx.cell 3 (by simp)
   simpa using this
  ·have:=hx.cell 5 (by simp)
   simpa using this
 have RZ:Hid (∀ W,Below W1.heap.size W1 W→Calls prog 59 #[.pointer (some ⟨tb,0,none⟩),.string key,.string iN,.int .i64 n] W fun e w'=>e = .returned (.tuple #[.slice none 0 0,.iface 360 (.pointer (some (A 0)))])∧zT base A w0 w' ob db tb fb fg F d r T wv root tx (aD r) XB row∧Fr db tb ob W1 w'):=fun W hW=>by
  have hb:=h1.below hW;refine (KJ hb.os.ts n PM).mono fun e w' ⟨he,BV⟩=>⟨he,hb.below BV,(dC hW).trans (dC BV)⟩
 obtain ⟨q3,q4,x0,x2,x3,x5⟩:=HC.out W1 h1;obtain ⟨wa,wn,wc,Jj⟩:=gr h.want;have HN:=ab hn;have Fp:Hid (wn=(aD r).length):=by
  obtain ⟨a,c,e2⟩:=h.want.form;rw [Jj] at e2;cases e2;rfl
 subst Jj;have we:=ab gL;have Rg:=ab qE;clear h h1 hn bE gL;go_enter func61,ntmps61;go_wp2_with fail;rw [we.out,← qE];clear qE;go_wp2_with fail;go_region_held3 (fun w'=>w'.cell? ⟨ob,3,none⟩=some (.pointer (some ⟨tb,0,none⟩))∧w'.cell? ⟨XB,2,none⟩=some (.int .i64 n)∧w'.cell? ⟨XB,3,none⟩=some (.string key)∧w'.cell? ⟨XB,5,none⟩=some (.string iN)) (go_keep)
  (first | (go_at_call 59;refine (RZ.out _ ?_).mono ?_;(first | exact (Below.refl _ _).drew | exact aA (Below.refl _ _) _ | exact Below.refl _ _);rintro e w2 ⟨rfl,aS,hf2⟩;have bG:=ab aS;have Bc:=ab hf2;have n0:=HC.out w2 aS;obtain ⟨n3,n4,m0,m2,m3,m5⟩:=n0;clear aS hf2))
 all_goals
  clear q3 q4 x0 x2 x3 x5 RZ;have R0:=ab (vJ A w2 bG.out.os.ts.dv.errs);go_wp2_with fail;refine R0.out.mono ?_
  rintro e wq ⟨rfl,rfl⟩;go_wp2;go_ret;exact ⟨rfl,bG.out.os,zR.out.trans Bc.out⟩
end
theorem kX{ops:Array Oper}{rest:List Oper}{o:Oper}{a:Act}{w:World}{Q:Exit→Act→World→Prop}(t:TypeId)(nK:o.guard=none)(d x:Operand)
  (ho:o.op = .call { callee:=.builtin .append,args:=#[d,x],argTypes:=#[t,t] }) (zr:o.type=t) (vd vx:Value) (hd:a.eval d=vd) (hx:a.eval x=vx) (v:Value) (w':World)
  (bq:(Builtin.append_ #[t,t] t #[vd,vx]).run prog w = .ok v w') (h:wpList prog ops Q rest (a.put o.dst v) w'):wpList prog ops Q (o::rest) a w :=
 wpList_plain nK fun _ hK=>by
  unfold Oper.wp;simp [execOp,ho,resolve,invoke,builtin,hd,hx,zr,bq,Result.andThen]
  exact hK _ _ h
section
variable {base:Nat} {A:Nat→Addr} {w0:World} {ob db tb fb fg:Nat} {F:Nat→Prop} {d:S.V.bw} {r:cC} {T:Nat→Bool} {wv:Value} {root tx:Nat} {l:List Pr}
theorem Ff{w:World}(at' n:Int)(key value iN:ByteArray)(h:Os base A w0 w ob db tb fb fg F d r T wv root tx (aD r))(hn:(aD r).length≤1000000)(h0n:0≤n)(rP:n≤9223372036854775807):Calls prog 61 #[.pointer (some ⟨ob,0,none⟩),.agg #[.int .i64 4,.int .i64 at',.int .i64 n,.string key,.string value,.string iN]] w fun e w'=>e = .returned (.bool true)∧Os base A w0 w' ob db tb fb fg F d r T wv root tx (aD r)∧Fr db tb ob w w':=by
 obtain ⟨row,bE⟩ : ∃ row:Array Value,row=#[.int .i64 4,.int .i64 at',.int .i64 n,.string key,.string value,.string iN]:=⟨_,rfl⟩;have h1:=h.box row;have zR:=ab (dC (db:=db) (tb:=tb) (ob:=ob) (ai w (.cells row 44)));rw [bE] at h1 zR;obtain ⟨W1,gL⟩ : ∃ W1,w.alloc (.cells #[.int .i64 4,.int .i64 at',.int .i64 n,.string key,.string value,.string iN] 44)=W1:=⟨_,rfl⟩;obtain ⟨XB,qE⟩ : ∃ XB,XB=w.heap.size:=⟨_,rfl⟩;rw [gL,← qE] at h1;rw [gL] at zR;rw [← bE] at h1;have HC:Hid (∀ W,zT base A w0 W ob db tb fb fg F d r T wv root tx (aD r) XB row→W.cell? ⟨ob,3,none⟩=some (.pointer (some ⟨tb,0,none⟩))∧W.cell? ⟨ob,4,none⟩=some wv∧W.cell? ⟨XB,0,none⟩=some (.int .i64 4)∧W.cell? ⟨XB,2,none⟩=some (.int .i64 n)∧W.cell? ⟨XB,3,none⟩=some (.string key)∧W.cell? ⟨XB,5,none⟩=some (.string iN)):=fun W hb=>by
  have hx:=hb.bx;rw [bE] at hx;refine ⟨hb.os.c.1,hb.os.c.2.1,?_,?_,?_,?_⟩
  ·have:=hx.cell 0 (by simp)
   simpa using this
  ·have:=hx.cell 2 (by simp)
   simpa using this
  ·have:=hx.cell 3 (by simp)
   simpa using this
  ·have:=hx.cell 5 (by simp)
   simpa using this
 obtain ⟨lim,nR⟩ : ∃ lim:Nat,n=(lim:Int):=⟨n.toNat,by omega⟩
 obtain ⟨R,hR⟩ : ∃ R,R=((aD r).filter (jk key iN)).take lim:=⟨_,rfl⟩;have tp:=kj h.ts.ok;have sH:Hid (∀ W,Below W1.heap.size W1 W→Calls prog 59 #[.pointer (some ⟨tb,0,none⟩),.string key,.string iN,.int .i64 n] W fun e w'=>(∃ a m c,e = .returned (.tuple #[.slice a m c,.nilIface])∧gM w' (.slice a m c) R)∧zT base A w0 w' ob db tb fb fg F d r T wv root tx (aD r) XB row∧Fr db tb ob W1 w'):=fun W hW=>by
  have hb:=h1.below hW;rw [nR];refine (xu (lim:=lim) hb.os.ts (by omega) hb.os.nd (by omega) (by omega)).mono ?_
  rintro e w' ⟨⟨v,he,hp⟩,hv,hm⟩;obtain ⟨a,m,c,kq⟩:=gr hp.1;subst kq;exact ⟨⟨a,m,c,he,by rw [hR];exact hp.1.at⟩,hb.fr (hb.os.mv hv hm) (rW hm),(dC hW).trans (rW hm)⟩
 clear tp;obtain ⟨q3,q4,x0,x2,x3,x5⟩:=HC.out W1 h1;obtain ⟨wa,wn,wc,Jj⟩:=gr h.want;have HN:=ab hn;have Fp:Hid (wn=(aD r).length):=by
  obtain ⟨a,c,e2⟩:=h.want.form;rw [Jj] at e2;cases e2;rfl
 subst Jj;have we:=ab gL;have Rg:=ab qE;have Yl:=ab hR;have XD:=ab nR;clear h h1 hn bE gL hR nR;go_enter func61,ntmps61;go_wp2_with fail;rw [we.out,← qE];clear qE;go_wp2_with fail;go_region_held3 (fun w'=>w'.cell? ⟨ob,3,none⟩=some (.pointer (some ⟨tb,0,none⟩))∧w'.cell? ⟨XB,2,none⟩=some (.int .i64 n)∧w'.cell? ⟨XB,3,none⟩=some (.string key)∧w'.cell? ⟨XB,5,none⟩=some (.string iN)) (go_keep)
  (first | (go_at_call 59;refine (sH.out _ ?_).mono ?_;(first | exact (Below.refl _ _).drew | exact aA (Below.refl _ _) _ | exact Below.refl _ _);rintro e w2 ⟨⟨ra,rm,rc,rfl,vh⟩,aS,hf2⟩;have bG:=ab aS;have Bc:=ab hf2;have MI:=ab vh;have n0:=HC.out w2 aS;obtain ⟨n3,n4,m0,m2,m3,m5⟩:=n0;clear aS hf2 vh))
 all_goals
  clear q3 q4 x0 x2 x3 x5 sH n3;have Et:¬ n<0:=by omega
  go_wp2;go_loopw [13,14] (fun v iv wr=>∃ (k:Nat) (L:List Pr) (va:Option Addr) (vn vc:Nat),k≤wn∧v = .slice va vn vc∧iv = .int .i64 (k:Int)∧Hid (L=(((aD r).take k).filter (jk key iN)).take lim∧ir wr w2.heap.size (.slice va vn vc) L∧Below w2.heap.size w2 wr)) (fun _ iv _=>wn - (intOf iv).toNat)
  case atStart=>exact ⟨0,[],none,0,0,aB _,rfl,rfl,by simp,ir.nil _ _,Below.refl _ _⟩
  case round =>
   obtain ⟨k,L1,va,vn,vc,hk,rfl,rfl,hh⟩:=hrel;obtain ⟨Cx,aF,kh⟩:=hh.out;clear hh;have k0:(0:Int)≤(k:Int):=by omega
   have FM:=bG.out.below kh;obtain ⟨u3,u4,v0,v2,v3,v5⟩:=HC.out wr FM;have Wk:L1.length=vn:=by
    obtain ⟨a,c,e⟩:=aF.form;cases e;rfl
   have HVN:=ab Wk;by_cases bK:k<wn
   ·have dK:(k:Int)<(wn:Int):=by omega
    have de:k<(aD r).length:=by have:=Fp.out;omega
    have ah1:(wn:Int)≤1000000:=by have:=Fp.out;have:=HN.out;omega
    have ah3:(vn:Int)≤1000000:=by
     have h1:L1.length≤(aD r).length:=by
      rw [Cx,ag];have:=List.length_filter_le (jk key iN) ((aD r).take k);rw [ag] at this;omega
     have:=HN.out;omega
    obtain ⟨_,_,Y6,_,_,bm⟩:=FM.os.want.at;simp only [Value.slice.injEq] at Y6;obtain ⟨rfl,-,rfl⟩:=Y6;obtain ⟨g,o,zD,c1,c2⟩:=bm k de;subst zD;obtain ⟨p,hp⟩ : ∃ p,p=(aD r)[k]:=⟨_,rfl⟩;rw [← hp] at c1 c2;have HP:=ab hp;clear hp;have M3:=ai wr (.cells #[.string p.1,.string p.2] 52);have xp:=B.au.new wr #[.string p.1,.string p.2] 52;obtain ⟨_,_,_,t2,t3,t5⟩:=HC.out _ (FM.below M3);have p0:=xp.c0;have p1:=xp.c1;obtain ⟨L2,He⟩ : ∃ L2,L2=(((aD r).take (k+1)).filter (jk key iN)).take lim:=⟨_,rfl⟩;have Vy:Hid (L2=(((aD r).take (k+1)).filter (jk key iN)).take lim∧ir (wr.alloc (.cells #[.string p.1,.string p.2] 52)) w2.heap.size (.slice va vn vc) L1∧Below w2.heap.size w2 (wr.alloc (.cells #[.string p.1,.string p.2] 52))):=⟨He,aF.below M3,Below.next kh M3⟩;obtain ⟨a2,Xk,w4,bq,Em,fW,_⟩:=Dq w2.heap.size (.slice va vn vc) L1 p 52 (wr.alloc (.cells #[.string p.1,.string p.2] 52)) w2 w2.heap.size vn Wk (aF.below M3) (by omega) (by have:=kh.size;simp;omega) (aj _) (Below.next kh M3)
    rw [show (wr.alloc (.cells #[.string p.1,.string p.2] 52)).heap.size=wr.heap.size+1 by simp] at bq
    have sk:=ab bq;have Ng:Hid (L2=(((aD r).take (k+1)).filter (jk key iN)).take lim∧ir w4 w2.heap.size (.slice a2 (vn+1) Xk) (L1++[p])∧Below w2.heap.size w2 w4):=⟨He,Em,fW⟩;clear aF kh FM bm M3 xp bq Em fW;by_cases hm:vn<lim
    ·have hmI:(vn:Int)<n:=by have:=XD.out;omega
     cases hb:cQ p.1 key with
     | true =>
      have aS:Op.bytesLess p.1.toList key.toList=true:=hb;have lP:L2=L1:=by rw [He,kY de,if_neg (fun e=>by rw [← HP.out] at e;unfold jk at e;rw [hb] at e;simp at e),← Cx]
      rw [lP] at Vy;clear He lP Cx Wk;go_wp2;go_roundw
      case rel=>exact ⟨k+1,L1,va,vn,vc,by omega,rfl,by go_num,Vy.out⟩
      case measure=>simp [intOf];omega
     | false =>
      have aS:Op.bytesLess p.1.toList key.toList=false:=hb;by_cases hto:iN=⟨#[]⟩
      ·have hte:=IA hto;have lP:L2=L1++[p]:=by rw [He,kY de,if_pos ⟨sQ.2 (by rw [← Cx];have:=HVN.out;omega),by rw [← HP.out];unfold jk;rw [hb,hto];rfl⟩,← Cx,← HP.out]
       rw [lP] at Ng;clear He lP Vy Cx hto Wk;go_wp2_with (first | (at_builtin;refine kX 63 rfl (.tmp 159) (.tmp 161) rfl rfl _ _ rfl rfl _ _ sk.out ?_))
       clear sk;go_roundw
       case rel=>exact ⟨k+1,L1++[p],a2,vn+1,Xk,by omega,rfl,by go_num,Ng.out⟩
       case measure=>simp [intOf];omega
      ·obtain ⟨e0,e1⟩:=CP hto;cases bQ:cQ p.1 iN with
       | true =>
        have fW:Op.bytesLess p.1.toList iN.toList=true:=bQ;have lP:L2=L1++[p]:=by rw [He,kY de,if_pos ⟨sQ.2 (by rw [← Cx];have:=HVN.out;omega),by rw [← HP.out];unfold jk;rw [hb,bQ];simp⟩,← Cx,← HP.out]
        rw [lP] at Ng;clear He lP Vy Cx hto Wk;go_wp2_with (first | (at_builtin;refine kX 63 rfl (.tmp 159) (.tmp 161) rfl rfl _ _ rfl rfl _ _ sk.out ?_))
        clear sk;go_roundw
        case rel=>exact ⟨k+1,L1++[p],a2,vn+1,Xk,by omega,rfl,by go_num,Ng.out⟩
        case measure=>simp [intOf];omega
       | false =>
        have fW:Op.bytesLess p.1.toList iN.toList=false:=bQ;have lP:L2=L1:=by rw [He,kY de,if_neg (fun e=>by rw [← HP.out] at e;unfold jk at e;rw [hb,bQ] at e;simp [hto] at e),← Cx]
        rw [lP] at Vy;clear He lP Cx Wk;go_wp2;go_roundw
        case rel=>exact ⟨k+1,L1,va,vn,vc,by omega,rfl,by go_num,Vy.out⟩
        case measure=>simp [intOf];omega
    ·have hmI:¬ (vn:Int)<n:=by have:=XD.out;omega
     have lP:L2=L1:=by rw [He,kY de,if_neg (fun e=>by have:=sQ.1 e.1;rw [← Cx] at this;have:=HVN.out;omega),← Cx]
     rw [lP] at Vy;clear He lP Cx Wk;go_wp2;go_roundw
     case rel=>exact ⟨k+1,L1,va,vn,vc,by omega,rfl,by go_num,Vy.out⟩
     case measure=>simp [intOf];omega
   ·have dK:¬ (k:Int)<(wn:Int):=by omega
    have M9:L1=R:=by
     have ht:(aD r).take k=aD r:=al (by have:=Fp.out;omega)
     rw [Cx,Yl.out,ht]
    rw [M9] at aF;have HSA:=ab (wT (.slice ra rm rc) (.slice va vn vc) R wr (by
     have h1:R.length≤(aD r).length:=by
      rw [Yl.out,ag];have:=List.length_filter_le (jk key iN) (aD r);omega
     have:=HN.out;omega) (MI.out.below kh) aF.at)
    have ch:Hid (∀ W,Below wr.heap.size wr W→Os base A w0 W ob db tb fb fg F d r T (.slice wa wn wc) root tx (aD r)∧Fr db tb ob w W):=fun W hW=>⟨(FM.below hW).os,zR.out.trans (Bc.out.trans ((dC kh).trans (dC hW)))⟩
    clear aF kh FM M9 Cx v0 v2 v3 v5 u3 m0 m2 m3 m5 n4;go_wp2_with fail;refine HSA.out.mono ?_
    rintro e w5 ⟨rfl,lH⟩;have Yn:=ab (ch.out w5 lH);clear HSA lH u4;go_wp2;go_ret;exact ⟨rfl,Yn.out⟩
end
end T
end Go.Proofs.YtihmgigfkmofnaaGreatDoor
