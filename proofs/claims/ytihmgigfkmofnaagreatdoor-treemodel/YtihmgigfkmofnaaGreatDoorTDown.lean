import Derived.Test.YtihmgigfkmofnaaGreatDoorG22
set_option maxHeartbeats 4000000
set_option maxRecDepth 100000
open Go.Proofs.Tryz
namespace Go.Proofs.YtihmgigfkmofnaaGreatDoor
namespace T
open Go.RowKit
structure eT(X:Type) where
 b:Nat
 n:SN
 at':Nat
 x:X
def eT.lk{X:Type}(s:eT X):W.Lk:=(s.b,(s.at':Int))
def RE{d:S.V.bq}{X:Type}(S:Sys d X)(w:World)(s:eT X):Prop:=(∃ pv lv cv,dG w s.b s.n pv lv cv)∧S.N w s.n s.x
theorem RE.bU{d:S.V.bq}{X:Type}{S:Sys d X}{w w':World}{s:eT X}(h:RE S w s)(ha:cM w w'):RE S w' s:=by
 obtain ⟨⟨pv,lv,cv,h1⟩,h2⟩:=h;exact ⟨⟨pv,lv,cv,h1.bU ha⟩,S.na ha h2⟩
def Way{d:S.V.bq}{X:Type}(S:Sys d X)(Pk:SN→Nat→Prop)(w:World):X→List (eT X)→X→Prop
 | x,[],y=>x=y
 | x,s::t,y=>s.x=x∧RE S w s∧¬ s.n.us.length=0∧Pk s.n s.at'∧s.at'<s.n.us.length∧∃ z,S.sub x s.at' z∧Way S Pk w z t y
theorem Way.bU{d:S.V.bq}{X:Type}{S:Sys d X}{Pk:SN→Nat→Prop}{w w':World}(ha:cM w w'):∀ {t:List (eT X)} {x y:X},Way S Pk w x t y→Way S Pk w' x t y
 | [],_,_,h=>h
 | _::_,_,_,⟨h1,h2,h3,h4,h5,z,h6,h7⟩=>⟨h1,h2.bU ha,h3,h4,h5,z,h6,Way.bU ha h7⟩
theorem Way.snoc{d:S.V.bq}{X:Type}{S:Sys d X}{Pk:SN→Nat→Prop}{w:World}:∀ {t:List (eT X)} {x y z:X} {s:eT X},Way S Pk w x t y→s.x=y→RE S w s→¬ s.n.us.length=0→Pk s.n s.at'→s.at'<s.n.us.length→S.sub y s.at' z→Way S Pk w x (t++[s]) z
 | [],_,_,z,_,h,g1,g2,g3,g4,g5,g6=>by
  have h:_=_:=h;subst h;exact ⟨g1,g2,g3,g4,g5,z,g6,rfl⟩
 | _::_,_,_,_,_,⟨h1,h2,h3,h4,h5,z,h6,h7⟩,g1,g2,g3,g4,g5,g6=>⟨h1,h2,h3,h4,h5,z,h6,Way.snoc h7 g1 g2 g3 g4 g5 g6⟩
theorem Way.Sj{d:S.V.bq}{X:Type}{S:Sys d X}{Pk:SN→Nat→Prop}{w:World}:∀ {t:List (eT X)} {x y:X},Way S Pk w x t y→S.E∨S.rk y+t.length≤S.rk x
 | [],_,_,h=>by
  have h:_=_:=h;subst h;exact .inr (aj _)
 | s::t,x,_,⟨_,_,_,_,_,z,h6,h7⟩=>by
  rcases S.Xh with h | h
  ·exact .inl h
  ·rcases Way.Sj h7 with g | g
   ·exact .inl g
   ·have:=h x s.at' z h6;right;rw [List.length_cons];omega
def Kept(db:Nat)(v:Value)(w w':World):Prop:=w.heap.size≤w'.heap.size∧∀ k,k<w.heap.size→k≠db→v.ownBlock≠some k→w'.heap[k]?=w.heap[k]?
theorem Kept.mv{db:Nat}{F:Nat→Prop}{v:Value}{w w1 w2:World}(h:Kept db v w w1)(hm:Mv db F w1 w2):Kept db v w w2:=⟨al h.1 hm.size,fun k hk hd hv=>(hm.one.block k (ar hk h.1) hd).trans (h.2 k hk hd hv)⟩
theorem Kept.below{db:Nat}{v:Value}{w w1 w2:World}(h:Kept db v w w1)(hb:Below w1.heap.size w1 w2):Kept db v w w2:=⟨al h.1 hb.size,fun k hk hd hv=>(hb.block k (ar hk h.1)).trans (h.2 k hk hd hv)⟩
theorem Kept.grow{db:Nat}{v vv:Value}{w w1 w2:World}{o:Obj}(h:Kept db v w w1)(sg:∀ g,vv.ownBlock=some g→v.ownBlock=some g∨w.heap.size≤g)(hg:(w1.alloc o).grownBy w2 vv.ownBlock):Kept db v w w2:=by
 have hs:=hg.size;simp at hs
 refine ⟨al h.1 (by omega),fun k hk hd hv=>?_⟩
 have jA:=ar hk h.1;rw [hg.block k (by simp;omega) (fun e=>by
  rcases sg k e.symm with e' | e'
  ·exact hv e'
  ·omega),heap_alloc_old w1 o jA]
 exact h.2 k hk hd hv
def Af:Value→Nat
 | .slice _ n _=>n
 | _=>0
def iu{d:S.V.bq}{X:Type}(S:Sys d X)(Pk:SN→Nat→Prop)(A:Nat→Addr)(pre:List W.Lk)(x:X)(bs:Nat)(e:Ending)(w':World):Prop :=
 (S.E∧e = .returned (.tuple #[.slice none 0 0,.iface 360 (.pointer (some (A 8)))])) ∨
 ∃ (ss:List (eT X)) (s:eT X) (a:Option Addr) (c:Nat),e = .returned (.tuple #[.slice a (pre.length+ss.length+1) c,.nilIface])∧oa w' bs (.slice a (pre.length+ss.length+1) c) (pre++ss.map eT.lk++[s.lk])∧Way S Pk w' x ss s.x∧RE S w' s∧s.n.us.length=0∧s.at'=0∧pre.length+ss.length≤63
theorem He{base:Nat}{A:Nat→Addr}{db:Nat}{F:Nat→Prop}{d:S.V.bq}{X:Type}(S:Sys d X)(Pk:SN→Nat→Prop)(Q:World→Prop)(hQ:∀ W W',cM W W'→Q W→Q W')(pre:List W.Lk)(v:Value)(p:C.Ch)(x:X)(tb:Nat)(rv:Value)(kb:Nat)(w0 w:World)(hk:S.K w p x)(ht:B.ax w tb #[.pointer (some ⟨db,0,none⟩),rv] 100)(hv:Dv base A db F d w)(hm:Mv db F w0 w)(gi:Dv base A db F d w0)(ho:oa w w0.heap.size v pre)(hq:Q w)(gB:pre.length≤64)(iH:S.E∨S.rk x+pre.length+1≤64)(kq:∀ W b n pv lv cv y,Q W→dG W b n pv lv cv→S.N W n y→¬ n.us.length=0→Calls prog 80 #[.agg #[.int .i64 n.f,lv],.pointer (some ⟨kb,0,none⟩)] W fun e w'=>∃ q:Nat,e = .returned (.int .i64 (q:Int))∧Pk n q∧q<n.us.length∧Below W.heap.size W w'):Calls prog 89 #[.pointer (some ⟨tb,0,none⟩),v,p.val,.func (.func 80) #[] #[.pointer (some ⟨kb,0,none⟩)]] w fun e w'=>iu S Pk A pre x w0.heap.size e w'∧Dv base A db F d w'∧Mv db F w0 w'∧Kept db v w w':=by
 obtain ⟨va,vc,jS⟩:=ho.1.form;subst jS;obtain ⟨pt,px,gw⟩:=bz p;obtain ⟨m0,Ld⟩ : ∃ m,m=pre.length:=⟨_,rfl⟩;have yM:=ab Ld;rw [← Ld] at ho gB iH ⊢;have HK:=ab hk;have HT:=ab ht;have HV:=ab hv;have HM:=ab hm;have HO:=ab ho;have HQ:=ab hq;have HL:=ab iH;have HP:=ab kq;have Rb:=ab hQ;have RH:=ab gw;have HDB:=ab gi.BZ;have Fm:=ab gi;have Ia:=ab gB;have G3:∀ (fn:Fn) (first cap:Array Value) (w:World),(Instr.makeFunc fn first cap).run prog w = .ok (.func fn first cap) w:=fun _ _ _ _=>rfl
 rw [gw];clear hk ht hv hm ho hq iH kq hQ gw Ld gi gB;go_enter func89,ntmps89;go_wp2;go_loopw [1,2] (fun vv cc wr=>∃ (ss:List (eT X)) (y:X) (p':C.Ch) (a:Option Addr) (c:Nat),vv = .slice a (m0+ss.length) c∧cc=p'.val∧oa wr w0.heap.size (.slice a (m0+ss.length) c) (pre++ss.map eT.lk)∧Way S Pk wr x ss y∧S.K wr p' y∧m0+ss.length≤64∧Dv base A db F d wr∧Mv db F w0 wr∧B.ax wr tb #[.pointer (some ⟨db,0,none⟩),rv] 100∧Q wr∧Kept db (.slice va m0 vc) w wr∧∀ g,(Value.slice a (m0+ss.length) c).ownBlock=some g→(Value.slice va m0 vc).ownBlock=some g∨w.heap.size≤g) (fun vv _ _=>65 - Af vv)
 case atStart=>exact ⟨[],x,p,va,vc,rfl,RH.out.symm,by simpa using HO.out,rfl,HK.out,Ia.out,HV.out,HM.out,HT.out,HQ.out,⟨aj _,fun _ _ _ _=>rfl⟩,fun g hg=>.inl hg⟩
 case round =>
  obtain ⟨ss,y,p',a,c,rfl,rfl,ho,gA,hk,hlen,hv,hm,ht,hq,G5,sg⟩:=hrel;obtain ⟨L,hL⟩ : ∃ L,L=m0+ss.length:=⟨_,rfl⟩;rw [← hL] at ho hlen sg ⊢;have oc:=ab (lx S p' y tb rv (L+1) wr hk ht hv (by
   rcases gA.Sj with h | h
   ·exact .inl h
   ·rcases HL.out with g | g
    ·exact .inl g
    ·right;omega))
  rw [show ((L+1:Nat):Int)=(L:Int)+1 by omega] at oc
  obtain ⟨pt',px',Ej⟩:=bz p';rw [Ej] at oc ⊢;have nR:=ab ho;have rn:=ab gA;have mQ:=ab hv;have wh:=ab hm;have yK:=ab ht;have rh:=ab hq;have JI:=ab G5;have sI:=ab sg;have iq:=ab hL;have vl:=ab hlen;have XD:(L:Int)≤64:=by omega
  have Wm:(0:Int)≤(L:Int):=by omega
  clear G5 sg ho gA hk hv hm ht hq hL Ej hlen HO HK HV HM HT HQ RH;go_wp2_with fail;refine oc.out.mono ?_
  rintro e w1 ⟨⟨zB,oN⟩,dX,eo⟩;have zN:=eo.bU mQ.out;have iK:=ab (wh.out.trans eo);have sJ:=ab (JI.out.mv eo);have oZ:=ab dX;have im:=ab (nR.out.mv eo HDB.out);have wg:=ab (cG zN yK.out);have qm:=ab (Rb.out _ _ zN rh.out);have FM:=ab (rn.out.bU zN);rcases zB with ⟨hE,rfl⟩ | ⟨b,n,pv,lv,cv,rfl,hs,hn⟩
  ·have bM:Hid (iu S Pk A pre x w0.heap.size (.returned (.tuple #[.slice none 0 0,.iface 360 (.pointer (some (A 8)))])) w1∧Dv base A db F d w1∧Mv db F w0 w1∧Kept db (.slice va m0 vc) w w1):=⟨.inl ⟨hE,rfl⟩,oZ.out,iK.out,sJ.out⟩;unfold nG;clear oN dX eo zN oc nR rn mQ wh yK rh hE;go_wp2;go_ret2;exact bM.out
  ·have P0:L≤63:=by
    rcases a7 64 (L+1) with h | h
    ·have:=oN h;unfold nG at this;simp at this
    ·omega
   have HS:=ab hs;have HN:=ab hn;have mZ:=ab (ch b n pv lv cv w1 hs);clear oN dX eo zN oc nR rn mQ wh yK rh hs hn;by_cases h0:n.us.length=0
   ·rw [show decide (n.us.length=0)=true by simp [h0]] at mZ
    obtain ⟨a',c',w2,bg,gC,hg,aw,-⟩:=im.out.push w0.heap.size _ _ (b,0) w1 (by rw [ae,aA,← yM.out,← iq.out];omega) (iK.out.size)
    rw [show (pre++ss.map eT.lk).length=L by rw [ae,aA,← yM.out,← iq.out]] at bg gC
    have q0:=ai w1 (.cells #[.pointer (some ⟨b,0,none⟩),.int .i64 0] 159);have bM:Hid (iu S Pk A pre x w0.heap.size (.returned (.tuple #[.slice a' (L+1) c',.nilIface])) w2∧Dv base A db F d w2∧Mv db F w0 w2∧Kept db (.slice va m0 vc) w w2):=by
     have lU:Below w0.heap.size w1 w2:=((ai w1 _).mono iK.out.size).grown hg (by simp;exact jf iK.out.size) (fun k hk=>(im.out.1.dn k hk).1)
     obtain ⟨ye,zD⟩:=oZ.out.grown lU iK.out Fm.out;exact ⟨.inr ⟨ss,⟨b,n,0,y⟩,a',c',by rw [← yM.out,← iq.out],by rw [← yM.out,← iq.out];exact gC,(FM.out.bU aw),⟨⟨pv,lv,cv,HS.out.bU aw⟩,S.na aw HN.out⟩,h0,rfl,by rw [← yM.out,← iq.out];exact P0⟩,ye,zD,sJ.out.grow sI.out hg⟩
    clear gC hg aw q0 h0 HS HN FM im;go_wp2_with fail;refine mZ.out.mono ?_
    rintro e w1' ⟨rfl,rfl⟩;have lS:(Builtin.append_ #[101,101] 101 #[.slice a L c,.slice (some ⟨w1.heap.size,0,none⟩) 1 1]).run prog (w1.alloc (.cells #[.pointer (some ⟨b,0,none⟩),.int .i64 0] 159)) = .ok (.slice a' (L+1) c') w2:=bg;clear bg;go_wp2_with (first | (at_builtin;refine wpList_append_run 101 rfl (.tmp 27) (.tmp 30) rfl rfl _ _ rfl rfl _ _ lS ?_))
    go_ret2;exact bM.out
   ·rw [show decide (n.us.length=0)=false by simp [h0]] at mZ
    have JF:=ab (HP.out w1 b n pv lv cv y qm.out HS.out HN.out h0);have p1:=HS.out.c1;have p2:=HS.out.c2;obtain ⟨la,lc,nT⟩:=HS.out.bm.form;subst nT;have H0:=ab h0;clear h0;go_wp2_with fail;refine mZ.out.mono ?_
    rintro e w1' ⟨rfl,rfl⟩;go_wp2_with fail;refine JF.out.mono ?_
    rintro e w2 ⟨q,rfl,vU,xU,aO⟩;have WI:=ab vU;have sR:=cM.of aO;obtain ⟨a',c',w3,bg,jh,hg,aw,pU⟩:=(im.out.below aO).push w0.heap.size _ _ (b,(q:Int)) w2 (by rw [ae,aA,← yM.out,← iq.out];omega) (al iK.out.size aO.size)
    rw [show (pre++ss.map eT.lk).length=L by rw [ae,aA,← yM.out,← iq.out]] at bg jh pU
    have q0:=ai w2 (.cells #[.pointer (some ⟨b,0,none⟩),.int .i64 (q:Int)] 159);have zy:=(HS.out.bU sR).bU aw;have Ps:=S.na aw (S.na sR HN.out);obtain ⟨pc,Cm⟩ : ∃ pc,n.us[q]?=some pc:=⟨_,af xU⟩;obtain ⟨z,lC,UE⟩:=S.pS Ps Cm;have PK:Dv base A db F d w3∧Mv db F w0 w3:=by
     have lU:Below w0.heap.size w1 w3:=(((aO.mono iK.out.size).alloc (al iK.out.size aO.size) _).grown hg (by simp;exact jf (al iK.out.size aO.size)) (fun k hk=>(im.out.1.dn k hk).1))
     obtain ⟨ye,zD⟩:=oZ.out.grown lU iK.out Fm.out;exact ⟨ye,zD⟩
    have zP:Hid (∃ (ss:List (eT X)) (y:X) (p':C.Ch) (a:Option Addr) (c:Nat),(.slice a' (L+1) c':Value) = .slice a (m0+ss.length) c∧pc.val=p'.val∧oa w3 w0.heap.size (.slice a (m0+ss.length) c) (pre++ss.map eT.lk)∧Way S Pk w3 x ss y∧S.K w3 p' y∧m0+ss.length≤64∧Dv base A db F d w3∧Mv db F w0 w3∧B.ax w3 tb #[.pointer (some ⟨db,0,none⟩),rv] 100∧Q w3∧Kept db (.slice va m0 vc) w w3∧∀ g,(Value.slice a (m0+ss.length) c).ownBlock=some g→(Value.slice va m0 vc).ownBlock=some g∨w.heap.size≤g):=by
     have e1:m0+(ss++[(⟨b,n,q,y⟩ : eT X)]).length=L+1:=by rw [ae,iq.out];rfl
     refine ⟨ss++[⟨b,n,q,y⟩],z,pc,a',c',by rw [e1],rfl,?_,((FM.out.bU sR).bU aw).snoc rfl ⟨⟨_,_,_,zy⟩,Ps⟩ H0.out WI.out xU lC,UE,by rw [e1];omega,PK.1,PK.2,cG aw (cG sR wg.out),Rb.out _ _ aw (Rb.out _ _ sR qm.out),(sJ.out.below aO).grow sI.out hg,fun gg Rw=>by
      rw [e1] at Rw;rcases pU gg Rw with h | h
      ·exact sI.out gg h
      ·exact .inr (al sJ.out.1 (al aO.size h))⟩
     rw [e1,bn,← ay];exact jh
    have p3:=zy.c3;obtain ⟨ca,cc,qO,-,-,aX⟩:=zy.kids;rw [C.aR,Nat.mul_one] at qO;subst qO;obtain ⟨g,o,rfl,cq⟩:=aX q pc.val (by unfold C.bm;rw [aL,Cm];rfl)
    obtain ⟨zt,zx,Uo⟩:=bz pc;rw [Uo] at cq zP;have lS:(Builtin.append_ #[101,101] 101 #[.slice a L c,.slice (some ⟨w2.heap.size,0,none⟩) 1 1]).run prog (w2.alloc (.cells #[.pointer (some ⟨b,0,none⟩),.int .i64 (q:Int)] 159)) = .ok (.slice a' (L+1) c') w3:=bg;have Jg:(q:Int)<(n.us.length:Int):=by omega
    have Lb:(0:Int)≤(q:Int):=by omega
    clear pU bg jh hg aw q0 zy Ps Cm lC UE PK aX Uo aO sR vU xU JF mZ FM im HS HN p1 p2;go_wp2_with (first | (at_builtin;refine wpList_append_run 101 rfl (.tmp 38) (.tmp 42) rfl rfl _ _ rfl rfl _ _ lS ?_))
    go_roundw
    case rel=>exact zP.out
    case measure=>simp [Af];omega
theorem BU{base:Nat}{A:Nat→Addr}{db:Nat}{F:Nat→Prop}{d:S.V.bq}{X:Type}(S:Sys d X)(Pk:SN→Nat→Prop)(Q:World→Prop)(hQ:∀ W W',cM W W'→Q W→Q W')(pre:List W.Lk)(v:Value)(p:C.Ch)(x:X)(tb:Nat)(rv:Value)(w0 w:World)(hk:S.K w p x)(ht:B.ax w tb #[.pointer (some ⟨db,0,none⟩),rv] 100)(hv:Dv base A db F d w)(hm:Mv db F w0 w)(gi:Dv base A db F d w0)(ho:oa w w0.heap.size v pre)(hq:Q w)(gB:pre.length≤64)(iH:S.E∨S.rk x+pre.length+1≤64)(kq:∀ W b n pv lv cv y,Q W→dG W b n pv lv cv→S.N W n y→¬ n.us.length=0→Calls prog 57 #[.agg #[.int .i64 n.f,lv]] W fun e w'=>∃ q:Nat,e = .returned (.int .i64 (q:Int))∧Pk n q∧q<n.us.length∧Below W.heap.size W w'):Calls prog 89 #[.pointer (some ⟨tb,0,none⟩),v,p.val,.func (.func 57) #[] #[]] w fun e w'=>iu S Pk A pre x w0.heap.size e w'∧Dv base A db F d w'∧Mv db F w0 w'∧Kept db v w w':=by
 obtain ⟨va,vc,jS⟩:=ho.1.form;subst jS;obtain ⟨pt,px,gw⟩:=bz p;obtain ⟨m0,Ld⟩ : ∃ m,m=pre.length:=⟨_,rfl⟩;have yM:=ab Ld;rw [← Ld] at ho gB iH ⊢;have HK:=ab hk;have HT:=ab ht;have HV:=ab hv;have HM:=ab hm;have HO:=ab ho;have HQ:=ab hq;have HL:=ab iH;have HP:=ab kq;have Rb:=ab hQ;have RH:=ab gw;have HDB:=ab gi.BZ;have Fm:=ab gi;have Ia:=ab gB;have G3:∀ (fn:Fn) (first cap:Array Value) (w:World),(Instr.makeFunc fn first cap).run prog w = .ok (.func fn first cap) w:=fun _ _ _ _=>rfl
 rw [gw];clear hk ht hv hm ho hq iH kq hQ gw Ld gi gB;go_enter func89,ntmps89;go_wp2;go_loopw [1,2] (fun vv cc wr=>∃ (ss:List (eT X)) (y:X) (p':C.Ch) (a:Option Addr) (c:Nat),vv = .slice a (m0+ss.length) c∧cc=p'.val∧oa wr w0.heap.size (.slice a (m0+ss.length) c) (pre++ss.map eT.lk)∧Way S Pk wr x ss y∧S.K wr p' y∧m0+ss.length≤64∧Dv base A db F d wr∧Mv db F w0 wr∧B.ax wr tb #[.pointer (some ⟨db,0,none⟩),rv] 100∧Q wr∧Kept db (.slice va m0 vc) w wr∧∀ g,(Value.slice a (m0+ss.length) c).ownBlock=some g→(Value.slice va m0 vc).ownBlock=some g∨w.heap.size≤g) (fun vv _ _=>65 - Af vv)
 case atStart=>exact ⟨[],x,p,va,vc,rfl,RH.out.symm,by simpa using HO.out,rfl,HK.out,Ia.out,HV.out,HM.out,HT.out,HQ.out,⟨aj _,fun _ _ _ _=>rfl⟩,fun g hg=>.inl hg⟩
 case round =>
  obtain ⟨ss,y,p',a,c,rfl,rfl,ho,gA,hk,hlen,hv,hm,ht,hq,G5,sg⟩:=hrel;obtain ⟨L,hL⟩ : ∃ L,L=m0+ss.length:=⟨_,rfl⟩;rw [← hL] at ho hlen sg ⊢;have oc:=ab (lx S p' y tb rv (L+1) wr hk ht hv (by
   rcases gA.Sj with h | h
   ·exact .inl h
   ·rcases HL.out with g | g
    ·exact .inl g
    ·right;omega))
  rw [show ((L+1:Nat):Int)=(L:Int)+1 by omega] at oc
  obtain ⟨pt',px',Ej⟩:=bz p';rw [Ej] at oc ⊢;have nR:=ab ho;have rn:=ab gA;have mQ:=ab hv;have wh:=ab hm;have yK:=ab ht;have rh:=ab hq;have JI:=ab G5;have sI:=ab sg;have iq:=ab hL;have vl:=ab hlen;have XD:(L:Int)≤64:=by omega
  have Wm:(0:Int)≤(L:Int):=by omega
  clear G5 sg ho gA hk hv hm ht hq hL Ej hlen HO HK HV HM HT HQ RH;go_wp2_with fail;refine oc.out.mono ?_
  rintro e w1 ⟨⟨zB,oN⟩,dX,eo⟩;have zN:=eo.bU mQ.out;have iK:=ab (wh.out.trans eo);have sJ:=ab (JI.out.mv eo);have oZ:=ab dX;have im:=ab (nR.out.mv eo HDB.out);have wg:=ab (cG zN yK.out);have qm:=ab (Rb.out _ _ zN rh.out);have FM:=ab (rn.out.bU zN);rcases zB with ⟨hE,rfl⟩ | ⟨b,n,pv,lv,cv,rfl,hs,hn⟩
  ·have bM:Hid (iu S Pk A pre x w0.heap.size (.returned (.tuple #[.slice none 0 0,.iface 360 (.pointer (some (A 8)))])) w1∧Dv base A db F d w1∧Mv db F w0 w1∧Kept db (.slice va m0 vc) w w1):=⟨.inl ⟨hE,rfl⟩,oZ.out,iK.out,sJ.out⟩;unfold nG;clear oN dX eo zN oc nR rn mQ wh yK rh hE;go_wp2;go_ret2;exact bM.out
  ·have P0:L≤63:=by
    rcases a7 64 (L+1) with h | h
    ·have:=oN h;unfold nG at this;simp at this
    ·omega
   have HS:=ab hs;have HN:=ab hn;have mZ:=ab (ch b n pv lv cv w1 hs);clear oN dX eo zN oc nR rn mQ wh yK rh hs hn;by_cases h0:n.us.length=0
   ·rw [show decide (n.us.length=0)=true by simp [h0]] at mZ
    obtain ⟨a',c',w2,bg,gC,hg,aw,-⟩:=im.out.push w0.heap.size _ _ (b,0) w1 (by rw [ae,aA,← yM.out,← iq.out];omega) (iK.out.size)
    rw [show (pre++ss.map eT.lk).length=L by rw [ae,aA,← yM.out,← iq.out]] at bg gC
    have q0:=ai w1 (.cells #[.pointer (some ⟨b,0,none⟩),.int .i64 0] 159);have bM:Hid (iu S Pk A pre x w0.heap.size (.returned (.tuple #[.slice a' (L+1) c',.nilIface])) w2∧Dv base A db F d w2∧Mv db F w0 w2∧Kept db (.slice va m0 vc) w w2):=by
     have lU:Below w0.heap.size w1 w2:=((ai w1 _).mono iK.out.size).grown hg (by simp;exact jf iK.out.size) (fun k hk=>(im.out.1.dn k hk).1)
     obtain ⟨ye,zD⟩:=oZ.out.grown lU iK.out Fm.out;exact ⟨.inr ⟨ss,⟨b,n,0,y⟩,a',c',by rw [← yM.out,← iq.out],by rw [← yM.out,← iq.out];exact gC,(FM.out.bU aw),⟨⟨pv,lv,cv,HS.out.bU aw⟩,S.na aw HN.out⟩,h0,rfl,by rw [← yM.out,← iq.out];exact P0⟩,ye,zD,sJ.out.grow sI.out hg⟩
    clear gC hg aw q0 h0 HS HN FM im;go_wp2_with fail;refine mZ.out.mono ?_
    rintro e w1' ⟨rfl,rfl⟩;have lS:(Builtin.append_ #[101,101] 101 #[.slice a L c,.slice (some ⟨w1.heap.size,0,none⟩) 1 1]).run prog (w1.alloc (.cells #[.pointer (some ⟨b,0,none⟩),.int .i64 0] 159)) = .ok (.slice a' (L+1) c') w2:=bg;clear bg;go_wp2_with (first | (at_builtin;refine wpList_append_run 101 rfl (.tmp 27) (.tmp 30) rfl rfl _ _ rfl rfl _ _ lS ?_))
    go_ret2;exact bM.out
   ·rw [show decide (n.us.length=0)=false by simp [h0]] at mZ
    have JF:=ab (HP.out w1 b n pv lv cv y qm.out HS.out HN.out h0);have p1:=HS.out.c1;have p2:=HS.out.c2;obtain ⟨la,lc,nT⟩:=HS.out.bm.form;subst nT;have H0:=ab h0;clear h0;go_wp2_with fail;refine mZ.out.mono ?_
    rintro e w1' ⟨rfl,rfl⟩;go_wp2_with fail;refine JF.out.mono ?_
    rintro e w2 ⟨q,rfl,vU,xU,aO⟩;have WI:=ab vU;have sR:=cM.of aO;obtain ⟨a',c',w3,bg,jh,hg,aw,pU⟩:=(im.out.below aO).push w0.heap.size _ _ (b,(q:Int)) w2 (by rw [ae,aA,← yM.out,← iq.out];omega) (al iK.out.size aO.size)
    rw [show (pre++ss.map eT.lk).length=L by rw [ae,aA,← yM.out,← iq.out]] at bg jh pU
    have q0:=ai w2 (.cells #[.pointer (some ⟨b,0,none⟩),.int .i64 (q:Int)] 159);have zy:=(HS.out.bU sR).bU aw;have Ps:=S.na aw (S.na sR HN.out);obtain ⟨pc,Cm⟩ : ∃ pc,n.us[q]?=some pc:=⟨_,af xU⟩;obtain ⟨z,lC,UE⟩:=S.pS Ps Cm;have PK:Dv base A db F d w3∧Mv db F w0 w3:=by
     have lU:Below w0.heap.size w1 w3:=(((aO.mono iK.out.size).alloc (al iK.out.size aO.size) _).grown hg (by simp;exact jf (al iK.out.size aO.size)) (fun k hk=>(im.out.1.dn k hk).1))
     obtain ⟨ye,zD⟩:=oZ.out.grown lU iK.out Fm.out;exact ⟨ye,zD⟩
    have zP:Hid (∃ (ss:List (eT X)) (y:X) (p':C.Ch) (a:Option Addr) (c:Nat),(.slice a' (L+1) c':Value) = .slice a (m0+ss.length) c∧pc.val=p'.val∧oa w3 w0.heap.size (.slice a (m0+ss.length) c) (pre++ss.map eT.lk)∧Way S Pk w3 x ss y∧S.K w3 p' y∧m0+ss.length≤64∧Dv base A db F d w3∧Mv db F w0 w3∧B.ax w3 tb #[.pointer (some ⟨db,0,none⟩),rv] 100∧Q w3∧Kept db (.slice va m0 vc) w w3∧∀ g,(Value.slice a (m0+ss.length) c).ownBlock=some g→(Value.slice va m0 vc).ownBlock=some g∨w.heap.size≤g):=by
     have e1:m0+(ss++[(⟨b,n,q,y⟩ : eT X)]).length=L+1:=by rw [ae,iq.out];rfl
     refine ⟨ss++[⟨b,n,q,y⟩],z,pc,a',c',by rw [e1],rfl,?_,((FM.out.bU sR).bU aw).snoc rfl ⟨⟨_,_,_,zy⟩,Ps⟩ H0.out WI.out xU lC,UE,by rw [e1];omega,PK.1,PK.2,cG aw (cG sR wg.out),Rb.out _ _ aw (Rb.out _ _ sR qm.out),(sJ.out.below aO).grow sI.out hg,fun gg Rw=>by
      rw [e1] at Rw;rcases pU gg Rw with h | h
      ·exact sI.out gg h
      ·exact .inr (al sJ.out.1 (al aO.size h))⟩
     rw [e1,bn,← ay];exact jh
    have p3:=zy.c3;obtain ⟨ca,cc,qO,-,-,aX⟩:=zy.kids;rw [C.aR,Nat.mul_one] at qO;subst qO;obtain ⟨g,o,rfl,cq⟩:=aX q pc.val (by unfold C.bm;rw [aL,Cm];rfl)
    obtain ⟨zt,zx,Uo⟩:=bz pc;rw [Uo] at cq zP;have lS:(Builtin.append_ #[101,101] 101 #[.slice a L c,.slice (some ⟨w2.heap.size,0,none⟩) 1 1]).run prog (w2.alloc (.cells #[.pointer (some ⟨b,0,none⟩),.int .i64 (q:Int)] 159)) = .ok (.slice a' (L+1) c') w3:=bg;have Jg:(q:Int)<(n.us.length:Int):=by omega
    have Lb:(0:Int)≤(q:Int):=by omega
    clear pU bg jh hg aw q0 zy Ps Cm lC UE PK aX Uo aO sR vU xU JF mZ FM im HS HN p1 p2;go_wp2_with (first | (at_builtin;refine wpList_append_run 101 rfl (.tmp 38) (.tmp 42) rfl rfl _ _ rfl rfl _ _ lS ?_))
    go_roundw
    case rel=>exact zP.out
    case measure=>simp [Af];omega
theorem uN{base:Nat}{A:Nat→Addr}{db:Nat}{F:Nat→Prop}{d:S.V.bq}{X:Type}(S:Sys d X)(Pk:SN→Nat→Prop)(Q:World→Prop)(hQ:∀ W W',cM W W'→Q W→Q W')(pre:List W.Lk)(v:Value)(p:C.Ch)(x:X)(tb:Nat)(rv:Value)(w0 w:World)(hk:S.K w p x)(ht:B.ax w tb #[.pointer (some ⟨db,0,none⟩),rv] 100)(hv:Dv base A db F d w)(hm:Mv db F w0 w)(gi:Dv base A db F d w0)(ho:oa w w0.heap.size v pre)(hq:Q w)(gB:pre.length≤64)(iH:S.E∨S.rk x+pre.length+1≤64)(kq:∀ W b n pv lv cv y,Q W→dG W b n pv lv cv→S.N W n y→¬ n.us.length=0→Calls prog 55 #[.agg #[.int .i64 n.f,lv]] W fun e w'=>∃ q:Nat,e = .returned (.int .i64 (q:Int))∧Pk n q∧q<n.us.length∧Below W.heap.size W w'):Calls prog 89 #[.pointer (some ⟨tb,0,none⟩),v,p.val,.func (.func 55) #[] #[]] w fun e w'=>iu S Pk A pre x w0.heap.size e w'∧Dv base A db F d w'∧Mv db F w0 w'∧Kept db v w w':=by
 obtain ⟨va,vc,jS⟩:=ho.1.form;subst jS;obtain ⟨pt,px,gw⟩:=bz p;obtain ⟨m0,Ld⟩ : ∃ m,m=pre.length:=⟨_,rfl⟩;have yM:=ab Ld;rw [← Ld] at ho gB iH ⊢;have HK:=ab hk;have HT:=ab ht;have HV:=ab hv;have HM:=ab hm;have HO:=ab ho;have HQ:=ab hq;have HL:=ab iH;have HP:=ab kq;have Rb:=ab hQ;have RH:=ab gw;have HDB:=ab gi.BZ;have Fm:=ab gi;have Ia:=ab gB;have G3:∀ (fn:Fn) (first cap:Array Value) (w:World),(Instr.makeFunc fn first cap).run prog w = .ok (.func fn first cap) w:=fun _ _ _ _=>rfl
 rw [gw];clear hk ht hv hm ho hq iH kq hQ gw Ld gi gB;go_enter func89,ntmps89;go_wp2;go_loopw [1,2] (fun vv cc wr=>∃ (ss:List (eT X)) (y:X) (p':C.Ch) (a:Option Addr) (c:Nat),vv = .slice a (m0+ss.length) c∧cc=p'.val∧oa wr w0.heap.size (.slice a (m0+ss.length) c) (pre++ss.map eT.lk)∧Way S Pk wr x ss y∧S.K wr p' y∧m0+ss.length≤64∧Dv base A db F d wr∧Mv db F w0 wr∧B.ax wr tb #[.pointer (some ⟨db,0,none⟩),rv] 100∧Q wr∧Kept db (.slice va m0 vc) w wr∧∀ g,(Value.slice a (m0+ss.length) c).ownBlock=some g→(Value.slice va m0 vc).ownBlock=some g∨w.heap.size≤g) (fun vv _ _=>65 - Af vv)
 case atStart=>exact ⟨[],x,p,va,vc,rfl,RH.out.symm,by simpa using HO.out,rfl,HK.out,Ia.out,HV.out,HM.out,HT.out,HQ.out,⟨aj _,fun _ _ _ _=>rfl⟩,fun g hg=>.inl hg⟩
 case round =>
  obtain ⟨ss,y,p',a,c,rfl,rfl,ho,gA,hk,hlen,hv,hm,ht,hq,G5,sg⟩:=hrel;obtain ⟨L,hL⟩ : ∃ L,L=m0+ss.length:=⟨_,rfl⟩;rw [← hL] at ho hlen sg ⊢;have oc:=ab (lx S p' y tb rv (L+1) wr hk ht hv (by
   rcases gA.Sj with h | h
   ·exact .inl h
   ·rcases HL.out with g | g
    ·exact .inl g
    ·right;omega))
  rw [show ((L+1:Nat):Int)=(L:Int)+1 by omega] at oc
  obtain ⟨pt',px',Ej⟩:=bz p';rw [Ej] at oc ⊢;have nR:=ab ho;have rn:=ab gA;have mQ:=ab hv;have wh:=ab hm;have yK:=ab ht;have rh:=ab hq;have JI:=ab G5;have sI:=ab sg;have iq:=ab hL;have vl:=ab hlen;have XD:(L:Int)≤64:=by omega
  have Wm:(0:Int)≤(L:Int):=by omega
  clear G5 sg ho gA hk hv hm ht hq hL Ej hlen HO HK HV HM HT HQ RH;go_wp2_with fail;refine oc.out.mono ?_
  rintro e w1 ⟨⟨zB,oN⟩,dX,eo⟩;have zN:=eo.bU mQ.out;have iK:=ab (wh.out.trans eo);have sJ:=ab (JI.out.mv eo);have oZ:=ab dX;have im:=ab (nR.out.mv eo HDB.out);have wg:=ab (cG zN yK.out);have qm:=ab (Rb.out _ _ zN rh.out);have FM:=ab (rn.out.bU zN);rcases zB with ⟨hE,rfl⟩ | ⟨b,n,pv,lv,cv,rfl,hs,hn⟩
  ·have bM:Hid (iu S Pk A pre x w0.heap.size (.returned (.tuple #[.slice none 0 0,.iface 360 (.pointer (some (A 8)))])) w1∧Dv base A db F d w1∧Mv db F w0 w1∧Kept db (.slice va m0 vc) w w1):=⟨.inl ⟨hE,rfl⟩,oZ.out,iK.out,sJ.out⟩;unfold nG;clear oN dX eo zN oc nR rn mQ wh yK rh hE;go_wp2;go_ret2;exact bM.out
  ·have P0:L≤63:=by
    rcases a7 64 (L+1) with h | h
    ·have:=oN h;unfold nG at this;simp at this
    ·omega
   have HS:=ab hs;have HN:=ab hn;have mZ:=ab (ch b n pv lv cv w1 hs);clear oN dX eo zN oc nR rn mQ wh yK rh hs hn;by_cases h0:n.us.length=0
   ·rw [show decide (n.us.length=0)=true by simp [h0]] at mZ
    obtain ⟨a',c',w2,bg,gC,hg,aw,-⟩:=im.out.push w0.heap.size _ _ (b,0) w1 (by rw [ae,aA,← yM.out,← iq.out];omega) (iK.out.size)
    rw [show (pre++ss.map eT.lk).length=L by rw [ae,aA,← yM.out,← iq.out]] at bg gC
    have q0:=ai w1 (.cells #[.pointer (some ⟨b,0,none⟩),.int .i64 0] 159);have bM:Hid (iu S Pk A pre x w0.heap.size (.returned (.tuple #[.slice a' (L+1) c',.nilIface])) w2∧Dv base A db F d w2∧Mv db F w0 w2∧Kept db (.slice va m0 vc) w w2):=by
     have lU:Below w0.heap.size w1 w2:=((ai w1 _).mono iK.out.size).grown hg (by simp;exact jf iK.out.size) (fun k hk=>(im.out.1.dn k hk).1)
     obtain ⟨ye,zD⟩:=oZ.out.grown lU iK.out Fm.out;exact ⟨.inr ⟨ss,⟨b,n,0,y⟩,a',c',by rw [← yM.out,← iq.out],by rw [← yM.out,← iq.out];exact gC,(FM.out.bU aw),⟨⟨pv,lv,cv,HS.out.bU aw⟩,S.na aw HN.out⟩,h0,rfl,by rw [← yM.out,← iq.out];exact P0⟩,ye,zD,sJ.out.grow sI.out hg⟩
    clear gC hg aw q0 h0 HS HN FM im;go_wp2_with fail;refine mZ.out.mono ?_
    rintro e w1' ⟨rfl,rfl⟩;have lS:(Builtin.append_ #[101,101] 101 #[.slice a L c,.slice (some ⟨w1.heap.size,0,none⟩) 1 1]).run prog (w1.alloc (.cells #[.pointer (some ⟨b,0,none⟩),.int .i64 0] 159)) = .ok (.slice a' (L+1) c') w2:=bg;clear bg;go_wp2_with (first | (at_builtin;refine wpList_append_run 101 rfl (.tmp 27) (.tmp 30) rfl rfl _ _ rfl rfl _ _ lS ?_))
    go_ret2;exact bM.out
   ·rw [show decide (n.us.length=0)=false by simp [h0]] at mZ
    have JF:=ab (HP.out w1 b n pv lv cv y qm.out HS.out HN.out h0);have p1:=HS.out.c1;have p2:=HS.out.c2;obtain ⟨la,lc,nT⟩:=HS.out.bm.form;subst nT;have H0:=ab h0;clear h0;go_wp2_with fail;refine mZ.out.mono ?_
    rintro e w1' ⟨rfl,rfl⟩;go_wp2_with fail;refine JF.out.mono ?_
    rintro e w2 ⟨q,rfl,vU,xU,aO⟩;have WI:=ab vU;have sR:=cM.of aO;obtain ⟨a',c',w3,bg,jh,hg,aw,pU⟩:=(im.out.below aO).push w0.heap.size _ _ (b,(q:Int)) w2 (by rw [ae,aA,← yM.out,← iq.out];omega) (al iK.out.size aO.size)
    rw [show (pre++ss.map eT.lk).length=L by rw [ae,aA,← yM.out,← iq.out]] at bg jh pU
    have q0:=ai w2 (.cells #[.pointer (some ⟨b,0,none⟩),.int .i64 (q:Int)] 159);have zy:=(HS.out.bU sR).bU aw;have Ps:=S.na aw (S.na sR HN.out);obtain ⟨pc,Cm⟩ : ∃ pc,n.us[q]?=some pc:=⟨_,af xU⟩;obtain ⟨z,lC,UE⟩:=S.pS Ps Cm;have PK:Dv base A db F d w3∧Mv db F w0 w3:=by
     have lU:Below w0.heap.size w1 w3:=(((aO.mono iK.out.size).alloc (al iK.out.size aO.size) _).grown hg (by simp;exact jf (al iK.out.size aO.size)) (fun k hk=>(im.out.1.dn k hk).1))
     obtain ⟨ye,zD⟩:=oZ.out.grown lU iK.out Fm.out;exact ⟨ye,zD⟩
    have zP:Hid (∃ (ss:List (eT X)) (y:X) (p':C.Ch) (a:Option Addr) (c:Nat),(.slice a' (L+1) c':Value) = .slice a (m0+ss.length) c∧pc.val=p'.val∧oa w3 w0.heap.size (.slice a (m0+ss.length) c) (pre++ss.map eT.lk)∧Way S Pk w3 x ss y∧S.K w3 p' y∧m0+ss.length≤64∧Dv base A db F d w3∧Mv db F w0 w3∧B.ax w3 tb #[.pointer (some ⟨db,0,none⟩),rv] 100∧Q w3∧Kept db (.slice va m0 vc) w w3∧∀ g,(Value.slice a (m0+ss.length) c).ownBlock=some g→(Value.slice va m0 vc).ownBlock=some g∨w.heap.size≤g):=by
     have e1:m0+(ss++[(⟨b,n,q,y⟩ : eT X)]).length=L+1:=by rw [ae,iq.out];rfl
     refine ⟨ss++[⟨b,n,q,y⟩],z,pc,a',c',by rw [e1],rfl,?_,((FM.out.bU sR).bU aw).snoc rfl ⟨⟨_,_,_,zy⟩,Ps⟩ H0.out WI.out xU lC,UE,by rw [e1];omega,PK.1,PK.2,cG aw (cG sR wg.out),Rb.out _ _ aw (Rb.out _ _ sR qm.out),(sJ.out.below aO).grow sI.out hg,fun gg Rw=>by
      rw [e1] at Rw;rcases pU gg Rw with h | h
      ·exact sI.out gg h
      ·exact .inr (al sJ.out.1 (al aO.size h))⟩
     rw [e1,bn,← ay];exact jh
    have p3:=zy.c3;obtain ⟨ca,cc,qO,-,-,aX⟩:=zy.kids;rw [C.aR,Nat.mul_one] at qO;subst qO;obtain ⟨g,o,rfl,cq⟩:=aX q pc.val (by unfold C.bm;rw [aL,Cm];rfl)
    obtain ⟨zt,zx,Uo⟩:=bz pc;rw [Uo] at cq zP;have lS:(Builtin.append_ #[101,101] 101 #[.slice a L c,.slice (some ⟨w2.heap.size,0,none⟩) 1 1]).run prog (w2.alloc (.cells #[.pointer (some ⟨b,0,none⟩),.int .i64 (q:Int)] 159)) = .ok (.slice a' (L+1) c') w3:=bg;have Jg:(q:Int)<(n.us.length:Int):=by omega
    have Lb:(0:Int)≤(q:Int):=by omega
    clear pU bg jh hg aw q0 zy Ps Cm lC UE PK aX Uo aO sR vU xU JF mZ FM im HS HN p1 p2;go_wp2_with (first | (at_builtin;refine wpList_append_run 101 rfl (.tmp 38) (.tmp 42) rfl rfl _ _ rfl rfl _ _ lS ?_))
    go_roundw
    case rel=>exact zP.out
    case measure=>simp [Af];omega
end T
end Go.Proofs.YtihmgigfkmofnaaGreatDoor
