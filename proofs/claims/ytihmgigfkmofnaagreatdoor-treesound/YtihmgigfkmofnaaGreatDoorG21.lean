import Derived.Test.YtihmgigfkmofnaaGreatDoorG20
set_option maxHeartbeats 8000000
set_option maxRecDepth 100000
open Go.Proofs.Tryz
namespace Go.Proofs.YtihmgigfkmofnaaGreatDoor
namespace T
open Go.RowKit
variable {d:S.V.bE} {X:Type} {db:Nat} {F:Nat→Prop} {base:Nat} {A:Nat→Addr}
def Fit(n:SN):Prop:=n.zP∧n.sz≤4072∧(n.us.length=0∨1≤n.lk.length)
structure Sys(d:S.V.bE)(X:Type) where
 K:World→C.Ch→X→Prop
 N:World→SN→X→Prop
 E:Prop
 sub:X→Nat→X→Prop
 rk:X→Nat
 ka:∀ {w w':World} {p:C.Ch} {x:X},df w w'→K w p x→K w' p x
 na:∀ {w w':World} {n:SN} {x:X},df w w'→N w n x→N w' n x
 qi:∀ {w:World} {n:SN} {x:X} {i:Nat} {p:C.Ch},N w n x→n.us[i]?=some p→∃ y,sub x i y∧K w p y
 fit:∀ {w:World} {n:SN} {x:X},N w n x→Fit n
 gX:∀ {w:World} {id:Int} {x:X},K w (.pg id) x→(cF d id=none∧E)∨∃ p,cF d id=some p∧∀ w',N w' p.sn x
 node:∀ {w:World} {b:Nat} {x:X},K w (.nd b) x→∃ n pv lv cv,dP w b n pv lv cv∧N w n x
 Z0:E∨∀ x i y,sub x i y→rk y+1≤rk x
def ri(A:Nat→Addr):Ending:=.returned (.tuple #[.pointer none,.iface 360 (.pointer (some (A 8)))])
def lU(S:Sys d X)(A:Nat→Addr)(x:X)(e:Ending)(w':World):Prop :=
 (S.E∧e=ri A)∨∃ b n pv lv cv,e = .returned (.tuple #[.pointer (some ⟨b,0,none⟩),.nilIface])∧dP w' b n pv lv cv∧S.N w' n x
theorem pC(S:Sys d X)(p:C.Ch)(x:X)(tb:Nat)(rv:Value)(w:World)(hk:S.K w p x)(ht:B.au w tb #[.pointer (some ⟨db,0,none⟩),rv] 100)(hv:Dv base A db F d w):Calls prog 104 #[.pointer (some ⟨tb,0,none⟩),p.val] w fun e w'=>lU S A x e w'∧Dv base A db F d w'∧Mv db F w w':=by
 cases p with
 | pg id =>
  have HL:=ab (Ly base A db F d id w hv);have HK:=ab (S.gX hk);have c0:=ht.c0;have a1:=fun W=>RS (.int .i64 id) W
  clear hk ht hv;show Calls prog 104 #[.pointer (some ⟨tb,0,none⟩),.iface 146 (.int .i64 id)] w fun e w'=>lU S A x e w'∧Dv base A db F d w'∧Mv db F w w'
  go_enter func104,ntmps104;go_wp2_with fail;refine HL.out.mono ?_
  rintro e w1 ⟨hr,h1,h2⟩;have EI:lU S A x e w1:=by
   rcases hr with ⟨g1,g2⟩ | ⟨q,b,pv,lv,cv,g1,g2,g3⟩
   ·rcases HK.out with ⟨_,k2⟩ | ⟨q,k1,_⟩
    ·exact .inl ⟨k2,g2⟩
    ·rw [g1] at k1;cases k1
   ·rcases HK.out with ⟨k1,_⟩ | ⟨q',k1,k2⟩
    ·rw [g1] at k1;cases k1
    ·rw [g1] at k1;cases k1;exact .inr ⟨b,q.sn,pv,lv,cv,g2,g3,k2 w1⟩
  obtain ⟨pp,vv,he,-,A2⟩:=hr.form;subst he;have HR:Hid (lU S A x (.returned (.tuple #[.pointer pp,vv])) w1∧Dv base A db F d w1∧Mv db F w w1):=⟨EI,h1,h2⟩;clear hr EI h1 h2 HL c0 HK;rcases A2 with rfl | rfl
  ·go_wp2;go_ret2;exact HR.out
  ·go_wp2;go_ret2;exact HR.out
 | nd b =>
  obtain ⟨n,pv,lv,cv,hs,hn⟩:=S.node hk;have HR:Hid (lU S A x (.returned (.tuple #[.pointer (some ⟨b,0,none⟩),.nilIface])) w∧Dv base A db F d w∧Mv db F w w):=⟨.inr ⟨b,n,pv,lv,cv,rfl,hs,hn⟩,hv,Mv.refl _ _ _⟩;clear hs hn ht hv hk;have a1:=fun W=>Km (.pointer (some ⟨b,0,none⟩)) W
  have a2:=fun W=>RT (.pointer (some ⟨b,0,none⟩)) W
  show Calls prog 104 #[.pointer (some ⟨tb,0,none⟩),.iface 152 (.pointer (some ⟨b,0,none⟩))] w fun e w'=>lU S A x e w'∧Dv base A db F d w'∧Mv db F w w'
  go_enter func104,ntmps104;go_wp2;go_ret2;exact HR.out
theorem lU.form{d:S.V.bE}{S:Sys d X}{x:X}{e:Ending}{w':World}(h:lU S A x e w'):∃ p v,e = .returned (.tuple #[.pointer p,v])∧(v = .nilIface∨v = .iface 360 (.pointer (some (A 8)))):=by
 rcases h with ⟨_,rfl⟩ | ⟨b,n,pv,lv,cv,rfl,_⟩
 ·exact ⟨_,_,rfl,.inr rfl⟩
 ·exact ⟨_,_,rfl,.inl rfl⟩
theorem qE(S:Sys d X)(p:C.Ch)(x:X)(tb:Nat)(rv:Value)(dp:Nat)(w:World)(hk:S.K w p x)(ht:B.au w tb #[.pointer (some ⟨db,0,none⟩),rv] 100)(hv:Dv base A db F d w)(nQ:S.E∨dp≤64):Calls prog 92 #[.pointer (some ⟨tb,0,none⟩),p.val,.int .i64 (dp:Int)] w fun e w'=>(lU S A x e w'∧(64<dp→e=ri A))∧Dv base A db F d w'∧Mv db F w w':=by
 obtain ⟨pt,px,ir⟩:=bU p;by_cases Gh:64<dp
 ·have hE:S.E:=nQ.resolve_right (by omega)
  have hle:(64:Int)<(dp:Int):=by omega
  have g8:w.cell? ⟨8,0,none⟩=some (.iface 360 (.pointer (some (A 8)))):=hv.g 8 (by decide)
  have HR:Hid ((lU S A x (ri A) w∧(64<dp→ri A=ri A))∧Dv base A db F d w∧Mv db F w w):=⟨⟨.inl ⟨hE,rfl⟩,fun _=>rfl⟩,hv,Mv.refl _ _ _⟩
  have HEE:=ab hE;rw [ir];clear hk ht hv hE nQ ir;go_enter func92,ntmps92;go_wp2_with fail;go_quiet (fail)
  go_wp2;go_ret2;exact ⟨⟨.inl ⟨(HEE.out),rfl⟩,fun _=>rfl⟩,HR.out.2.1.below (aA (Below.refl _ _) _),HR.out.2.2.trans (Mv.of (aA (Below.refl _ _) _))⟩
 ·have HL:=ab (pC S p x tb rv w hk ht hv);rw [ir] at HL ⊢;have hle:¬ (64:Int)<(dp:Int):=by omega
  clear hk ht hv ir nQ;go_enter func92,ntmps92;go_wp2_with fail;refine HL.out.mono ?_
  rintro e w1 ⟨hr,h1,h2⟩;obtain ⟨pp,vv,he,A2⟩:=hr.form;subst he;have HR:Hid ((lU S A x (.returned (.tuple #[.pointer pp,vv])) w1∧(64<dp→.returned (.tuple #[.pointer pp,vv])=ri A))∧Dv base A db F d w1∧Mv db F w w1):=⟨⟨hr,fun h=>absurd h Gh⟩,h1,h2⟩
  clear hr h1 h2 HL;rcases A2 with rfl | rfl
  ·go_wp2;go_ret2;exact HR.out
  ·go_wp2;go_ret2;exact HR.out
variable {X:Type} {d:S.V.bE} {w1 w2:World} {db:Nat} {v:Value} {F:Nat→Prop} {w:World}
structure gF(X:Type) where
 b:Nat
 n:SN
 at':Nat
 x:X
def gF.lk(s:gF X):W.Lk:=(s.b,(s.at':Int))
def SP(S:Sys d X)(w:World)(s:gF X):Prop:=(∃ pv lv cv,dP w s.b s.n pv lv cv)∧S.N w s.n s.x
theorem SP.cN{d:S.V.bE}{X:Type}{S:Sys d X}{w w':World}{s:gF X}(h:SP S w s)(ha:df w w'):SP S w' s:=by
 obtain ⟨⟨pv,lv,cv,h1⟩,h2⟩:=h;exact ⟨⟨pv,lv,cv,h1.cN ha⟩,S.na ha h2⟩
def Way{d:S.V.bE}{X:Type}(S:Sys d X)(Pk:SN→Nat→Prop)(w:World):X→List (gF X)→X→Prop
 | x,[],y=>x=y
 | x,s::t,y=>s.x=x∧SP S w s∧¬ s.n.us.length=0∧Pk s.n s.at'∧s.at'<s.n.us.length∧∃ z,S.sub x s.at' z∧Way S Pk w z t y
theorem Way.cN{d:S.V.bE}{X:Type}{S:Sys d X}{Pk:SN→Nat→Prop}{w w':World}(ha:df w w'):∀ {t:List (gF X)} {x y:X},Way S Pk w x t y→Way S Pk w' x t y
 | [],_,_,h=>h
 | _::_,_,_,⟨h1,h2,h3,h4,h5,z,h6,h7⟩=>⟨h1,h2.cN ha,h3,h4,h5,z,h6,Way.cN ha h7⟩
theorem Way.snoc{d:S.V.bE}{X:Type}{S:Sys d X}{Pk:SN→Nat→Prop}{w:World}:∀ {t:List (gF X)} {x y z:X} {s:gF X},Way S Pk w x t y→s.x=y→SP S w s→¬ s.n.us.length=0→Pk s.n s.at'→s.at'<s.n.us.length→S.sub y s.at' z→Way S Pk w x (t++[s]) z
 | [],_,_,z,_,h,g1,g2,g3,g4,g5,g6=>by
  have h:_=_:=h;subst h;exact ⟨g1,g2,g3,g4,g5,z,g6,rfl⟩
 | _::_,_,_,_,_,⟨h1,h2,h3,h4,h5,z,h6,h7⟩,g1,g2,g3,g4,g5,g6=>⟨h1,h2,h3,h4,h5,z,h6,Way.snoc h7 g1 g2 g3 g4 g5 g6⟩
theorem Way.Z2{d:S.V.bE}{X:Type}{S:Sys d X}{Pk:SN→Nat→Prop}{w:World}:∀ {t:List (gF X)} {x y:X},Way S Pk w x t y→S.E∨S.rk y+t.length≤S.rk x
 | [],_,_,h=>by
  have h:_=_:=h;subst h;exact .inr (aj _)
 | s::t,x,_,⟨_,_,_,_,_,z,h6,h7⟩=>by
  rcases S.Z0 with h | h
  ·exact .inl h
  ·rcases Way.Z2 h7 with g | g
   ·exact .inl g
   ·have:=h x s.at' z h6;right;rw [List.length_cons];omega
def Kept(db:Nat)(v:Value)(w w':World):Prop:=w.heap.size≤w'.heap.size∧∀ k,k<w.heap.size→k≠db→v.ownBlock≠some k→w'.heap[k]?=w.heap[k]?
theorem Kept.mv(h:Kept db v w w1)(hm:Mv db F w1 w2):Kept db v w w2:=⟨ar h.1 hm.size,fun k hk hd hv=>(hm.one.block k (aq hk h.1) hd).trans (h.2 k hk hd hv)⟩
theorem Kept.below(h:Kept db v w w1)(hb:Below w1.heap.size w1 w2):Kept db v w w2:=⟨ar h.1 hb.size,fun k hk hd hv=>(hb.block k (aq hk h.1)).trans (h.2 k hk hd hv)⟩
theorem Kept.grow{vv:Value}{o:Obj}(h:Kept db v w w1)(zX:∀ g,vv.ownBlock=some g→v.ownBlock=some g∨w.heap.size≤g)(hg:(w1.alloc o).grownBy w2 vv.ownBlock):Kept db v w w2:=by
 have hs:=hg.size;simp at hs
 refine ⟨ar h.1 (by omega),fun k hk hd hv=>?_⟩
 have iV:=aq hk h.1;rw [hg.block k (by simp;omega) (fun e=>by
  rcases zX k e.symm with e' | e'
  ·exact hv e'
  ·omega),heap_alloc_old w1 o iV]
 exact h.2 k hk hd hv
def VB:Value→Nat
 | .slice _ n _=>n
 | _=>0
def nN(S:Sys d X)(Pk:SN→Nat→Prop)(A:Nat→Addr)(pre:List W.Lk)(x:X)(bs:Nat)(e:Ending)(w':World):Prop :=
 (S.E∧e = .returned (.tuple #[.slice none 0 0,.iface 360 (.pointer (some (A 8)))])) ∨
 ∃ (ss:List (gF X)) (s:gF X) (a:Option Addr) (c:Nat),e = .returned (.tuple #[.slice a (pre.length+ss.length+1) c,.nilIface])∧uF w' bs (.slice a (pre.length+ss.length+1) c) (pre++ss.map gF.lk++[s.lk])∧Way S Pk w' x ss s.x∧SP S w' s∧s.n.us.length=0∧s.at'=0∧pre.length+ss.length≤63
theorem yC{base:Nat}{A:Nat→Addr}(S:Sys d X)(Pk:SN→Nat→Prop)(Q:World→Prop)(hQ:∀ W W',df W W'→Q W→Q W')(pre:List W.Lk)(v:Value)(p:C.Ch)(x:X)(tb:Nat)(rv:Value)(fn:Nat)(cp:Array Value)(sU:∀ args w,Sem.run prog (callFunc fn args) w = .ok (.enter fn args) w)(w0 w:World)(hk:S.K w p x)(ht:B.au w tb #[.pointer (some ⟨db,0,none⟩),rv] 100)(hv:Dv base A db F d w)(hm:Mv db F w0 w)(iK:Dv base A db F d w0)(ho:uF w w0.heap.size v pre)(hq:Q w)(js:pre.length≤64)(nQ:S.E∨S.rk x+pre.length+1≤64)(EM:∀ W b n pv lv cv y,Q W→dP W b n pv lv cv→S.N W n y→¬ n.us.length=0→Calls prog fn (#[.agg #[.int .i64 n.f,lv]]++cp) W fun e w'=>∃ q:Nat,e = .returned (.int .i64 (q:Int))∧Pk n q∧q<n.us.length∧Below W.heap.size W w'):Calls prog 89 #[.pointer (some ⟨tb,0,none⟩),v,p.val,.func (.func fn) #[] cp] w fun e w'=>nN S Pk A pre x w0.heap.size e w'∧Dv base A db F d w'∧Mv db F w0 w'∧Kept db v w w':=by
 obtain ⟨va,vc,lM⟩:=ho.1.form;subst lM;obtain ⟨pt,px,ir⟩:=bU p;obtain ⟨m0,hm0⟩ : ∃ m,m=pre.length:=⟨_,rfl⟩;have YA:=ab hm0;rw [← hm0] at ho js nQ ⊢;have HK:=ab hk;have HT:=ab ht;have HV:=ab hv;have HM:=ab hm;have HO:=ab ho;have HQ:=ab hq;have HL:=ab nQ;have HP:=ab EM;have HAW:=ab hQ;have Yn:=ab ir;have HDB:=ab iK.Ct;have Sb:=ab iK;have Yq:=ab js;have Mb:∀ (fn:Fn) (first cap:Array Value) (w:World),(Instr.makeFunc fn first cap).run prog w = .ok (.func fn first cap) w:=fun _ _ _ _=>rfl
 rw [ir];clear hk ht hv hm ho hq nQ EM hQ ir hm0 iK js;go_enter func89,ntmps89;go_wp2;go_loopw [1,2] (fun vv cc wr=>∃ (ss:List (gF X)) (y:X) (p':C.Ch) (a:Option Addr) (c:Nat),vv = .slice a (m0+ss.length) c∧cc=p'.val∧uF wr w0.heap.size (.slice a (m0+ss.length) c) (pre++ss.map gF.lk)∧Way S Pk wr x ss y∧S.K wr p' y∧m0+ss.length≤64∧Dv base A db F d wr∧Mv db F w0 wr∧B.au wr tb #[.pointer (some ⟨db,0,none⟩),rv] 100∧Q wr∧Kept db (.slice va m0 vc) w wr∧∀ g,(Value.slice a (m0+ss.length) c).ownBlock=some g→(Value.slice va m0 vc).ownBlock=some g∨w.heap.size≤g) (fun vv _ _=>65 - VB vv)
 case atStart=>exact ⟨[],x,p,va,vc,rfl,Yn.out.symm,by simpa using HO.out,rfl,HK.out,Yq.out,HV.out,HM.out,HT.out,HQ.out,⟨aj _,fun _ _ _ _=>rfl⟩,fun g hg=>.inl hg⟩
 case round =>
  obtain ⟨ss,y,p',a,c,rfl,rfl,ho,jr,hk,hlen,hv,hm,ht,hq,SE,zX⟩:=hrel;obtain ⟨L,hL⟩ : ∃ L,L=m0+ss.length:=⟨_,rfl⟩;rw [← hL] at ho hlen zX ⊢;have wP:=ab (qE S p' y tb rv (L+1) wr hk ht hv (by
   rcases jr.Z2 with h | h
   ·exact .inl h
   ·rcases HL.out with g | g
    ·exact .inl g
    ·right;omega))
  rw [show ((L+1:Nat):Int)=(L:Int)+1 by omega] at wP
  obtain ⟨pt',px',aaR⟩:=bU p';rw [aaR] at wP ⊢;have rA:=ab ho;have CH:=ab jr;have uK:=ab hv;have Gm:=ab hm;have IU:=ab ht;have zg:=ab hq;have SY:=ab SE;have Af:=ab zX;have kR:=ab hL;have wR:=ab hlen;have hLs:(L:Int)≤64:=by omega
  have hL0:(0:Int)≤(L:Int):=by omega
  clear SE zX ho jr hk hv hm ht hq hL aaR hlen HO HK HV HM HT HQ Yn;go_wp2_with fail;refine wP.out.mono ?_
  rintro e w1 ⟨⟨EI,QM⟩,fD,fo⟩;have U3:=fo.cN uK.out;have Ag:=ab (Gm.out.trans fo);have Vk:=ab (SY.out.mv fo);have uJ:=ab fD;have jx:=ab (rA.out.mv fo HDB.out);have BD:=ab (dX U3 IU.out);have BF:=ab (HAW.out _ _ U3 zg.out);have Zr:=ab (CH.out.cN U3);rcases EI with ⟨hE,rfl⟩ | ⟨b,n,pv,lv,cv,rfl,hs,hn⟩
  ·have cz:Hid (nN S Pk A pre x w0.heap.size (.returned (.tuple #[.slice none 0 0,.iface 360 (.pointer (some (A 8)))])) w1∧Dv base A db F d w1∧Mv db F w0 w1∧Kept db (.slice va m0 vc) w w1):=⟨.inl ⟨hE,rfl⟩,uJ.out,Ag.out,Vk.out⟩;unfold ri;clear QM fD fo U3 wP rA CH uK Gm IU zg hE;go_wp2;go_ret2;exact cz.out
  ·have afw:L≤63:=by
    rcases a6 64 (L+1) with h | h
    ·have:=QM h;unfold ri at this;simp at this
    ·omega
   have HS:=ab hs;have HN:=ab hn;have ti:=ab (cG b n pv lv cv w1 hs);clear QM fD fo U3 wP rA CH uK Gm IU zg hs hn;by_cases h0:n.us.length=0
   ·rw [show decide (n.us.length=0)=true by simp [h0]] at ti
    obtain ⟨a',c',w2,bw,jf,hg,aw,-⟩:=jx.out.push w0.heap.size _ _ (b,0) w1 (by rw [ae,az,← YA.out,← kR.out];omega) (Ag.out.size)
    rw [show (pre++ss.map gF.lk).length=L by rw [ae,az,← YA.out,← kR.out]] at bw jf
    have q0:=ai w1 (.cells #[.pointer (some ⟨b,0,none⟩),.int .i64 0] 159);have cz:Hid (nN S Pk A pre x w0.heap.size (.returned (.tuple #[.slice a' (L+1) c',.nilIface])) w2∧Dv base A db F d w2∧Mv db F w0 w2∧Kept db (.slice va m0 vc) w w2):=by
     have n9:Below w0.heap.size w1 w2:=((ai w1 _).mono Ag.out.size).grown hg (by simp;exact Nat.le_succ_of_le Ag.out.size) (fun k hk=>(jx.out.1.dx k hk).1)
     obtain ⟨Im,Ma⟩:=uJ.out.grown n9 Ag.out Sb.out;exact ⟨.inr ⟨ss,⟨b,n,0,y⟩,a',c',by rw [← YA.out,← kR.out],by rw [← YA.out,← kR.out];exact jf,(Zr.out.cN aw),⟨⟨pv,lv,cv,HS.out.cN aw⟩,S.na aw HN.out⟩,h0,rfl,by rw [← YA.out,← kR.out];exact afw⟩,Im,Ma,Vk.out.grow Af.out hg⟩
    clear jf hg aw q0 h0 HS HN Zr jx;go_wp2_with fail;refine ti.out.mono ?_
    rintro e w1' ⟨rfl,rfl⟩;have A4:(Builtin.append_ #[101,101] 101 #[.slice a L c,.slice (some ⟨w1.heap.size,0,none⟩) 1 1]).run prog (w1.alloc (.cells #[.pointer (some ⟨b,0,none⟩),.int .i64 0] 159)) = .ok (.slice a' (L+1) c') w2:=bw;clear bw;go_wp2_with (first | (at_builtin;refine wpList_append_run 101 rfl (.tmp 27) (.tmp 30) rfl rfl _ _ rfl rfl _ _ A4 ?_))
    go_ret2;exact cz.out
   ·rw [show decide (n.us.length=0)=false by simp [h0]] at ti
    have Wp:=ab (HP.out w1 b n pv lv cv y BF.out HS.out HN.out h0);have p1:=HS.out.c1;have p2:=HS.out.c2;obtain ⟨la,lc,pW⟩:=HS.out.bn.form;subst pW;have H0:=ab h0;clear h0;go_wp2_with fail;refine ti.out.mono ?_
    rintro e w1' ⟨rfl,rfl⟩;go_wp2_with fail;refine Wp.out.mono ?_
    rintro e w2 ⟨q,rfl,zW,Xy,aV⟩;have HPQ:=ab zW;have Kl:=df.of aV;obtain ⟨a',c',w3,bw,kO,hg,aw,EU⟩:=(jx.out.below aV).push w0.heap.size _ _ (b,(q:Int)) w2 (by rw [ae,az,← YA.out,← kR.out];omega) (ar Ag.out.size aV.size)
    rw [show (pre++ss.map gF.lk).length=L by rw [ae,az,← YA.out,← kR.out]] at bw kO EU
    have q0:=ai w2 (.cells #[.pointer (some ⟨b,0,none⟩),.int .i64 (q:Int)] 159);have Qo:=(HS.out.cN Kl).cN aw;have XF:=S.na aw (S.na Kl HN.out);obtain ⟨pc,Sz⟩ : ∃ pc,n.us[q]?=some pc:=⟨_,af Xy⟩;obtain ⟨z,oN,hkz⟩:=S.qi XF Sz;have hdm:Dv base A db F d w3∧Mv db F w0 w3:=by
     have n9:Below w0.heap.size w1 w3:=(((aV.mono Ag.out.size).alloc (ar Ag.out.size aV.size) _).grown hg (by simp;exact Nat.le_succ_of_le (ar Ag.out.size aV.size)) (fun k hk=>(jx.out.1.dx k hk).1))
     obtain ⟨Im,Ma⟩:=uJ.out.grown n9 Ag.out Sb.out;exact ⟨Im,Ma⟩
    have Vg:Hid (∃ (ss:List (gF X)) (y:X) (p':C.Ch) (a:Option Addr) (c:Nat),(.slice a' (L+1) c':Value) = .slice a (m0+ss.length) c∧pc.val=p'.val∧uF w3 w0.heap.size (.slice a (m0+ss.length) c) (pre++ss.map gF.lk)∧Way S Pk w3 x ss y∧S.K w3 p' y∧m0+ss.length≤64∧Dv base A db F d w3∧Mv db F w0 w3∧B.au w3 tb #[.pointer (some ⟨db,0,none⟩),rv] 100∧Q w3∧Kept db (.slice va m0 vc) w w3∧∀ g,(Value.slice a (m0+ss.length) c).ownBlock=some g→(Value.slice va m0 vc).ownBlock=some g∨w.heap.size≤g):=by
     have e1:m0+(ss++[(⟨b,n,q,y⟩ : gF X)]).length=L+1:=by rw [ae,kR.out];rfl
     refine ⟨ss++[⟨b,n,q,y⟩],z,pc,a',c',by rw [e1],rfl,?_,((Zr.out.cN Kl).cN aw).snoc rfl ⟨⟨_,_,_,Qo⟩,XF⟩ H0.out HPQ.out Xy oN,hkz,by rw [e1];omega,hdm.1,hdm.2,dX aw (dX Kl BD.out),HAW.out _ _ aw (HAW.out _ _ Kl BF.out),(Vk.out.below aV).grow Af.out hg,fun gg hgg=>by
      rw [e1] at hgg;rcases EU gg hgg with h | h
      ·exact Af.out gg h
      ·exact .inr (ar Vk.out.1 (ar aV.size h))⟩
     rw [e1,bz,← ay];exact kO
    have p3:=Qo.c3;obtain ⟨ca,cc,sU,-,-,bq⟩:=Qo.kids;rw [C.aU,Nat.mul_one] at sU;subst sU;obtain ⟨g,o,rfl,cq⟩:=bq q pc.val (by unfold C.bn;rw [aG,Sz];rfl)
    obtain ⟨zt,zx,hzv⟩:=bU pc;rw [hzv] at cq Vg;have A4:(Builtin.append_ #[101,101] 101 #[.slice a L c,.slice (some ⟨w2.heap.size,0,none⟩) 1 1]).run prog (w2.alloc (.cells #[.pointer (some ⟨b,0,none⟩),.int .i64 (q:Int)] 159)) = .ok (.slice a' (L+1) c') w3:=bw;have Qq:(q:Int)<(n.us.length:Int):=by omega
    have Sy:(0:Int)≤(q:Int):=by omega
    clear EU bw kO hg aw q0 Qo XF Sz oN hkz hdm bq hzv aV Kl zW Xy Wp ti Zr jx HS HN p1 p2;go_wp2_with (first | (at_builtin;refine wpList_append_run 101 rfl (.tmp 38) (.tmp 42) rfl rfl _ _ rfl rfl _ _ A4 ?_))
    go_roundw
    case rel=>exact Vg.out
    case measure=>simp [VB];omega
variable {d:S.V.bE} {X:Type} {db:Nat} {F:Nat→Prop} {base:Nat} {A:Nat→Addr}
theorem DJ(tb bb:Nat)(w:World):Calls prog 104 #[.pointer (some ⟨tb,0,none⟩),.iface 152 (.pointer (some ⟨bb,0,none⟩))] w fun e w'=>e = .returned (.tuple #[.pointer (some ⟨bb,0,none⟩),.nilIface])∧w=w':=by
 have a1:=fun W=>Km (.pointer (some ⟨bb,0,none⟩)) W
 have a2:=fun W=>RT (.pointer (some ⟨bb,0,none⟩)) W
 go_enter func104,ntmps104;go_wp2;go_ret2;exact ⟨rfl,rfl⟩
theorem AM(ba bb:Nat)(na nb:SN)(pa la ca pb lb cb:Value)(key:ByteArray)(w:World)(ha:dP w ba na pa la ca)(hb:dP w bb nb pb lb cb)(Za:na.zP)(XL:nb.zP)(hsa:na.sz≤4072)(hsb:nb.sz≤4072)(hs:na.us.length=0↔nb.us.length=0)(hk:cV key):Calls prog 126 #[.pointer (some ⟨ba,0,none⟩),.string key,.pointer (some ⟨bb,0,none⟩)] w fun e w'=>SR w (na.join key nb) e w':=by
 unfold SN.join;unfold SN.sz at hsa hsb;by_cases h0:na.us.length=0
 ·rw [if_pos h0] at hsa;rw [if_pos (hs.1 h0)] at hsb;rw [if_pos h0];have:=gT na.ps;have:=gT nb.ps;exact L4 ba bb na nb pa la ca pb lb cb key w ha hb h0 (by omega)
 ·rw [if_neg h0] at hsa;rw [if_neg (fun h=>h0 (hs.2 h))] at hsb
  rw [if_neg h0];have:=B.py na.lk;have:=B.py nb.lk;have e1:=Za.resolve_left h0;have e2:=XL.resolve_left (fun h=>h0 (hs.2 h))
  exact TX ba bb na nb pa la ca pb lb cb key w ha hb h0 (by omega) (by omega) hk
theorem EE{na nb:SN}{key:ByteArray}(Za:na.zP)(XL:nb.zP)(hs:na.us.length=0↔nb.us.length=0):(na.join key nb).zP:=by
 unfold SN.join;by_cases h0:na.us.length=0
 ·rw [if_pos h0];exact .inl rfl
 ·rw [if_neg h0];have e1:=Za.resolve_left h0;have e2:=XL.resolve_left (fun h=>h0 (hs.2 h))
  right
  show (na.us++nb.us).length=(B.iU na.lk key nb.f nb.lk).length+1
  unfold B.iU;rw [ae,ae,List.length_cons];omega
def lT(S:Sys d X)(A:Nat→Addr)(db:Nat)(F:Nat→Prop)(w:World)(n:SN)(i l bb:Nat)(nb:SN)(y:X)(jn:ByteArray→SN→SN)(e:Ending)(w':World):Prop :=
 (S.E∧e=ri A)∨∃ (b':Nat) (w2:World) (m:SN) (k:ByteArray) (z:Int) (bj:Nat) (pj lj cj:Value),e = .returned (.tuple #[.pointer (some ⟨b',0,none⟩),.nilIface])∧Mv db F w w2∧n.lk[l]?=some (k,z)∧S.N w2 m y∧(m.us.length=0↔nb.us.length=0)∧dP w2 bj (jn k m) pj lj cj ∧
  mG w2 ⟨[],n.f,B.cC n.lk l,C.cC (n.us.set i (.nd bb)) (l+1)⟩ l bj (jn k m) (.returned (.pointer (some ⟨b',0,none⟩))) w'
theorem Dz(S:Sys d X)(tb:Nat)(rv:Value)(b bb:Nat)(n nb:SN)(pv lv cv pb lb cb:Value)(y:X)(p:C.Ch)(w:World)(h:dP w b n pv lv cv)(hb:dP w bb nb pb lb cb)(hi:0<n.us.length)(hlen:n.us.length=n.lk.length+1)(eb:n.lk.length≤3999)(h1:0<n.lk.length)(gQ:nb.zP)(zT:nb.sz<nb.min)(hp:n.us[1]?=some p)(hk:S.K w p y)(ht:B.au w tb #[.pointer (some ⟨db,0,none⟩),rv] 100)(hv:Dv base A db F d w)(EZ:S.E∨∀ W m,S.N W m y→(m.us.length=0↔nb.us.length=0)):Calls prog 82 #[.pointer (some ⟨tb,0,none⟩),.agg #[.pointer (some ⟨b,0,none⟩),.int .i64 0],.pointer (some ⟨bb,0,none⟩)] w fun e w'=>lT S A db F w n 0 0 bb nb y (fun k m=>nb.join k m) e w'∧Dv base A db F d w'∧Mv db F w w':=by
 have q0:=ai w (.cells #[.pointer (some ⟨b,0,none⟩),.int .i64 0] 159);have x0:=B.au.new w #[.pointer (some ⟨b,0,none⟩),.int .i64 0] 159;generalize sW:w.alloc (.cells #[.pointer (some ⟨b,0,none⟩),.int .i64 0] 159)=W0 at *;have Sc:=ab (mW bb nb pb lb cb W0 (hb.below q0));rw [show decide (nb.sz<nb.min)=true by simp [zT]] at Sc
 have HH:=ab h;have YH:=ab hb;have HI:Hid (0<n.us.length∧n.us.length=n.lk.length+1∧n.lk.length≤3999∧0<n.lk.length):=⟨hi,hlen,eb,h1⟩;have CL:=ab gQ;have Zt:=ab zT;have HP:=ab hp;have HK:=ab hk;have HT:=ab ht;have HV:=ab hv;have IX:=ab EZ;have HQ:=ab q0;have HX:=ab x0;have Vd:Hid (∀ W,Below w.heap.size w W→Calls prog 125 #[.pointer (some ⟨b,0,none⟩),.int .i64 0,.iface 152 (.pointer (some ⟨bb,0,none⟩))] W fun e w'=>∃ b2 p2 l2 c2,e = .returned (.pointer (some ⟨b2,0,none⟩))∧dP w' b2 ⟨[],n.f,n.lk,n.us.set 0 (.nd bb)⟩ p2 l2 c2∧Below W.heap.size W w'):=fun W hW=>by
  have hh:=mV b n pv lv cv 0 (.nd bb) W (h.below hW) hi;rw [show ((0:Nat):Int)=0 by omega] at hh
  exact hh
 clear h hb hi hlen eb h1 gQ zT hp hk ht hv EZ q0 x0;go_enter func82,ntmps82;go_wp2_with fail;refine Sc.out.mono ?_
 rintro e w1 ⟨rfl,aO⟩;have bT:=ab (Below.next HQ.out aO);have k0:=(HX.out.below aO).c0;have k1:=(HX.out.below aO).c1;have Ad:=ab (HX.out.below aO);clear aO Sc;go_wp2_with fail
 go_region_held3 (fun w'=>w'.cell? ⟨w.heap.size,0,none⟩=some (.pointer (some ⟨b,0,none⟩))∧w'.cell? ⟨w.heap.size,1,none⟩=some (.int .i64 0)) (go_keep)
  (first
   | (go_at_call 125;refine (Vd.out _ (by first | exact bT.out | exact B.aP bT.out)).mono ?_;rintro e w2 ⟨b2,p2,l2,c2,rfl,iL,aV⟩;have lD:=ab iL;have bL:=ab (Below.next (B.aP bT.out) aV);have m0:=(Ad.out.below (B.dy aV)).c0;have m1:=(Ad.out.below (B.dy aV)).c1;clear iL aV))
 all_goals
  have Kl:=df.of bL.out;obtain ⟨ca,cc,sU,-,-,bq⟩:=lD.out.kids;rw [C.aU,Nat.mul_one,bI] at sU;subst sU;obtain ⟨g,o,rfl,cI⟩:=bq 0 (C.Ch.nd bb).val (by unfold C.bn;rw [aG,List.getElem?_set_self HI.out.1];rfl)
  obtain ⟨g',o',z6,cS⟩:=bq 1 p.val (by unfold C.bn;rw [aG,List.getElem?_set_ne (by omega),HP.out];rfl)
  cases z6;have N7:=ab (pC S p y tb rv w2 (S.ka Kl HK.out) (dX Kl HT.out) (HV.out.below bL.out));have HPX:=ab (bU p);have p3:=lD.out.c3;have hI1:(0:Int)<(n.us.length:Int):=by have:=HI.out;omega
  have hI2:(0:Int)+1<(n.us.length:Int):=by have:=HI.out;omega
  have hI0:(0:Int)≤(0:Int):=by omega
  have hI4:(n.us.length:Int)≤4000:=by have:=HI.out;omega
  have hI3:(0:Int)≤(0:Int)+1:=by omega
  have Ah:Hid (∃ k z,n.lk[0]?=some (k,z)):=⟨_,_,af HI.out.2.2.2⟩;have cI2:w2.cell? ⟨g,o,none⟩=some (.iface 152 (.pointer (some ⟨bb,0,none⟩))):=cI;have HCI:=ab cI2
  rw [show max (IntKind.i64.wrap (-1)) 0=0 by decide]
  clear bq Kl k0 k1 m0 m1 Ad HX HQ sW HK HP cI;obtain ⟨pt,px,ir⟩:=HPX.out;rw [ir] at N7 cS;clear ir HPX;go_wp2_with fail;refine (DJ tb bb _).mono ?_
  rintro e w2' ⟨rfl,rfl⟩;go_wp2_with fail;refine N7.out.mono ?_
  rintro e w3 ⟨EI,rr,lX⟩;have SO:=lX.cN (HV.out.below bL.out);have C0:=ab ((Mv.of bL.out).trans lX);have FV:=ab rr;have N5:=ab (lD.out.cN SO);have eH:=ab ((YH.out.below bL.out).cN SO);clear cI2;rcases EI with ⟨hE,rfl⟩ | ⟨bs,m,ps,ls,cs,rfl,zT,lW⟩
  ·have cz:Hid (lT S A db F w n 0 0 bb nb y (fun k m=>nb.join k m) (ri A) w3∧Dv base A db F d w3∧Mv db F w w3):=⟨.inl ⟨hE,rfl⟩,FV.out,C0.out⟩
   unfold ri at cz ⊢;clear rr lX SO hE N7 p3 cS lD;go_wp2;go_ret2;exact cz.out
  have Sd:=ab zT;have Kt:=ab lW;have Yy:=ab (S.fit lW);have Nz:=ab (cG bb nb pb lb cb w3 eH.out);have Od:=ab (cG bs m ps ls cs w3 Sd.out);clear zT lW rr lX SO;by_cases oR:m.us.length=0↔nb.us.length=0
  ·have IW:=ab oR;have Be:decide (nb.us.length=0)=decide (m.us.length=0):=by
    rw [kC,decide_eq_true_eq,decide_eq_true_eq]
    first | exact oR | exact oR.symm
   rw [Be] at Nz;generalize decide (m.us.length=0)=bk at *;clear oR Be;obtain ⟨k,z,lP⟩:=Ah.out;have zv:=ab lP;have nZ:cV k:=HH.out.fine.2.2.1 _ (cL lP);obtain ⟨la2,lc2,pW,-,-,CR⟩:=N5.out.bn;subst pW;have QX:0<n.lk.length:=HI.out.2.2.2;obtain ⟨g2,o2,rfl,cK,-⟩:=CR 0 QX;have hek:n.lk[0]=(k,z):=by
    have:=af QX;rw [lP] at this;exact (Option.some.inj this).symm
   rw [show (⟨[],n.f,n.lk,n.us.set 0 (.nd bb)⟩ : SN).lk[0]=(k,z) from hek] at cK
   have cK2:w3.cell? ⟨g2,o2,none⟩=some (.string k):=by simpa using cK
   have p2:=N5.out.c2;clear cK;have CV:(0:Int)<(n.lk.length:Int):=by omega
   have HJ:=ab (AM bb bs nb m pb lb cb ps ls cs k w3 eH.out Sd.out CL.out Yy.out.1 (by have:=Zt.out;unfold SN.min at this;split at this <;> omega) Yy.out.2.1 (by have:=IW.out;first | exact this | exact this.symm) nZ)
   have HWO:Hid (∀ W,Below w3.heap.size w3 W→Calls prog 127 #[.pointer (some ⟨b2,0,none⟩),.int .i64 (0:Int)] W fun e w'=>SR W ⟨[],n.f,B.cC n.lk 0,C.cC (n.us.set 0 (.nd bb)) (0+1)⟩ e w'):=fun W hW=>wX A b2 _ _ _ _ 0 W (N5.out.below hW) QX (by show (n.us.set 0 _).length=n.lk.length+1;rw [bI];exact HI.out.2.1) (FV.out.below hW).uq
   have fX:(B.cC n.lk 0).length=n.lk.length - 1:=by unfold B.cC;rw [ae,ag,al];omega
   have iM:(C.cC (n.us.set 0 (.nd bb)) (0+1)).length=n.us.length - 1:=by unfold C.cC;rw [ae,ag,al,bI];have:=HI.out;omega
   have FU:Hid (∀ W b5 p5 l5 c5 bj pj lj cj,Below w3.heap.size w3 W→dP W b5 ⟨[],n.f,B.cC n.lk 0,C.cC (n.us.set 0 (.nd bb)) (0+1)⟩ p5 l5 c5→dP W bj ((fun k m=>nb.join k m) k m) pj lj cj→Calls prog 124 #[.pointer (some ⟨b5,0,none⟩),.int .i64 (0:Int),.pointer (some ⟨bj,0,none⟩)] W fun e w'=>∃ b',e = .returned (.pointer (some ⟨b',0,none⟩))∧mG W ⟨[],n.f,B.cC n.lk 0,C.cC (n.us.set 0 (.nd bb)) (0+1)⟩ 0 bj ((fun k m=>nb.join k m) k m) (.returned (.pointer (some ⟨b',0,none⟩))) w'∧Below W.heap.size W w'):=fun W b5 p5 l5 c5 bj pj lj cj hW h5 hj=>by
    refine (tn A b5 bj _ _ p5 l5 c5 pj lj cj 0 W h5 hj (by show 0<(C.cC _ _).length;rw [iM];have:=HI.out;omega) (by show (C.cC _ _).length=(B.cC _ _).length+1;rw [fX,iM];have:=HI.out;omega) (by show (B.cC _ _).length≤3999;rw [fX];have:=HI.out;omega) (EE CL.out Yy.out.1 (by have:=IW.out;first | exact this | exact this.symm)) (FV.out.below hW).uq).mono fun e w' hh=>?_
    rcases hh with ⟨g1,b',p',l',c',rfl,g2,g3⟩ | ⟨g1,a,k,c,ba,bc,pa,la,ca,pc,lc,cc,g2,g3,g4,b',p',l',c',rfl,g5,g6⟩
    ·exact ⟨b',rfl,.inl ⟨g1,b',p',l',c',rfl,g2,g3⟩,g3⟩
    ·exact ⟨b',rfl,.inr ⟨g1,a,k,c,ba,bc,pa,la,ca,pc,lc,cc,g2,g3,g4,b',p',l',c',rfl,g5,g6⟩,g6⟩
   clear CR hek nZ lP Ah fX iM;go_wp2_with fail;refine Nz.out.mono ?_
   rintro e w3' ⟨rfl,rfl⟩;go_wp2_with fail;refine Od.out.mono ?_
   rintro e w3' ⟨rfl,rfl⟩;clear Nz Od;cases bk
   all_goals
    go_wp2_with fail;refine HJ.out.mono ?_
    rintro e w4 ⟨bj,pj,lj,cj,rfl,hj,fS⟩;have HJ4:=ab hj;have iY:=ab fS;clear hj fS cK2 p2;go_wp2_with fail;refine (HWO.out w4 iY.out).mono ?_
    rintro e w5 ⟨b5,p5,l5,c5,rfl,h5,my⟩;have te:=ab h5;have HJ5:=ab (HJ4.out.below my);have jd:=ab (Below.next iY.out my);clear h5 my;go_wp2_with fail;refine (FU.out w5 b5 p5 l5 c5 bj pj lj cj jd.out te.out HJ5.out).mono ?_
    rintro e w6 ⟨b',rfl,tV,Io⟩;have cz:Hid (lT S A db F w n 0 0 bb nb y (fun k m=>nb.join k m) (.returned (.tuple #[.pointer (some ⟨b',0,none⟩),.nilIface])) w6∧Dv base A db F d w6∧Mv db F w w6):=⟨.inr ⟨b',w5,m,k,z,bj,pj,lj,cj,rfl,C0.out.trans (Mv.of jd.out),zv.out,S.na (df.of jd.out) Kt.out,IW.out,HJ5.out,tV⟩,FV.out.below (Below.next jd.out Io),C0.out.trans (Mv.of (Below.next jd.out Io))⟩
    clear tV Io;go_wp2;go_ret2;exact cz.out
  ·have hE:S.E:=IX.out.resolve_right fun h=>oR (h w3 m Kt.out)
   have g8:w3.cell? ⟨8,0,none⟩=some (.iface 360 (.pointer (some (A 8)))):=FV.out.g 8 (by decide)
   have cz:Hid (∀ k,lT S A db F w n 0 0 bb nb y (fun k m=>nb.join k m) (.returned (.tuple #[.pointer none,.iface 360 (.pointer (some (A 8)))])) (w3.drewN k)∧Dv base A db F d (w3.drewN k)∧Mv db F w (w3.drewN k)):=fun k=>⟨.inl ⟨hE,rfl⟩,FV.out.below (aA (Below.refl _ _) _),C0.out.trans (Mv.of (aA (Below.refl _ _) _))⟩
   have Be:decide (nb.us.length=0)=!decide (m.us.length=0):=by
    by_cases h1:m.us.length=0 <;> by_cases h2:nb.us.length=0 <;> simp_all
   rw [Be] at Nz;generalize decide (m.us.length=0)=bk at *;clear oR Be hE;go_wp2_with fail;refine Nz.out.mono ?_
   rintro e w3' ⟨rfl,rfl⟩;go_wp2_with fail;refine Od.out.mono ?_
   rintro e w3' ⟨rfl,rfl⟩;clear Nz Od;cases bk
   all_goals
    go_wp2_with fail;go_quiet (fail)
    go_wp2;go_ret2;exact cz.out _
theorem DA(S:Sys d X)(tb:Nat)(rv:Value)(b bb:Nat)(n nb:SN)(pv lv cv pb lb cb:Value)(j:Nat)(y:X)(p:C.Ch)(w:World)(h:dP w b n pv lv cv)(hb:dP w bb nb pb lb cb)(hi:(j+1)<n.us.length)(hlen:n.us.length=n.lk.length+1)(eb:n.lk.length≤3999)(h1:j<n.lk.length)(gQ:nb.zP)(zT:nb.sz<nb.min)(hp:n.us[j]?=some p)(hk:S.K w p y)(ht:B.au w tb #[.pointer (some ⟨db,0,none⟩),rv] 100)(hv:Dv base A db F d w)(EZ:S.E∨∀ W m,S.N W m y→(m.us.length=0↔nb.us.length=0)):Calls prog 82 #[.pointer (some ⟨tb,0,none⟩),.agg #[.pointer (some ⟨b,0,none⟩),.int .i64 ((j:Int)+1)],.pointer (some ⟨bb,0,none⟩)] w fun e w'=>lT S A db F w n (j+1) j bb nb y (fun k m=>m.join k nb) e w'∧Dv base A db F d w'∧Mv db F w w':=by
 have q0:=ai w (.cells #[.pointer (some ⟨b,0,none⟩),.int .i64 ((j:Int)+1)] 159);have x0:=B.au.new w #[.pointer (some ⟨b,0,none⟩),.int .i64 ((j:Int)+1)] 159;generalize sW:w.alloc (.cells #[.pointer (some ⟨b,0,none⟩),.int .i64 ((j:Int)+1)] 159)=W0 at *;have Sc:=ab (mW bb nb pb lb cb W0 (hb.below q0));rw [show decide (nb.sz<nb.min)=true by simp [zT]] at Sc
 have HH:=ab h;have YH:=ab hb;have HI:Hid ((j+1)<n.us.length∧n.us.length=n.lk.length+1∧n.lk.length≤3999∧j<n.lk.length):=⟨hi,hlen,eb,h1⟩;have CL:=ab gQ;have Zt:=ab zT;have HP:=ab hp;have HK:=ab hk;have HT:=ab ht;have HV:=ab hv;have IX:=ab EZ;have HQ:=ab q0;have HX:=ab x0;have Vd:Hid (∀ W,Below w.heap.size w W→Calls prog 125 #[.pointer (some ⟨b,0,none⟩),.int .i64 ((j:Int)+1),.iface 152 (.pointer (some ⟨bb,0,none⟩))] W fun e w'=>∃ b2 p2 l2 c2,e = .returned (.pointer (some ⟨b2,0,none⟩))∧dP w' b2 ⟨[],n.f,n.lk,n.us.set (j+1) (.nd bb)⟩ p2 l2 c2∧Below W.heap.size W w'):=fun W hW=>by
  have hh:=mV b n pv lv cv (j+1) (.nd bb) W (h.below hW) hi;rw [show (((j+1):Nat):Int)=((j:Int)+1) by omega] at hh
  exact hh
 clear h hb hi hlen eb h1 gQ zT hp hk ht hv EZ q0 x0;go_enter func82,ntmps82;go_wp2_with fail;refine Sc.out.mono ?_
 rintro e w1 ⟨rfl,aO⟩;have bT:=ab (Below.next HQ.out aO);have k0:=(HX.out.below aO).c0;have k1:=(HX.out.below aO).c1;have Ad:=ab (HX.out.below aO);clear aO Sc;go_wp2_with fail;have Gg:¬ (0:Int) > (j:Int):=by omega
 go_region_held3 (fun w'=>w'.cell? ⟨w.heap.size,0,none⟩=some (.pointer (some ⟨b,0,none⟩))∧w'.cell? ⟨w.heap.size,1,none⟩=some (.int .i64 ((j:Int)+1))) (go_keep)
  (first
   | (go_at_call 125;refine (Vd.out _ (by first | exact bT.out | exact B.aP bT.out)).mono ?_;rintro e w2 ⟨b2,p2,l2,c2,rfl,iL,aV⟩;have lD:=ab iL;have bL:=ab (Below.next (B.aP bT.out) aV);have m0:=(Ad.out.below (B.dy aV)).c0;have m1:=(Ad.out.below (B.dy aV)).c1;clear iL aV))
 all_goals
  have Kl:=df.of bL.out;obtain ⟨ca,cc,sU,-,-,bq⟩:=lD.out.kids;rw [C.aU,Nat.mul_one,bI] at sU;subst sU;obtain ⟨g,o,rfl,cI⟩:=bq (j+1) (C.Ch.nd bb).val (by unfold C.bn;rw [aG,List.getElem?_set_self HI.out.1];rfl)
  obtain ⟨g',o',z6,cS⟩:=bq j p.val (by unfold C.bn;rw [aG,List.getElem?_set_ne (by omega),HP.out];rfl)
  cases z6;have N7:=ab (pC S p y tb rv w2 (S.ka Kl HK.out) (dX Kl HT.out) (HV.out.below bL.out));have HPX:=ab (bU p);have p3:=lD.out.c3;have hI1:(j:Int)<(n.us.length:Int):=by have:=HI.out;omega
  have hI2:(j:Int)+1<(n.us.length:Int):=by have:=HI.out;omega
  have hI0:(0:Int)≤(j:Int):=by omega
  have hI4:(n.us.length:Int)≤4000:=by have:=HI.out;omega
  have hI3:(0:Int)≤(j:Int)+1:=by omega
  have Ah:Hid (∃ k z,n.lk[j]?=some (k,z)):=⟨_,_,af HI.out.2.2.2⟩;have cI2:w2.cell? ⟨g,o+(j+1),none⟩=some (.iface 152 (.pointer (some ⟨bb,0,none⟩))):=cI;have HCI:=ab cI2;clear cI2;have hwj:max (IntKind.i64.wrap (j:Int)) 0=(j:Int):=by rw [IntKind.wrap_i64];have:=HI.out;omega
  first | rw [hwj] | rw [show (j:Int)+1 - 1=(j:Int) by omega,hwj]
  clear bq Kl k0 k1 m0 m1 Ad HX HQ sW HK HP cI;obtain ⟨pt,px,ir⟩:=HPX.out;rw [ir] at N7 cS;clear ir HPX;go_wp2_with fail;refine N7.out.mono ?_
  rintro e w3 ⟨EI,rr,lX⟩;have SO:=lX.cN (HV.out.below bL.out);have C0:=ab ((Mv.of bL.out).trans lX);have FV:=ab rr;have N5:=ab (lD.out.cN SO);have eH:=ab ((YH.out.below bL.out).cN SO);have cI3:=bP (SO.ifc HCI.out) HCI.out;have p33:=N5.out.c3;have Y1:((j:Int)+1).toNat=j+1:=by omega
  have hwp:wrap64 ((j:Int)+1)=(j:Int)+1:=by unfold wrap64;omega
  rcases EI with ⟨hE,rfl⟩ | ⟨bs,m,ps,ls,cs,rfl,zT,lW⟩
  ·have cz:Hid (lT S A db F w n (j+1) j bb nb y (fun k m=>m.join k nb) (ri A) w3∧Dv base A db F d w3∧Mv db F w w3):=⟨.inl ⟨hE,rfl⟩,FV.out,C0.out⟩
   unfold ri at cz ⊢;clear rr lX SO hE N7 p3 cS lD;go_wp2;go_ret2;exact cz.out
  go_wp2_with fail;refine (DJ tb bb _).mono ?_
  rintro e w2' ⟨rfl,rfl⟩;have Sd:=ab zT;have Kt:=ab lW;have Yy:=ab (S.fit lW);have Nz:=ab (cG bs m ps ls cs w3 Sd.out);have Od:=ab (cG bb nb pb lb cb w3 eH.out);clear zT lW rr lX SO;by_cases oR:m.us.length=0↔nb.us.length=0
  ·have IW:=ab oR;have Be:decide (m.us.length=0)=decide (nb.us.length=0):=by
    rw [kC,decide_eq_true_eq,decide_eq_true_eq]
    first | exact oR | exact oR.symm
   rw [Be] at Nz;generalize decide (nb.us.length=0)=bk at *;clear oR Be;obtain ⟨k,z,lP⟩:=Ah.out;have zv:=ab lP;have nZ:cV k:=HH.out.fine.2.2.1 _ (cL lP);obtain ⟨la2,lc2,pW,-,-,CR⟩:=N5.out.bn;subst pW;have QX:j<n.lk.length:=HI.out.2.2.2;obtain ⟨g2,o2,rfl,cK,-⟩:=CR j QX;have hek:n.lk[j]=(k,z):=by
    have:=af QX;rw [lP] at this;exact (Option.some.inj this).symm
   rw [show (⟨[],n.f,n.lk,n.us.set (j+1) (.nd bb)⟩ : SN).lk[j]=(k,z) from hek] at cK
   have cK2:w3.cell? ⟨g2,o2+j*2,none⟩=some (.string k):=by simpa using cK
   have p2:=N5.out.c2;clear cK;have CV:(j:Int)<(n.lk.length:Int):=by omega
   have HJ:=ab (AM bs bb m nb ps ls cs pb lb cb k w3 Sd.out eH.out Yy.out.1 CL.out Yy.out.2.1 (by have:=Zt.out;unfold SN.min at this;split at this <;> omega) (by have:=IW.out;first | exact this | exact this.symm) nZ)
   have HWO:Hid (∀ W,Below w3.heap.size w3 W→Calls prog 127 #[.pointer (some ⟨b2,0,none⟩),.int .i64 (j:Int)] W fun e w'=>SR W ⟨[],n.f,B.cC n.lk j,C.cC (n.us.set (j+1) (.nd bb)) (j+1)⟩ e w'):=fun W hW=>wX A b2 _ _ _ _ j W (N5.out.below hW) QX (by show (n.us.set (j+1) _).length=n.lk.length+1;rw [bI];exact HI.out.2.1) (FV.out.below hW).uq
   have fX:(B.cC n.lk j).length=n.lk.length - 1:=by unfold B.cC;rw [ae,ag,al];omega
   have iM:(C.cC (n.us.set (j+1) (.nd bb)) (j+1)).length=n.us.length - 1:=by unfold C.cC;rw [ae,ag,al,bI];have:=HI.out;omega
   have FU:Hid (∀ W b5 p5 l5 c5 bj pj lj cj,Below w3.heap.size w3 W→dP W b5 ⟨[],n.f,B.cC n.lk j,C.cC (n.us.set (j+1) (.nd bb)) (j+1)⟩ p5 l5 c5→dP W bj ((fun k m=>m.join k nb) k m) pj lj cj→Calls prog 124 #[.pointer (some ⟨b5,0,none⟩),.int .i64 (j:Int),.pointer (some ⟨bj,0,none⟩)] W fun e w'=>∃ b',e = .returned (.pointer (some ⟨b',0,none⟩))∧mG W ⟨[],n.f,B.cC n.lk j,C.cC (n.us.set (j+1) (.nd bb)) (j+1)⟩ j bj ((fun k m=>m.join k nb) k m) (.returned (.pointer (some ⟨b',0,none⟩))) w'∧Below W.heap.size W w'):=fun W b5 p5 l5 c5 bj pj lj cj hW h5 hj=>by
    refine (tn A b5 bj _ _ p5 l5 c5 pj lj cj j W h5 hj (by show j<(C.cC _ _).length;rw [iM];have:=HI.out;omega) (by show (C.cC _ _).length=(B.cC _ _).length+1;rw [fX,iM];have:=HI.out;omega) (by show (B.cC _ _).length≤3999;rw [fX];have:=HI.out;omega) (EE Yy.out.1 CL.out (by have:=IW.out;first | exact this | exact this.symm)) (FV.out.below hW).uq).mono fun e w' hh=>?_
    rcases hh with ⟨g1,b',p',l',c',rfl,g2,g3⟩ | ⟨g1,a,k,c,ba,bc,pa,la,ca,pc,lc,cc,g2,g3,g4,b',p',l',c',rfl,g5,g6⟩
    ·exact ⟨b',rfl,.inl ⟨g1,b',p',l',c',rfl,g2,g3⟩,g3⟩
    ·exact ⟨b',rfl,.inr ⟨g1,a,k,c,ba,bc,pa,la,ca,pc,lc,cc,g2,g3,g4,b',p',l',c',rfl,g5,g6⟩,g6⟩
   clear CR hek nZ lP Ah fX iM;go_wp2_with fail;refine Nz.out.mono ?_
   rintro e w3' ⟨rfl,rfl⟩;go_wp2_with fail;refine Od.out.mono ?_
   rintro e w3' ⟨rfl,rfl⟩;clear Nz Od;cases bk
   all_goals
    go_wp2_with fail;refine HJ.out.mono ?_
    rintro e w4 ⟨bj,pj,lj,cj,rfl,hj,fS⟩;have HJ4:=ab hj;have iY:=ab fS;clear hj fS cK2 p2;go_wp2_with fail;refine (HWO.out w4 iY.out).mono ?_
    rintro e w5 ⟨b5,p5,l5,c5,rfl,h5,my⟩;have te:=ab h5;have HJ5:=ab (HJ4.out.below my);have jd:=ab (Below.next iY.out my);clear h5 my;go_wp2_with fail;refine (FU.out w5 b5 p5 l5 c5 bj pj lj cj jd.out te.out HJ5.out).mono ?_
    rintro e w6 ⟨b',rfl,tV,Io⟩;have cz:Hid (lT S A db F w n (j+1) j bb nb y (fun k m=>m.join k nb) (.returned (.tuple #[.pointer (some ⟨b',0,none⟩),.nilIface])) w6∧Dv base A db F d w6∧Mv db F w w6):=⟨.inr ⟨b',w5,m,k,z,bj,pj,lj,cj,rfl,C0.out.trans (Mv.of jd.out),zv.out,S.na (df.of jd.out) Kt.out,IW.out,HJ5.out,tV⟩,FV.out.below (Below.next jd.out Io),C0.out.trans (Mv.of (Below.next jd.out Io))⟩
    clear tV Io;go_wp2;go_ret2;exact cz.out
  ·have hE:S.E:=IX.out.resolve_right fun h=>oR (h w3 m Kt.out)
   have g8:w3.cell? ⟨8,0,none⟩=some (.iface 360 (.pointer (some (A 8)))):=FV.out.g 8 (by decide)
   have cz:Hid (∀ k,lT S A db F w n (j+1) j bb nb y (fun k m=>m.join k nb) (.returned (.tuple #[.pointer none,.iface 360 (.pointer (some (A 8)))])) (w3.drewN k)∧Dv base A db F d (w3.drewN k)∧Mv db F w (w3.drewN k)):=fun k=>⟨.inl ⟨hE,rfl⟩,FV.out.below (aA (Below.refl _ _) _),C0.out.trans (Mv.of (aA (Below.refl _ _) _))⟩
   have Be:decide (m.us.length=0)=!decide (nb.us.length=0):=by
    by_cases h1:m.us.length=0 <;> by_cases h2:nb.us.length=0 <;> simp_all
   rw [Be] at Nz;generalize decide (nb.us.length=0)=bk at *;clear oR Be hE;go_wp2_with fail;refine Nz.out.mono ?_
   rintro e w3' ⟨rfl,rfl⟩;go_wp2_with fail;refine Od.out.mono ?_
   rintro e w3' ⟨rfl,rfl⟩;clear Nz Od;cases bk
   all_goals
    go_wp2_with fail;go_quiet (fail)
    go_wp2;go_ret2;exact cz.out _
end T
end Go.Proofs.YtihmgigfkmofnaaGreatDoor
