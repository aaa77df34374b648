import Derived.Test.YtihmgigfkmofnaaGreatDoorG25
import Derived.Test.YtihmgigfkmofnaaGreatDoorFNew2
set_option maxHeartbeats 4000000
set_option maxRecDepth 100000
open Go.Proofs.Tryz
namespace Go.Proofs.YtihmgigfkmofnaaGreatDoor
namespace T
open Go.RowKit
theorem EI(p:Option Addr)(w:World):(binOp .eql 32 (.iface 360 (.pointer p)) .nilIface).run prog w = .ok (.bool false) w:=by
 have h2:∀ d:Nat,(Op.equalIn (d+1) 32 (.iface 360 (.pointer p)) .nilIface).run prog w = .ok false w:=fun d=>by
  simp [Op.equalIn,run_underlying underlying32]
 simp only [binOp];simp [Op.equal,Op.maxDepth,h2 9999]
theorem BD(A:Nat→Addr)(w:World)(h:dk 13 fl A w):Calls prog 14 #[.iface 360 (.pointer (some (A 0)))] w fun e w'=>e = .returned (.int .i64 1)∧w=w':=by
 have c0:w.cell? ⟨0,0,none⟩=some (.iface 360 (.pointer (some (A 0)))):=(h.1 0 (by decide)).1
 have e0:=Jq A 0;have hn:=fun W=>EI (some (A 0)) W
 clear h;go_enter func14,ntmps14;go_wp2;go_ret;exact ⟨rfl,rfl⟩
theorem aU.cx{PG:Int→Option PD}{w w':World}(ha:dd w w'):∀ (h:Nat) {n:SN} {t:Nd h},aU PG w h n t→aU PG w' h n t
 | 0,_,_,hn=>hn
 | h+1,n,t,hn=>⟨hn.1,hn.2.1,hn.2.2.1,hn.2.2.2.1,fun i p c h1 h2=>by
  have:=hn.2.2.2.2 i p c h1 h2;cases p with
  | pg id=>exact this
  | nd b =>
   obtain ⟨h0,m,pv,lv,cv,hs,hm⟩:=this;exact ⟨h0,m,pv,lv,cv,hs.cx ha,aU.cx ha h hm⟩⟩
theorem eo.cx{PG:Int→Option PD}{w w':World}{h:Nat}{p:C.Ch}{t:Nd h}(hk:eo PG w h p t)(ha:dd w w'):eo PG w' h p t:=by
 cases p with
 | pg id=>exact hk
 | nd b =>
  obtain ⟨h0,m,pv,lv,cv,hs,hm⟩:=hk;exact ⟨h0,m,pv,lv,cv,hs.cx ha,hm.cx ha h⟩
abbrev XT:=(h:Nat) × Nd h
theorem ph{α:Type}{P:α→Option ByteArray→Option ByteArray→Prop}:∀ {lo hi:Option ByteArray} {ks:List ByteArray} {cs:List α},ig P lo hi ks cs→∀ (i:Nat) (c:α),cs[i]?=some c→∃ tn oE,P c tn oE
 | _,_,[],[],h,_,_,_=>by simp [ig] at h
 | lo,hi,[],[c'],h,i,c,hc=>by
  cases i with
  | zero=>cases hc;exact ⟨lo,hi,h⟩
  | succ i=>simp at hc
 | _,_,[],_::_::_,h,_,_,_=>by simp [ig] at h
 | _,_,_::_,[],h,_,_,_=>by simp [ig] at h
 | lo,_,k::ks,c'::cs,h,i,c,hc=>by
  cases i with
  | zero=>cases hc;exact ⟨lo,some k,h.2.2.1⟩
  | succ i=>exact ph h.2.2.2 i c hc
def jt:XT→Prop
 | ⟨0,t⟩=>(∃ lo hi,Ok 0 t lo hi)∧np 0 t≤4072
 | ⟨h+1,t⟩=>(∃ lo hi,Ok (h+1) t lo hi)∧np (h+1) t≤4072∧1≤t.2.1.length
def XJ:XT→Nat→XT→Prop
 | ⟨0,_⟩,_,_=>False
 | ⟨h+1,t⟩,i,y=>∃ c:Nd h,t.2.2[i]?=some c∧y=⟨h,c⟩
theorem K5{h:Nat}{c:Nd h}{lo hi:Option ByteArray}(ho:mF h c lo hi):jt ⟨h,c⟩:=by
 cases h with
 | zero=>exact ⟨⟨lo,hi,ho.1⟩,ho.2.2⟩
 | succ h =>
  refine ⟨⟨lo,hi,ho.1⟩,ho.2.2,?_⟩;have h1:1777≤fD c.2.1:=ho.2.1;cases hk:c.2.1 with
  | nil=>rw [hk] at h1;have:fD []=6:=rfl;omega
  | cons _ _=>simp
theorem lZ{h:Nat}{t:Nd (h+1)}{i:Nat}{c:Nd h}(hg:jt ⟨h+1,t⟩)(hc:t.2.2[i]?=some c):jt ⟨h,c⟩:=by
 obtain ⟨⟨lo,hi,ho⟩,_⟩:=hg;obtain ⟨tn,oE,hf⟩:=ph ((iA h t lo hi).1 ho) i c hc;exact K5 hf
theorem kI{PG:Int→Option PD}{w:World}{n:SN}{x:XT}(hn:aU PG w x.1 n x.2)(hg:jt x):Fit n:=by
 obtain ⟨h,t⟩:=x;have cp:=hn.sz;cases h with
 | zero =>
  refine ⟨.inl (by rw [hn.1];rfl),?_,.inl (by rw [hn.1];rfl)⟩
  have hz:n.sz=np 0 t:=cp;have:np 0 t≤4072:=hg.2;omega
 | succ h =>
  refine ⟨hn.2.2.1,?_,.inr ?_⟩
  ·have hz:n.sz=np (h+1) t:=cp;have:np (h+1) t≤4072:=hg.2.1;omega
  ·have h1:1≤t.2.1.length:=hg.2.2;have h2:t.2.1=n.lk.map (·.1):=hn.2.2.2.1;rw [h2,az] at h1;exact h1
theorem IT{PG:Int→Option PD}{id:Int}{x:XT}(hp:gC PG x.1 id x.2):∃ p,PG id=some p∧∀ w,aU PG w x.1 p.sn x.2:=by
 obtain ⟨h,t⟩:=x;cases h with
 | zero =>
  obtain ⟨_,_,AH⟩:=hp;exact ⟨_,AH,fun w=>⟨rfl,rfl⟩⟩
 | succ h =>
  obtain ⟨_,_,f,lk,AH,ny,hlen,uH⟩:=hp;refine ⟨_,AH,fun w=>⟨by show (Bz f lk).length=t.2.2.length;rw [vH,hlen],by simp [PD.sn,Bz],.inr (by show (Bz f lk).length=lk.length+1;rw [vH]),ny,fun i p c h1 h2=>?_⟩⟩
  obtain ⟨x,sM,rfl⟩:=II f lk i p h1;exact uH i c x h2 sM
def iH(d:S.V.bD):Sys d XT where
 K:=fun w p x=>eo (cU d) w x.1 p x.2∧jt x
 N:=fun w n x=>aU (cU d) w x.1 n x.2∧jt x
 E:=False
 sub:=XJ
 rk:=fun x=>x.1
 ka:=fun ha h=>⟨h.1.cx ha,h.2⟩
 na:=fun ha h=>⟨h.1.cx ha _,h.2⟩
 rh:=fun {w n x i p} hn hp=>by
  obtain ⟨h,t⟩:=x;obtain ⟨hn,hg⟩:=hn;cases h with
  | zero =>
   have:n.us=[]:=hn.1;rw [this] at hp;simp at hp
  | succ h =>
   have hi:=(List.getElem?_eq_some_iff.1 hp).1;have hl:n.us.length=t.2.2.length:=hn.1;have hc:t.2.2[i]?=some (t.2.2[i]'(by omega)):=af (by omega)
   exact ⟨⟨h,t.2.2[i]'(by omega)⟩,⟨_,hc,rfl⟩,hn.rh hp hc,lZ hg hc⟩
 fit:=fun h=>kI h.1 h.2
 hU:=fun h=>by
  obtain ⟨p,h1,h2⟩:=IT h.1;exact .inr ⟨p,h1,fun w'=>⟨h2 w',h.2⟩⟩
 node:=fun h=>by
  obtain ⟨⟨_,m,pv,lv,cv,hs,hm⟩,hg⟩:=h;exact ⟨m,pv,lv,cv,hs,hm,hg⟩
 rks:=.inr fun x i y hs=>by
  obtain ⟨h,t⟩:=x;cases h with
  | zero=>exact hs.elim
  | succ h =>
   obtain ⟨c,_,rfl⟩:=hs;exact aj _
theorem Ao{α:Type}{P:α→Option ByteArray→Option ByteArray→Prop}:∀ {lo hi:Option ByteArray} {ks:List ByteArray} {cs:List α},ig P lo hi ks cs→∀ k ∈ ks,gtB lo k
 | _,_,[],_,_,k,hk=>by simp at hk
 | _,_,_::_,[],h,_,_=>by simp [ig] at h
 | lo,_,k1::ks,c::cs,h,k,hk=>by
  rcases List.mem_cons.1 hk with rfl | hk
  ·exact h.1.1
  ·intro l hl;exact de (h.1.1 l hl) (Ao h.2.2.2 k hk k1 rfl)
theorem kH{α:Type}{P:α→Option ByteArray→Option ByteArray→Prop}:∀ {lo hi:Option ByteArray} {ks:List ByteArray} {cs:List α},ig P lo hi ks cs→ks.Pairwise fun a b=>df a b=true
 | _,_,[],_,_=>List.Pairwise.nil
 | _,_,_::_,[],h=>by simp [ig] at h
 | _,_,k1::ks,_::_,h=>List.Pairwise.cons (fun k hk=>Ao h.2.2.2 k hk k1 rfl) (kH h.2.2.2)
theorem qq{lk:List B.Lk}{key:ByteArray}{q:Nat}(hp:B.gU lk key q)(hs:(lk.map (·.1)).Pairwise fun a b=>df a b=true):(∀ k ∈ (lk.map (·.1)).take q,df key k=false)∧∀ k,((lk.map (·.1)).drop q).head?=some k→df key k=true:=by
 refine ⟨fun k hk=>?_,fun k hk=>?_⟩
 ·obtain ⟨i,hi,rfl⟩:=aI hk;rw [ag,az] at hi;rw [bZ];obtain ⟨j,rfl⟩ : ∃ j,q=j+1:=⟨q - 1,by omega⟩
  have hj:j<lk.length:=by have:=hp.1;omega
  have hle:=hp.2.2 j hj rfl;have h1:df key lk[j].1=false:=by
   unfold B.DS at hle;rw [Bool.or_eq_true] at hle;rcases hle with h | h
   ·exact lU h
   ·rw [oN] at h;rw [of_decide_eq_true h];exact jz key
  rcases aZ i j with SE | SE
  ·have h2:=List.pairwise_iff_getElem.1 hs i j (by rw [az];omega) (by rw [az];omega) SE
   rw [cO,cO] at h2;rw [cO];cases h:df key lk[i].1
   ·rfl
   ·rw [de h h2] at h1;cases h1
  ·have e:i=j:=by omega
   subst e;rw [cO];exact h1
 ·rw [List.head?_drop] at hk;obtain ⟨hq,hv⟩:=List.getElem?_eq_some_iff.1 hk;rw [az] at hq;rw [cO] at hv;have hle:=hp.2.1 q hq (aj _);unfold B.DS at hle;rw [Bool.or_eq_false_iff] at hle;rw [← hv];cases h:df key lk[q].1
  ·have:=lT (a:=key) (b:=lk[q].1) h hle.1;rw [oN] at hle;have:=of_decide_eq_false hle.2;exact absurd (by assumption:key=lk[q].1).symm this
  ·rfl
theorem wL{α:Type}{ks:List ByteArray}{cs:List α}{q:Nat}{c:α}(hl:cs.length=ks.length+1)(hc:cs[q]?=some c):ks=ks.take q++ks.drop q∧cs=cs.take q++c::cs.drop (q+1)∧(ks.take q).length=(cs.take q).length∧(cs.take q).length=q:=by
 obtain ⟨hq,hv⟩:=List.getElem?_eq_some_iff.1 hc;refine ⟨(aE q ks).symm,?_,?_,?_⟩
 ·rw [← hv,← bf hq,aE]
 ·rw [ag,ag];omega
 ·rw [ag];omega
def FlS(d:S.V.bD)(key:ByteArray)(f:List Pr→List Pr)(w:World)(n:SN)(x:XT):Prop:=∃ t',aU (cU d) w x.1 n t'∧Q9 key f x.1 x.2 t'∧eX x.1 t'=0
theorem aU.zB{PG:Int→Option PD}{w:World}{h:Nat}{n:SN}{t:Nd h}(hn:aU PG w h n t):n.zB:=by
 cases h with
 | zero=>exact .inl (by rw [hn.1];rfl)
 | succ h=>exact hn.2.2.1
theorem aU.kind{PG:Int→Option PD}{w w':World}{h:Nat}{n m:SN}{t u:Nd h}(hn:aU PG w h n t)(hm:aU PG w' h m u):n.us.length=0↔m.us.length=0:=by
 cases h with
 | zero=>rw [hn.1,hm.1]
 | succ h=>exact ⟨fun e=>absurd (List.length_eq_zero_iff.1 e) hn.2.1,fun e=>absurd (List.length_eq_zero_iff.1 e) hm.2.1⟩
theorem VY{d:S.V.bD}{key:ByteArray}{f:List Pr→List Pr}(W:World)(n:SN)(x:XT)(h:FlS d key f W n x):n.zB:=by
 obtain ⟨t',h1,_⟩:=h;exact h1.zB
theorem pG{PG:Int→Option PD}{w W:World}{h b:Nat}{n:SN}{t:Nd h}{pv lv cv:Value}(hn:aU PG w h n t)(hs:dM W b n pv lv cv):h=0∨3≤n.lk.length∨¬ 4072<n.sz:=by
 cases h with
 | zero=>exact .inl rfl
 | succ h =>
  right
  by_cases hb:4072<n.sz
  ·left
   rw [SN.TN (fun e=>hn.2.1 (List.length_eq_zero_iff.1 e)),← wH] at hb
   have hm:=CX (l:=n.lk.map (·.1)) (fun k hk=>by
    obtain ⟨p,hp,rfl⟩:=List.mem_map.1 hk;exact hs.fine.2.2.1 p hp)
   rw [az] at hm;omega
  ·exact .inr hb
theorem IK{h:Nat}(a b:Nd h)(k:ByteArray):eX h (gQ h a k b)=0:=by cases h <;> rfl
theorem z8{PG:Int→Option PD}{w:World}{h:Nat}{n:SN}{t:Nd h}(hn:aU PG w h n t):n.sz<n.min↔small h t:=by unfold small;rw [hn.sz,hn.min]
theorem Bn{base:Nat}{A:Nat→Addr}{db:Nat}{F:Nat→Prop}{d:S.V.bD}(key:ByteArray)(f:List Pr→List Pr)(tb:Nat)(rv:Value)(W:World)(s:kT XT)(z:XT)(bb:Nat)(nb:SN)(pb lb cb:Value)(hv:Dv base A db F d W)(ht:B.au W tb #[.pointer (some ⟨db,0,none⟩),rv] 100)(cC:Tn (iH d) W s)(Eh:¬ s.n.us.length=0)(ze:B.gU s.n.lk key s.at')(bX:s.at'<s.n.us.length)(mR:(iH d).sub s.x s.at' z)(hs:dM W bb nb pb lb cb)(kU:FlS d key f W nb z):Calls prog 82 #[.pointer (some ⟨tb,0,none⟩),.agg #[.pointer (some ⟨s.b,0,none⟩),.int .i64 (s.at':Int)],.pointer (some ⟨bb,0,none⟩)] W fun e w'=>UpS (iH d) A (FlS d key f) s.x e w'∧Dv base A db F d w'∧Mv db F W w':=by
 obtain ⟨⟨pv,lv,cv,OS⟩,hn⟩:=cC;obtain ⟨b,n,i,⟨hh,t⟩⟩:=s;cases hh with
 | zero=>exact mR.elim
 | succ h =>
 obtain ⟨c,hc,rfl⟩:=mR;obtain ⟨hn,hg⟩:=hn;have hn:aU (cU d) W (h+1) n t:=hn;have hc:t.2.2[i]?=some c:=hc;obtain ⟨c',xW,TZ,AH⟩:=kU;have xW:aU (cU d) W h nb c':=xW;have TZ:Q9 key f h c c':=TZ;have AH:eX h c'=0:=AH;simp only at OS Eh ze bX ⊢;have eE:=kI (x:=⟨h+1,t⟩) hn hg;have hlen:=hn.len;have cp:=eE.2.1;rw [SN.TN Eh] at cp;have h1:=eE.2.2.resolve_left Eh;have Ub:=B.rr n.lk;have ny:t.2.1=n.lk.map (·.1):=hn.2.2.2.1;have ep:t.2.1.length=n.lk.length:=by rw [ny,az]
 have zg:t.2.2.length=t.2.1.length+1:=by rw [← hn.1,hlen,ep]
 obtain ⟨lo,hi,ho⟩:=hg.1;have uF:=kH ((iA h t lo hi).1 ho);rw [ny] at uF;obtain ⟨W6,WZ⟩:=qq ze uF;rw [← ny] at W6 WZ;obtain ⟨e1,e2,el,ei⟩:=wL zg hc;have gR:=xW.zB;-- what is to be shown of a node that E6 makes
 have OU:∀ (w':World) (b':Nat) (n':SN) (p' l' c2:Value) (ks:List ByteArray) (cs:List (Nd h)),dM w' b' n' p' l' c2→aU (cU d) w' (h+1) n' (0,ks,cs)→yH h (t.2.1.take i) (t.2.1.drop i) (t.2.2.take i) c' (t.2.2.drop (i+1)) ks cs→UpS (iH d) A (FlS d key f) ⟨h+1,t⟩ (.returned (.tuple #[.pointer (some ⟨b',0,none⟩),.nilIface])) w':=by
  intro w' b' n' p' l' c2 ks cs g1 g2 g3;exact .inr ⟨b',n',p',l',c2,rfl,g1,(0,ks,cs),g2,⟨_,_,_,c,_,e1,e2,el,W6,WZ,c',ks,cs,TZ,g3,rfl⟩,rfl⟩
 by_cases zG:nb.sz<nb.min
 ·have OT:=(z8 xW).1 zG;cases i with
  | zero =>
   obtain ⟨y,hy⟩ : ∃ y,t.2.2[1]?=some y:=⟨_,af (by omega)⟩
   obtain ⟨p,hp⟩ : ∃ p,n.us[1]?=some p:=⟨_,af (by omega)⟩
   refine (C8 (iH d) tb rv b bb n nb pv lv cv pb lb cb ⟨h,y⟩ p W OS hs bX hlen (by omega) (by omega) gR zG hp ⟨hn.rh hp hy,lZ hg hy⟩ ht hv (.inr fun W' m hm=>(aU.kind (t:=y) (u:=c') hm.1 xW))).mono fun e w' hh=>⟨?_,hh.2⟩
   obtain ⟨hj,Sn,hm'⟩:=hh;rcases hj with ⟨hE,_⟩ | ⟨b',w2,m,k,zz,bj,pj,lj,cj,rfl,qJ,oC,lx,ri,Yi,zD⟩
   ·exact hE.elim
   ·have aw:=qJ.cx hv;have lx:aU (cU d) w2 h m y:=lx.1;have O4:=aU.cx aw (h+1) hn;have O3:=aU.cx aw h xW;have ek:t.2.1=k::t.2.1.drop 1:=by
     have hx:t.2.1[0]?=some k:=by rw [ny,aL,oC];rfl
     obtain ⟨sM,vS⟩:=List.getElem?_eq_some_iff.1 hx;have:=bf sM;rw [vS,List.drop_zero] at this;exact this
    have ec:t.2.2=c::y::t.2.2.drop 2:=by
     obtain ⟨sM,vS⟩:=List.getElem?_eq_some_iff.1 hc;obtain ⟨WR,WQ⟩:=List.getElem?_eq_some_iff.1 hy;have a1:=bf sM;have a2:=bf WR;rw [vS,List.drop_zero] at a1;rw [WQ] at a2;rw [← a2];exact a1
    have zH:=aU.set (C1:=[]) (C2:=y::t.2.2.drop 2) (c:=c) (x:=c') (p:=.nd bb) O4 ec ⟨AH,nb,pb,lb,cb,hs.cx aw,O3⟩ [] n.f;have Eb:=aU.rem (K1:=[]) (K2:=t.2.1.drop 1) (C1:=[]) (C2:=t.2.2.drop 2) (a:=c') (b:=y) (k:=k) zH ek rfl rfl [] n.f;have YR:=AB (key:=k) O3 lx;obtain ⟨b2,n2,p2,l2,c2,ks,cs,he,g1,g2,g3,_⟩:=sZ (K1:=[]) (K2:=t.2.1.drop 1) (C1:=[]) (C2:=t.2.2.drop 2) (c:=c') (x:=gQ h c' k y) Eb rfl rfl rfl YR Yi (IK _ _ _) (pG YR Yi) zD;cases he;refine OU w' b' n2 p2 l2 c2 ks cs g1 g2 (.inr (.inl ⟨OT,rfl,rfl,k,_,y,_,ek,?_,g3⟩));have:=congrArg (List.drop 1) ec;exact this
  | succ j =>
   obtain ⟨y,hy⟩ : ∃ y,t.2.2[j]?=some y:=⟨_,af (by omega)⟩
   obtain ⟨p,hp⟩ : ∃ p,n.us[j]?=some p:=⟨_,af (by omega)⟩
   have AP:=C9 (iH d) tb rv b bb n nb pv lv cv pb lb cb j ⟨h,y⟩ p W OS hs bX hlen (by omega) (by omega) gR zG hp ⟨hn.rh hp hy,lZ hg hy⟩ ht hv (.inr fun W' m hm=>(aU.kind (t:=y) (u:=c') hm.1 xW))
   rw [show ((j+1:Nat):Int)=(j:Int)+1 by omega]
   refine AP.mono fun e w' hh=>⟨?_,hh.2⟩
   obtain ⟨hj,Sn,hm'⟩:=hh;rcases hj with ⟨hE,_⟩ | ⟨b',w2,m,k,zz,bj,pj,lj,cj,rfl,qJ,oC,lx,ri,Yi,zD⟩
   ·exact hE.elim
   ·have aw:=qJ.cx hv;have lx:aU (cU d) w2 h m y:=lx.1;have O4:=aU.cx aw (h+1) hn;have O3:=aU.cx aw h xW;have hx:t.2.1[j]?=some k:=by rw [ny,aL,oC];rfl
    have ek1:t.2.1.take (j+1)=t.2.1.take j++[k]:=by rw [gq,hx];rfl
    have ec1:t.2.2.take (j+1)=t.2.2.take j++[y]:=by rw [gq,hy];rfl
    have ek:t.2.1=t.2.1.take j++k::t.2.1.drop (j+1):=by
     have:=e1;rw [ek1,ax] at this;exact this
    have lj1:(t.2.1.take j).length=(t.2.2.take j).length:=by rw [ag,ag];omega
    have lj2:(t.2.2.take j).length=j:=by rw [ag];omega
    have zH:=aU.set (C1:=t.2.2.take (j+1)) (C2:=t.2.2.drop (j+1+1)) (c:=c) (x:=c') (p:=.nd bb) O4 e2 ⟨AH,nb,pb,lb,cb,hs.cx aw,O3⟩ [] n.f;rw [ei] at zH;have Eb:=aU.rem (K1:=t.2.1.take j) (K2:=t.2.1.drop (j+1)) (C1:=t.2.2.take j) (C2:=t.2.2.drop (j+1+1)) (a:=y) (b:=c') (k:=k) zH ek (by show t.2.2.take (j+1)++c'::_=_;rw [ec1,ax];rfl) lj1 [] n.f
    rw [lj2] at Eb;have YR:=AB (key:=k) lx O3;have Vd:mm w2 ⟨[],n.f,B.cB n.lk j,C.cB (n.us.set (j+1) (.nd bb)) (j+1)⟩ (t.2.2.take j).length bj (m.join k nb) (.returned (.pointer (some ⟨b',0,none⟩))) w':=by rw [lj2];exact zD
    obtain ⟨b2,n2,p2,l2,c2,ks,cs,he,g1,g2,g3,_⟩:=sZ (K1:=t.2.1.take j) (K2:=t.2.1.drop (j+1)) (C1:=t.2.2.take j) (C2:=t.2.2.drop (j+1+1)) (c:=y) (x:=gQ h y k c') Eb rfl rfl lj1 YR Yi (IK _ _ _) (pG YR Yi) Vd;cases he;exact OU w' b' n2 p2 l2 c2 ks cs g1 g2 (.inr (.inr ⟨OT,_,k,_,y,ek1,ec1,g3⟩))
 ·refine (Bo A tb b bb n nb pv lv cv pb lb cb i W OS hs bX hlen (by omega) gR zG hv.B0).mono fun e w' hh=>?_
  obtain ⟨b',rfl,zD⟩:=hh;have bL:=zD.below;have Vd:mm W n (t.2.2.take i).length bb nb (.returned (.pointer (some ⟨b',0,none⟩))) w':=by rw [ei];exact zD
  obtain ⟨b2,n2,p2,l2,c2,ks,cs,he,g1,g2,g3,_⟩:=sZ hn e1 e2 el xW hs AH (pG xW hs) Vd;cases he;exact ⟨OU w' b' n2 p2 l2 c2 ks cs g1 g2 (.inl ⟨fun h=>zG ((z8 xW).2 h),g3⟩),hv.below bL,Mv.of bL⟩
theorem EA{h:Nat}{cs:List (Nd h)}(hl:2≤cs.length)(hc:∀ c ∈ cs,2 ^ h≤(flat h c).length):2 ^ (h+1)≤(cs.flatMap (flat h)).length:=by
 match cs,hl,hc with
 | a::b::cs,_,hc =>
  have h1:=hc a (by simp)
  have h2:=hc b (by simp)
  rw [List.flatMap_cons,List.flatMap_cons,ae,ae,Nat.pow_succ];omega
theorem xu:∀ (h:Nat) {t:Nd h} {lo hi:Option ByteArray},mF h t lo hi→2 ^ h≤(flat h t).length
 | 0,t,_,_,ho=>by
  have h1:xC 0≤fQ t.2:=ho.2.1;show 1≤t.2.length
  cases ht:t.2 with
  | nil=>rw [ht] at h1;simp [xC,kW] at h1
  | cons _ _=>simp
 | h+1,t,lo,hi,ho=>by
  have hc:=(iA h t lo hi).1 ho.1;have hl:=jI hc;have h1:1777≤fD t.2.1:=ho.2.1;refine EA (h:=h) (cs:=t.2.2) ?_ fun c hm=>?_
  ·cases hk:t.2.1 with
   | nil=>rw [hk] at h1;have:fD []=6:=rfl;omega
   | cons _ _=>rw [hk,List.length_cons] at hl;omega
  ·obtain ⟨i,oE,rfl⟩:=aI hm;obtain ⟨tn,sj,hf⟩:=ph hc i _ (af oE);exact xu h hf
theorem Ad{h:Nat}{t:Nd h}(hr:dU (some ⟨h,t⟩)):2 ^ h≤(flat h t).length:=by
 obtain ⟨ho,_,h1⟩:=hr;cases h with
 | zero =>
  show 1≤t.2.length
  have h1:t.2≠[]:=h1;exact List.length_pos_iff.2 h1
 | succ h =>
  have h1:t.2.1≠[]:=h1;have hc:=(iA h t none none).1 ho;have hl:=jI hc;have:=List.length_pos_iff.2 h1;refine EA (h:=h) (cs:=t.2.2) (by omega) fun c hm=>?_
  obtain ⟨i,oE,rfl⟩:=aI hm;obtain ⟨tn,sj,hf⟩:=ph hc i _ (af oE);exact xu h hf
theorem og{h:Nat}{t:Nd h}(hr:dU (some ⟨h,t⟩))(hn:(flat h t).length≤4611686018427387904):h+1≤64:=by
 have h1:=Ad hr;have h2:2 ^ h≤2 ^ 62:=aq h1 (by omega)
 have:=(Nat.pow_le_pow_iff_right (by omega:1<2)).1 h2
 omega
theorem lK{h:Nat}{t:Nd h}(hr:dU (some ⟨h,t⟩)):jt ⟨h,t⟩:=by
 obtain ⟨ho,hs,h1⟩:=hr;cases h with
 | zero=>exact ⟨⟨none,none,ho⟩,hs⟩
 | succ h=>exact ⟨⟨none,none,ho⟩,hs,List.length_pos_iff.2 h1⟩
section
variable {PG:Int→Option PD} {w:World} {tb:Nat} {q:Option Addr} {rv:Value}
theorem aU.tree(ht:B.au w tb #[.pointer q,rv] 100)(zI:rv = .nilIface∨∃ t x,rv = .iface t x)(u:Value):∀ (h:Nat) {n:SN} {t:Nd h},aU PG w h n t→jt ⟨h,t⟩→aU PG (w.setCell ⟨tb,1,none⟩ u) h n t
 | 0,_,_,hn,_=>hn
 | h+1,n,t,hn,hg=>⟨hn.1,hn.2.1,hn.2.2.1,hn.2.2.2.1,fun i p c h1 h2=>by
  have hk:=hn.2.2.2.2 i p c h1 h2;have YV:=lZ hg h2;cases p with
  | pg id=>exact hk
  | nd b =>
   obtain ⟨h0,m,pv,lv,cv,hs,hm⟩:=hk;exact ⟨h0,m,pv,lv,cv,hs.tree (kI (x:=⟨h,c⟩) hm YV).kids ht zI u,aU.tree ht zI u h hm YV⟩⟩
theorem eo.tree(ht:B.au w tb #[.pointer q,rv] 100)(zI:rv = .nilIface∨∃ t x,rv = .iface t x)(u:Value){h:Nat}{p:C.Ch}{t:Nd h}(hk:eo PG w h p t)(hg:jt ⟨h,t⟩):eo PG (w.setCell ⟨tb,1,none⟩ u) h p t:=by
 cases p with
 | pg id=>exact hk
 | nd b =>
  obtain ⟨h0,m,pv,lv,cv,hs,hm⟩:=hk;exact ⟨h0,m,pv,lv,cv,hs.tree (kI (x:=⟨h,t⟩) hm hg).kids ht zI u,hm.tree ht zI u h hg⟩
theorem gA.tree(ht:B.au w tb #[.pointer q,rv] 100)(zI:rv = .nilIface∨∃ t x,rv = .iface t x)(u:Value){v:Value}{r:cT}(hr:gA PG w v r)(cC:dU r):gA PG (w.setCell ⟨tb,1,none⟩ u) v r:=by
 rcases hr with h | ⟨p,h,t,e1,rfl,hk⟩
 ·exact .inl h
 ·exact .inr ⟨p,h,t,e1,rfl,hk.tree ht zI u (lK cC)⟩
end
theorem gA.cx{PG:Int→Option PD}{w w':World}{v:Value}{r:cT}(hr:gA PG w v r)(ha:dd w w'):gA PG w' v r:=by
 rcases hr with h | ⟨p,h,t,e1,e2,hk⟩
 ·exact .inl h
 ·exact .inr ⟨p,h,t,e1,e2,hk.cx ha⟩
theorem gA.form{PG:Int→Option PD}{w:World}{v:Value}{r:cT}(hr:gA PG w v r):v = .nilIface∨∃ t x,v = .iface t x:=by
 rcases hr with ⟨h,_⟩ | ⟨p,_,_,h,_⟩
 ·exact .inl h
 ·exact .inr (h▸bJ p)
theorem Ix{F:Nat→Prop}{tb:Nat}{w w':World}(h:S.V.Step F F w w'):S.V.Step (fun k=>F k∨k=tb) (fun k=>F k∨k=tb) w w':=⟨h.os,h.tape,h.output,h.size,fun k hk hn=>h.block k hk (fun e=>hn (.inl e)),fun _ h=>.inl h⟩
structure Ts(base:Nat)(A:Nat→Addr)(db:Nat)(F:Nat→Prop)(d:S.V.bD)(W0 w:World)(tb:Nat)(r:cT):Prop where
 dv:Dv base A db F d w
 tr:∃ rv,B.au w tb #[.pointer (some ⟨db,0,none⟩),rv] 100∧gA (cU d) w rv r
 ok:dU r
 st:S.V.Step (fun k=>F k∨k=tb) (fun k=>F k∨k=tb) W0 w
 lo:base≤tb∧¬ F tb
section
variable {base:Nat} {A:Nat→Addr} {db:Nat} {F:Nat→Prop} {d:S.V.bD} {W0:World} {r:cT}
theorem Ts.mv{w w':World}{tb:Nat}(h:Ts base A db F d W0 w tb r)(hm:Mv db F w w')(hv:Dv base A db F d w'):Ts base A db F d W0 w' tb r:=by
 obtain ⟨rv,h1,h2⟩:=h.tr;exact ⟨hv,⟨rv,dz (hm.cx h.dv) h1,h2.cx (hm.cx h.dv)⟩,h.ok,h.st.trans (Ix hm.step),h.lo⟩
theorem Ts.below{w w':World}{tb:Nat}(h:Ts base A db F d W0 w tb r)(hb:Below w.heap.size w w'):Ts base A db F d W0 w' tb r:=h.mv (Mv.of hb) (h.dv.below hb)
theorem Ts.root{w W2:World}{tb:Nat}{u rv:Value}{r':cT}(h:Ts base A db F d W0 w tb r)(hm:Mv db F w W2)(nF:Dv base A db F d W2)(vU:B.au W2 tb #[.pointer (some ⟨db,0,none⟩),rv] 100)(zI:rv = .nilIface∨∃ t x,rv = .iface t x)(hr:gA (cU d) W2 u r')(cC:dU r'):Ts base A db F d W0 (W2.setCell ⟨tb,1,none⟩ u) tb r':=by
 refine ⟨nF.tree h.lo.1 h.lo.2 1 u,⟨u,B.au.one vU u,hr.tree vU zI u cC⟩,cC,?_,h.lo⟩;have h1:=h.st.trans (Ix hm.step);have hs:=bK.set tb 1 W2 u;exact ⟨hs.os.trans h1.os,hs.tape.trans h1.tape,hs.output.trans h1.output,aq h1.size hs.size,fun k hk hn=>(hs.block k (al hk h1.size) (fun e=>hn (.inr e))).trans (h1.block k hk hn),fun _ h=>.inl h⟩
theorem B6{w w1:World}{tb:Nat}{pv:Value}(key:ByteArray)(f:List Pr→List Pr)(hf:Go.Proofs.YtihmgigfkmofnaaGreatDoor.Fit key f)(h:Ts base A db F d W0 w tb none)(hm:Mv db F w w1)(hv:Dv base A db F d w1)(ht:B.au w1 tb #[.pointer (some ⟨db,0,none⟩),.nilIface] 100)(hp:gZ w1 pv (f [])):Calls prog 47 #[.pointer (some ⟨tb,0,none⟩),.slice none 0 0,pv] w1 fun e w'=>e = .returned .nilIface∧∃ r',pQ key f none r'∧Ts base A db F d W0 w' tb r':=by
 have cp:=hf.size [];rw [kW] at cp;have hl:=ko (f []);have tF:∀ p ∈ f [],cF p=true:=fun p hp=>by
  rcases hf.mem [] p hp with h | h
  ·simp at h
  ·exact h.2
 have hc:=yx (noS d) (fun _ _=>True) (fun _ n _=>n=⟨f [],0,[],[]⟩) (fun _ n _ h=>by subst h;exact .inl rfl) tb .nilIface none 0 [] [] () () pv (f []) w w1 (.inl ⟨rfl,rfl⟩) (by simp) (sP.nil _ _) rfl hp ⟨tF,by omega⟩ (fun _=>rfl) ht hv h.dv hm (fun W s z bb nb pb lb cb _ _ cC=>(cC.2:False).elim)
 refine hc.mono fun e w' hh=>?_
 rcases hh with ⟨hE,_⟩ | ⟨W,W2,b,n,pn,ln,cn,u,he,hs,hn,hr,nF,qJ,vU,rfl⟩
 ·exact (hE:False).elim
 ·subst hn;obtain ⟨v,r',e1,g1,g2,_⟩:=Ae (PG:=cU d) (h:=0) (t:=(0,f [])) ⟨rfl,rfl⟩ hs rfl (.inl rfl) hr;cases e1;exact ⟨he,r',g2,h.root qJ nF vU (.inl rfl) g1 (km hf (r:=none) trivial g2).1⟩
theorem sE{w w1:World}{tb:Nat}{a:Option Addr}{c:Nat}{ss:List (kT XT)}{s:kT XT}{rv pv:Value}{x:XT}{t0:Nd 0}(key:ByteArray)(f:List Pr→List Pr)(hf:Go.Proofs.YtihmgigfkmofnaaGreatDoor.Fit key f)(h:Ts base A db F d W0 w tb (some x))(hm:Mv db F w w1)(hv:Dv base A db F d w1)(ht:B.au w1 tb #[.pointer (some ⟨db,0,none⟩),rv] 100)(zI:rv = .nilIface∨∃ t x,rv = .iface t x)(dB:ss.length≤64)(ho:sP w1 w.heap.size (.slice a (ss.length+1) c) (ss.map kT.lk++[s.lk]))(kt:Way (iH d) (fun n q=>B.gU n.lk key q) w1 x ss ⟨0,t0⟩)(cp:fQ t0.2≤4072)(KT:∀ p ∈ t0.2,cF p=true)(hp:gZ w1 pv (f t0.2)):Calls prog 47 #[.pointer (some ⟨tb,0,none⟩),.slice a (ss.length+1) c,pv] w1 fun e w'=>e = .returned .nilIface∧∃ r',pQ key f (some x) r'∧Ts base A db F d W0 w' tb r':=by
 have jT:=hf.size t0.2;have hl:=ko (f t0.2);have tF:∀ p ∈ f t0.2,cF p=true:=fun p hp=>by
  rcases hf.mem _ p hp with h | h
  ·exact KT p h
  ·exact h.2
 have hL:(ss.map kT.lk++[s.lk]).length=ss.length+1:=by simp
 have hc:=yx (iH d) (fun n q=>B.gU n.lk key q) (FlS d key f) VY tb rv a c (ss.map kT.lk++[s.lk]) ss x ⟨0,t0⟩ pv (f t0.2) w w1 (.inr ⟨_,rfl⟩) dB (by rw [hL];exact ho) kt hp ⟨tF,by omega⟩ (fun W=>⟨(0,f t0.2),⟨rfl,rfl⟩,rfl,rfl⟩) ht hv h.dv hm (fun W s z bb nb pb lb cb h1 h2 h3 h4 h5 h6 h7 h8 h9=>Bn key f tb rv W s z bb nb pb lb cb h1 h2 h3 h4 h5 h6 h7 h8 h9)
 rw [hL] at hc;refine hc.mono fun e w' hh=>?_
 rcases hh with ⟨hE,_⟩ | ⟨W,W2,b,n,pn,ln,cn,u,he,hs,⟨t',hn,hu,AH⟩,hr,nF,qJ,vU,rfl⟩
 ·exact (hE:False).elim
 ·obtain ⟨v,r',e1,g1,g2,_⟩:=Ae hn hs AH (pG hn hs) hr;cases e1;have TZ:pQ key f (some x) r':=⟨t',hu,g2⟩;exact ⟨he,r',TZ,h.root qJ nF vU zI g1 (km hf h.ok TZ).1⟩
end
end T
def cJ(n:Nat):List Nat:=if n=0 then [] else [n]
def cD:(h:Nat)→Nd h→List Nat
 | 0,t=>cJ t.1
 | h+1,t=>cJ t.1++t.2.2.flatMap (cD h)
def rJ:(h:Nat)→Nd h→List Nat
 | 0,_=>[]
 | h+1,t=>t.2.2.flatMap (cD h)
theorem lN(h:Nat)(t:Nd h):(rJ h t).Sublist (cD h t):=by
 cases h with
 | zero=>exact List.nil_sublist _
 | succ h=>exact dA _ _
theorem rI(h:Nat)(a b:Nd h)(k:ByteArray):cD h (gQ h a k b)=rJ h a++rJ h b:=by
 cases h with
 | zero=>rfl
 | succ h=>simp [cD,rJ,gQ,cJ]
theorem vI{h:Nat}{x a b:Nd h}{k:ByteArray}(hc:Cut h x a k b):cD h a++cD h b=rJ h x:=by
 obtain ⟨i,_,hc⟩:=hc;cases h with
 | zero =>
  obtain ⟨rfl,rfl,_⟩:=hc;rfl
 | succ h =>
  obtain ⟨rfl,rfl,_⟩:=hc;show (cJ 0++(x.2.2.take (i+1)).flatMap (cD h))++(cJ 0++(x.2.2.drop (i+1)).flatMap (cD h))=x.2.2.flatMap (cD h)
  rw [show cJ 0=[] from rfl,List.nil_append,List.nil_append,← bh,aE]
theorem xf{h:Nat}{A B ks:List ByteArray}{C1 C2 cs:List (Nd h)}{x:Nd h}(hw:E6 h A B C1 x C2 ks cs):(cs.flatMap (cD h)).Sublist (C1.flatMap (cD h)++(cD h x++C2.flatMap (cD h))):=by
 rcases hw with ⟨_,_,rfl⟩ | ⟨_,a,k,b,hc,_,rfl⟩
 ·simp
 ·rw [bh,List.flatMap_cons,List.flatMap_cons,← ax (cD h a),vI hc];exact List.Sublist.append_left (List.Sublist.append_right (lN h x) _) _
theorem Gj{h:Nat}{A B ks:List ByteArray}{C1 C2 cs:List (Nd h)}{x:Nd h}(hs:yH h A B C1 x C2 ks cs):(cs.flatMap (cD h)).Sublist (C1.flatMap (cD h)++(cD h x++C2.flatMap (cD h))):=by
 rcases hs with ⟨_,hw⟩ | ⟨_,rfl,rfl,k,B',b,WL,rfl,rfl,hw⟩ | ⟨_,A',k,WM,a,rfl,rfl,hw⟩
 ·exact xf hw
 ·refine (xf hw).trans ?_
  rw [rI,List.flatMap_cons,ax];exact List.Sublist.append_left (List.Sublist.append (lN h x) (List.Sublist.append_right (lN h b) _)) _
 ·refine (xf hw).trans ?_
  rw [rI,bh,ax,ax,List.flatMap_cons,List.flatMap_nil,List.append_nil];exact List.Sublist.append_left (List.Sublist.append (lN h a) (List.Sublist.append_right (lN h x) _)) _
theorem IL{key:ByteArray}{f:List Pr→List Pr}:∀ (h:Nat) {t t':Nd h},Q9 key f h t t'→(cD h t').Sublist (cD h t)
 | 0,t,t',hu=>by
  have hu:t'=(0,f t.2):=hu;subst hu;exact List.nil_sublist _
 | h+1,t,t',hu=>by
  obtain ⟨A,B,C1,c,C2,_,e2,_,_,_,c',ks,cs,hc,hs,rfl⟩:=hu;show (cJ 0++cs.flatMap (cD h)).Sublist (cJ t.1++t.2.2.flatMap (cD h))
  rw [show cJ 0=[] from rfl,List.nil_append,e2,bh,List.flatMap_cons]
  exact (Gj hs).trans ((List.Sublist.append_left (List.Sublist.append_right (IL h hc) _) _).trans (dA _ _))
def bz:cT→List Nat
 | none=>[]
 | some r=>cD r.1 r.2
theorem xh{h:Nat}{t:Nd h}{r:cT}(hr:ni h t r):(bz r).Sublist (cD h t):=by
 rcases hr with ⟨_,a,k,b,hc,rfl⟩ | ⟨_,_,rfl⟩ | ⟨_,_,hr⟩
 ·show (cJ 0++[a,b].flatMap (cD h)).Sublist _
  rw [show cJ 0=[] from rfl,List.nil_append,List.flatMap_cons,List.flatMap_cons,List.flatMap_nil,List.append_nil,vI hc]
  exact lN h t
 ·exact List.Sublist.refl _
 ·cases h with
  | zero =>
   have hr:r=none:=hr;subst hr;exact List.nil_sublist _
  | succ h =>
   obtain ⟨c,e,rfl⟩:=hr;show (cD h c).Sublist (cJ t.1++t.2.2.flatMap (cD h))
   rw [e,List.flatMap_cons,List.flatMap_nil,List.append_nil];exact dA _ _
theorem rG{key:ByteArray}{f:List Pr→List Pr}{r r':cT}(hu:pQ key f r r'):(bz r').Sublist (bz r):=by
 cases r with
 | none=>exact xh (h:=0) (t:=(0,f [])) hu
 | some r =>
  obtain ⟨t',h1,h2⟩:=hu;exact (xh h2).trans (IL r.1 h1)
namespace T
open Go.RowKit
def fA:(h:Nat)→Nd h→Nat
 | 0,t=>if t.1=0 then 1 else 0
 | h+1,t=>if t.1=0 then (t.2.2.map (fA h)).sum+1 else 0
def bU{α β γ:Type}(g:α→Nat→β × List γ):List α→Nat→List β × List γ
 | [],_=>([],[])
 | c::cs,k=>((g c k).1::(bU g cs (k+(g c k).2.length)).1,(g c k).2++(bU g cs (k+(g c k).2.length)).2)
def lz{h:Nat}:List (Nd h)→Int
 | []=>0
 | c::_=>(eX h c:Int)
def qv{h:Nat}(ks:List ByteArray)(cs:List (Nd h)):List B.Lk:=ks.zip (cs.tail.map fun c=>(eX h c:Int))
def aT(P:Nat→Nat):(h:Nat)→Nd h→Nat→Nd h × List (Nat × PD)
 | 0,t,k=>if t.1=0 then ((P k,t.2),[(P k,.leaf t.2)]) else (t,[])
 | h+1,t,k=>if t.1=0 then ((P (k+(bU (aT P h) t.2.2 k).2.length),t.2.1,(bU (aT P h) t.2.2 k).1),(bU (aT P h) t.2.2 k).2++[(P (k+(bU (aT P h) t.2.2 k).2.length),.br (lz (bU (aT P h) t.2.2 k).1) (qv t.2.1 (bU (aT P h) t.2.2 k).1))]) else (t,[])
theorem ir{α β γ:Type}(g:α→Nat→β × List γ):∀ (cs:List α) (k:Nat),(bU g cs k).1.length=cs.length
 | [],_=>rfl
 | c::cs,k=>by
  show (bU g cs (k+(g c k).2.length)).1.length+1=cs.length+1
  rw [ir g cs]
theorem r9{α β γ:Type}(g:α→Nat→β × List γ):∀ (cs:List α) (k i:Nat) (c:α),cs[i]?=some c→∃ ki,(bU g cs k).1[i]?=some (g c ki).1∧∀ x ∈ (g c ki).2,x ∈ (bU g cs k).2
 | [],_,i,c,h=>by simp at h
 | c0::cs,k,0,c,h=>by
  cases h;exact ⟨k,rfl,fun x hx=>dQ _ hx⟩
 | c0::cs,k,i+1,c,h=>by
  obtain ⟨ki,h1,h2⟩:=r9 g cs (k+(g c0 k).2.length) i c h;exact ⟨ki,h1,fun x hx=>ch _ (h2 x hx)⟩
theorem sd{h:Nat}{P:Nat→Nat}(ih:∀ (t:Nd h) (k:Nat),(aT P h t k).2.length=fA h t):∀ (cs:List (Nd h)) (k:Nat),(bU (aT P h) cs k).2.length=(cs.map (fA h)).sum
 | [],_=>rfl
 | c::cs,k=>by
  show ((aT P h c k).2++(bU (aT P h) cs (k+(aT P h c k).2.length)).2).length=fA h c+(cs.map (fA h)).sum
  rw [ae,ih,sd ih cs]
theorem pz{P:Nat→Nat}:∀ (h:Nat) (t:Nd h) (k:Nat),(aT P h t k).2.length=fA h t
 | 0,t,k=>by
  by_cases h0:t.1=0
  ·simp [aT,fA,h0]
  ·simp [aT,fA,h0]
 | h+1,t,k=>by
  by_cases h0:t.1=0
  ·simp [aT,fA,h0,sd (pz h)]
  ·simp [aT,fA,h0]
def pL(P:Nat→Nat)(k n:Nat):List Nat:=(List.range n).map fun j=>P (k+j)
theorem tC(P:Nat→Nat)(k n:Nat):pL P k (n+1)=pL P k n++[P (k+n)]:=by
 unfold pL;rw [List.range_succ,aW];rfl
theorem D8(P:Nat→Nat)(k m:Nat):∀ n,pL P k (m+n)=pL P k m++pL P (k+m) n
 | 0=>by simp [pL]
 | n+1=>by
  rw [← ed,tC,D8 P k m n,tC,ax,ed]
theorem D1{h:Nat}{P:Nat→Nat}(ih:∀ (t:Nd h) (k:Nat),(aT P h t k).2.map (·.1)=pL P k (aT P h t k).2.length):∀ (cs:List (Nd h)) (k:Nat),(bU (aT P h) cs k).2.map (·.1)=pL P k (bU (aT P h) cs k).2.length
 | [],_=>rfl
 | c::cs,k=>by
  show ((aT P h c k).2++(bU (aT P h) cs (k+(aT P h c k).2.length)).2).map (·.1)=pL P k ((aT P h c k).2++(bU (aT P h) cs (k+(aT P h c k).2.length)).2).length
  rw [aW,ih,D1 ih cs,ae,D8]
theorem BI{P:Nat→Nat}:∀ (h:Nat) (t:Nd h) (k:Nat),(aT P h t k).2.map (·.1)=pL P k (aT P h t k).2.length
 | 0,t,k=>by
  by_cases h0:t.1=0
  ·simp [aT,h0,pL]
  ·simp [aT,h0,pL]
 | h+1,t,k=>by
  by_cases h0:t.1=0
  ·have:=D1 (BI (P:=P) h) t.2.2 k;simp only [aT,h0,if_true,aW,ae,List.map_cons,List.map_nil,List.length_cons,List.length_nil];rw [this,Nat.zero_add,tC]
  ·simp [aT,h0,pL]
theorem AA{h:Nat}{P:Nat→Nat}(ih:∀ (t:Nd h) (k:Nat),flat h (aT P h t k).1=flat h t):∀ (cs:List (Nd h)) (k:Nat),(bU (aT P h) cs k).1.flatMap (flat h)=cs.flatMap (flat h)
 | [],_=>rfl
 | c::cs,k=>by
  show ((aT P h c k).1::(bU (aT P h) cs (k+(aT P h c k).2.length)).1).flatMap (flat h)=_
  rw [List.flatMap_cons,List.flatMap_cons,ih,AA ih cs]
theorem DZ{P:Nat→Nat}:∀ (h:Nat) (t:Nd h) (k:Nat),flat h (aT P h t k).1=flat h t
 | 0,t,k=>by
  by_cases h0:t.1=0
  ·simp [aT,h0,flat]
  ·simp [aT,h0]
 | h+1,t,k=>by
  by_cases h0:t.1=0
  ·have:=AA (DZ (P:=P) h) t.2.2 k;simp only [aT,h0,if_true];exact this
  ·simp [aT,h0]
theorem BH{P:Nat→Nat}(h:Nat)(t:Nd h)(k:Nat):np h (aT P h t k).1=np h t:=by
 cases h with
 | zero =>
  by_cases h0:t.1=0
  ·simp [aT,h0,np]
  ·simp [aT,h0]
 | succ h =>
  by_cases h0:t.1=0
  ·simp [aT,h0,np]
  ·simp [aT,h0]
theorem Ov{P:Nat→Nat}(h:Nat)(t:Nd h)(k:Nat)(hs:wM h t):wM h (aT P h t k).1:=by
 cases h with
 | zero =>
  by_cases h0:t.1=0
  ·simp only [aT,h0,if_true];exact hs
  ·simp only [aT,h0,if_false];exact hs
 | succ h =>
  by_cases h0:t.1=0
  ·simp only [aT,h0,if_true];exact hs
  ·simp only [aT,h0,if_false];exact hs
theorem vR{h:Nat}{P:Nat→Nat}(ih:∀ (t:Nd h) (k:Nat) (lo hi:Option ByteArray),mF h t lo hi→mF h (aT P h t k).1 lo hi):∀ (cs:List (Nd h)) (ks:List ByteArray) (k:Nat) (lo hi:Option ByteArray),ig (mF h) lo hi ks cs→ig (mF h) lo hi ks (bU (aT P h) cs k).1
 | [],ks,_,_,_,ho=>by cases ks <;> simp [ig] at ho
 | [c],[],k,lo,hi,ho=>by
  have ho:mF h c lo hi:=ho;exact ih c k lo hi ho
 | [_],[_],_,_,_,ho=>by simp [ig] at ho
 | [_],_::_::_,_,_,_,ho=>by simp [ig] at ho
 | _::_::_,[],_,_,_,ho=>by simp [ig] at ho
 | c::d::cs,k0::ks,k,lo,hi,ho=>by
  obtain ⟨h1,h2,h3,h4⟩:=ho;have:=vR ih (d::cs) ks (k+(aT P h c k).2.length) (some k0) hi h4;exact ⟨h1,h2,ih c k _ _ h3,this⟩
theorem qy{P:Nat→Nat}:∀ (h:Nat) (t:Nd h) (k:Nat) (lo hi:Option ByteArray),Ok h t lo hi→Ok h (aT P h t k).1 lo hi
 | 0,t,k,lo,hi,ho=>by
  by_cases h0:t.1=0
  ·simp only [aT,h0,if_true];exact ho
  ·simp only [aT,h0,if_false];exact ho
 | h+1,t,k,lo,hi,ho=>by
  by_cases h0:t.1=0
  ·simp only [aT,h0,if_true];exact vR (fun t k lo hi hf=>⟨qy h t k lo hi hf.1,by unfold Full;rw [BH];exact hf.2⟩) t.2.2 t.2.1 k lo hi ho
  ·simp only [aT,h0,if_false];exact ho
theorem Az{h:Nat}{P:Nat→Nat}(ih:∀ (t:Nd h) (k:Nat),(cD h (aT P h t k).1).Perm (cD h t++(aT P h t k).2.map (·.1))):∀ (cs:List (Nd h)) (k:Nat),((bU (aT P h) cs k).1.flatMap (cD h)).Perm (cs.flatMap (cD h)++(bU (aT P h) cs k).2.map (·.1))
 | [],_=>List.Perm.refl _
 | c::cs,k=>by
  show (cD h (aT P h c k).1++(bU (aT P h) cs (k+(aT P h c k).2.length)).1.flatMap (cD h)).Perm ((cD h c++cs.flatMap (cD h))++((aT P h c k).2++(bU (aT P h) cs (k+(aT P h c k).2.length)).2).map (·.1))
  rw [aW];refine ((ih c k).append (Az ih cs _)).trans ?_
  rw [ax,ax];refine List.Perm.append_left _ ?_
  rw [← ax,← ax];exact List.Perm.append_right _ List.perm_append_comm
theorem DW{P:Nat→Nat}(hP:∀ j,P j≠0):∀ (h:Nat) (t:Nd h) (k:Nat),(cD h (aT P h t k).1).Perm (cD h t++(aT P h t k).2.map (·.1))
 | 0,t,k=>by
  by_cases h0:t.1=0
  ·simp only [aT,h0,if_true,cD,cJ,hP,if_false];exact List.Perm.refl _
  ·simp only [aT,h0,if_false,List.map_nil,List.append_nil];exact List.Perm.refl _
 | h+1,t,k=>by
  by_cases h0:t.1=0
  ·have:=Az (DW hP h) t.2.2 k;simp only [aT,h0,if_true,cD,cJ,hP,if_false,List.nil_append,aW,List.map_cons,List.map_nil];rw [← ax];exact (List.perm_append_comm).trans (List.Perm.append_right _ this)
  ·simp only [aT,h0,if_false,List.map_nil,List.append_nil];exact List.Perm.refl _
theorem DX{P:Nat→Nat}(hP:∀ j,P j≠0)(h:Nat)(t:Nd h)(k:Nat):eX h (aT P h t k).1≠0:=by
 cases h with
 | zero =>
  by_cases h0:t.1=0
  ·simp only [aT,h0,if_true];exact hP _
  ·simp only [aT,h0,if_false];exact h0
 | succ h =>
  by_cases h0:t.1=0
  ·simp only [aT,h0,if_true];exact hP _
  ·simp only [aT,h0,if_false];exact h0
theorem ET{h:Nat}{t:Nd h}(hp:eX h t≠0):fA h t=0:=by
 cases h with
 | zero=>exact if_neg hp
 | succ h=>exact if_neg hp
theorem Im{d:S.V.bD}{key:ByteArray}{w:World}{l:List Pr}:∀ {ss:List (kT XT)} {x y:XT},Way (iH d) (fun n q=>B.gU n.lk key q) w x ss y→Go.Proofs.YtihmgigfkmofnaaGreatDoor.Way key y.1 y.2 l→Go.Proofs.YtihmgigfkmofnaaGreatDoor.Way key x.1 x.2 l
 | [],_,_,h,hw=>by
  have h:_=_:=h;subst h;exact hw
 | s::ss,x,y,⟨h1,h2,h3,h4,h5,z,h6,h7⟩,hw=>by
  have ih:=Im h7 hw;subst h1;obtain ⟨b,n,i,⟨hh,t⟩⟩:=s;cases hh with
  | zero=>exact h6.elim
  | succ h =>
   obtain ⟨c,hc,rfl⟩:=h6;obtain ⟨_,hn,hg⟩:=h2;have hn:aU (cU d) w (h+1) n t:=hn;have hc:t.2.2[i]?=some c:=hc;have ny:t.2.1=n.lk.map (·.1):=hn.2.2.2.1;have zg:t.2.2.length=t.2.1.length+1:=by rw [← hn.1,hn.len,ny,az]
   obtain ⟨lo,hi,ho⟩:=hg.1;have uF:=kH ((iA h t lo hi).1 ho);rw [ny] at uF;obtain ⟨W6,WZ⟩:=qq h4 uF;simp only at W6 WZ;rw [← ny] at W6 WZ;obtain ⟨e1,e2,el,ei⟩:=wL zg hc;exact ⟨_,_,_,c,_,e1,e2,el,W6,WZ,ih⟩
def Tm(d:S.V.bD)(key:ByteArray)(r:cT)(bs:Nat)(e:Ending)(w':World):Prop :=
 (r=none∧e = .returned (.tuple #[.slice none 0 0,.nilIface])) ∨
 ∃ (x:XT) (ss:List (kT XT)) (s:kT XT) (a:Option Addr) (c:Nat) (pv lv cv:Value) (t0:Nd 0),r=some x∧e = .returned (.tuple #[.slice a (ss.length+1) c,.nilIface])∧sP w' bs (.slice a (ss.length+1) c) (ss.map kT.lk++[s.lk])∧Way (iH d) (fun n q=>B.gU n.lk key q) w' x ss ⟨0,t0⟩∧dM w' s.b s.n pv lv cv∧s.n.ps=t0.2∧fQ t0.2≤4072∧ss.length≤63∧Go.Proofs.YtihmgigfkmofnaaGreatDoor.Way key x.1 x.2 t0.2
theorem Tm.of{A:Nat→Addr}{d:S.V.bD}{key:ByteArray}{x:XT}{bs:Nat}{e:Ending}{w':World}(h:kR (iH d) (fun n q=>B.gU n.lk key q) A [] x bs e w'):Tm d key (some x) bs e w':=by
 rcases h with ⟨hE,_⟩ | ⟨ss,s,a,c,he,ho,hw,⟨⟨pv,lv,cv,hs⟩,hn⟩,h0,Cx,hl⟩
 ·exact (hE:False).elim
 ·simp only [List.length_nil,Nat.zero_add,List.nil_append] at he ho hl;obtain ⟨hn,hg⟩:=hn;obtain ⟨b,n,i,⟨hh,t⟩⟩:=s;cases hh with
  | zero=>exact .inr ⟨x,ss,⟨b,n,i,⟨0,t⟩⟩,a,c,pv,lv,cv,t,rfl,he,ho,hw,hs,hn.2,hg.2,hl,Im hw rfl⟩
  | succ h=>exact absurd (List.length_eq_zero_iff.1 h0) hn.2.1
section
variable {base:Nat} {A:Nat→Addr} {db:Nat} {F:Nat→Prop} {d:S.V.bD} {W0:World} {r:cT}
theorem ud{w w1:World}{tb:Nat}(key:ByteArray)(hc:Ts base A db F d W0 w tb r)(hn:(aP r).length≤4611686018427387904)(hb:Below w.heap.size w w1):Calls prog 46 #[.pointer (some ⟨tb,0,none⟩),.string key] w1 fun e w'=>Tm d key r w.heap.size e w'∧Dv base A db F d w'∧Mv db F w w':=by
 obtain ⟨rv,ht,hr⟩:=hc.tr;have hv:=hc.dv.below hb;have hm:Mv db F w w1:=Mv.of hb;rcases hr with ⟨rfl,rfl⟩ | ⟨p,h,t,rfl,rfl,hk⟩
 ·refine (FQ tb _ key w1 (ht.below hb)).mono fun e w' ⟨he,hb⟩=>⟨.inl ⟨rfl,he⟩,hv.below hb,hm.trans (Mv.of hb)⟩
 ·refine (FP (iH d) p ⟨h,t⟩ tb key w w1 ⟨hk.cx (dd.of hb),lK hc.ok⟩ (ht.below hb) hv hm hc.dv (.inr (og hc.ok hn))).mono fun e w' ⟨h1,h2,h3⟩=>⟨Tm.of h1,h2,h3⟩
theorem Kj{w:World}{tb:Nat}(key value:ByteArray)(hc:Ts base A db F d W0 w tb r)(hn:(aP r).length≤4611686018427387904)(ep:key.size≤140737488355328)(TX:value.size≤140737488355328):Calls prog 15 #[.pointer (some ⟨tb,0,none⟩),.string key,.string value] w fun e w'=>(cF (key,value)=true∧e = .returned .nilIface∧∃ r',pQ key (fun l=>eT l key value) r r'∧Ts base A db F d W0 w' tb r')∨(¬ cF (key,value)=true∧e = .returned (.iface 360 (.pointer (some (A 0))))∧Ts base A db F d W0 w' tb r):=by
 have Md:=ab (xj A key value w ep TX hc.dv.B0);have HC:=ab hc;have HN:=ab hn;clear hc hn;by_cases hm:cF (key,value)=true
 ·rw [if_pos hm] at Md;have hmp:=eu hm;have HM:=ab hm;clear ep TX hm;go_enter func15,ntmps15;go_wp2_with fail;refine Md.out.mono ?_
  rintro e w1 ⟨rfl,aN⟩;have Wc:=ab (ud key HC.out HN.out aN);clear aN Md;go_wp2_with fail;refine Wc.out.mono ?_
  rintro e w2 ⟨hwa,nF,qJ⟩;have wi:=ab nF;have JE:=ab qJ;have Qx:=ab (HC.out.mv qJ nF);obtain ⟨rv,ht,Vi⟩:=Qx.out.tr;have Ba:=ab ht;have HRF:=ab Vi;rcases hwa with ⟨hrn,rfl⟩ | ⟨x,ss,s,a,c,pv,lv,cv,t0,hrx,rfl,ho,kt,hs,nG,cp,hl,-⟩
  ·subst hrn;have zI:rv = .nilIface:=by
    rcases HRF.out with ⟨h,_⟩ | ⟨_,_,_,_,h,_⟩
    ·exact h
    ·cases h
   subst zI;clear nF qJ Wc ht Vi;go_wp2_with fail;refine (rM w2).mono ?_
   rintro e w2' ⟨rfl,rfl⟩;go_wp2_with fail;refine (mN key w2 (by omega)).mono ?_
   rintro e w3 ⟨rfl,b6⟩;have dH:=ab b6;clear b6;go_wp2_with fail;refine (mN value w3 (by omega)).mono ?_
   rintro e w4 ⟨rfl,gH⟩;have gY:=ab (Below.next dH.out gH);clear gH;go_wp2_with fail;refine (DL (.slice none 0 0) [] key value w4 (by simp) (gZ.nil _)).mono ?_
   rintro e w5 ⟨u,rfl,hu,fk⟩;have gu:=ab (Below.next gY.out fk);have Rh:=ab (B6 key (fun l=>eT l key value) (ll HM.out) HC.out (JE.out.trans (Mv.of gu.out)) (wi.out.below gu.out) (Ba.out.below gu.out) hu.at)
   obtain ⟨ua,uc,ON⟩:=hu.form;subst ON;clear hu fk;go_wp2_with fail;refine Rh.out.mono ?_
   rintro e w6 ⟨rfl,htc⟩;have Qy:=ab htc;clear htc Rh;go_wp2;go_ret;exact .inl ⟨HM.out,rfl,Qy.out⟩
  ·subst hrx;have Re:Hid (rv = .nilIface∨∃ t x,rv = .iface t x):=HRF.out.form;have HO:=ab ho;have HW:=ab kt;have yP:=ab nG;have gM:=ab cp;have HL:=ab hl;have JC:=ab (rL a ss.length c (ss.map kT.lk) s.lk s.n pv lv cv w2 (by rw [az]) (by omega) ho.1.at hs)
   have Xp:=ab hs.jj;have HPM:=ab hs.fine.1;obtain ⟨m,O5⟩ : ∃ m,m=ss.length:=⟨_,rfl⟩;have Fi:=ab O5;rw [← O5] at JC HO HL ⊢;obtain ⟨xa,xc,KR⟩:=hs.jj.form;subst KR;clear ho kt hs nG cp hl nF qJ Wc O5 ht Vi;go_wp2_with fail;refine JC.out.mono ?_
   rintro e w2' ⟨rfl,rfl⟩;go_wp2_with fail;refine (mN key w2 (by omega)).mono ?_
   rintro e w3 ⟨rfl,b6⟩;have dH:=ab b6;clear b6;go_wp2_with fail;refine (mN value w3 (by omega)).mono ?_
   rintro e w4 ⟨rfl,gH⟩;have gY:=ab (Below.next dH.out gH);clear gH;go_wp2_with fail;refine (DL _ s.n.ps key value w4 (by have:=ko s.n.ps;have:=gM.out;rw [← yP.out] at this;omega) (Xp.out.below gY.out)).mono ?_
   rintro e w5 ⟨u,rfl,hu,fk⟩;have gu:=ab (Below.next gY.out fk);have uJ:=sE (s:=s) (t0:=t0) key (fun l=>eT l key value) (ll HM.out) HC.out (JE.out.trans (Mv.of gu.out)) (wi.out.below gu.out) (Ba.out.below gu.out) Re.out (by have:=HL.out;have:=Fi.out;omega) (by rw [← Fi.out];exact HO.out.below gu.out) (HW.out.cx (dd.of gu.out)) gM.out (by rw [← yP.out];exact HPM.out) (by rw [← yP.out];exact hu.at)
   rw [← Fi.out] at uJ;have Rh:=ab uJ;obtain ⟨ua,uc,ON⟩:=hu.form;subst ON;clear hu fk uJ;go_wp2_with fail;refine Rh.out.mono ?_
   rintro e w6 ⟨rfl,htc⟩;have Qy:=ab htc;clear htc Rh;go_wp2;go_ret;exact .inl ⟨HM.out,rfl,Qy.out⟩
 ·rw [if_neg hm] at Md;have HM:=ab hm;clear ep TX hm;go_enter func15,ntmps15;go_wp2_with fail;refine Md.out.mono ?_
  rintro e w1 ⟨rfl,aN⟩;have Qy:=ab (HC.out.below aN);clear aN Md;go_wp2;go_ret;exact .inr ⟨HM.out,rfl,Qy.out⟩
end
end T
end Go.Proofs.YtihmgigfkmofnaaGreatDoor
