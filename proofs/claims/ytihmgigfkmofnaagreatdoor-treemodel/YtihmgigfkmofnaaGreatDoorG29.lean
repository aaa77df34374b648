import Derived.Test.YtihmgigfkmofnaaGreatDoorG26
import Derived.Test.YtihmgigfkmofnaaGreatDoorFNew2
set_option maxHeartbeats 4000000
set_option maxRecDepth 100000
open Go.Proofs.Tryz
namespace Go.Proofs.YtihmgigfkmofnaaGreatDoor
namespace T
open Go.RowKit
theorem EN(p:Option Addr)(w:World):(binOp .eql 32 (.iface 360 (.pointer p)) .nilIface).run prog w = .ok (.bool false) w:=by
 have h2:∀ d:Nat,(Op.equalIn (d+1) 32 (.iface 360 (.pointer p)) .nilIface).run prog w = .ok false w:=fun d=>by
  simp [Op.equalIn,run_underlying underlying32]
 simp only [binOp];simp [Op.equal,Op.maxDepth,h2 9999]
theorem rQ(A:Nat→Addr)(w:World)(h:du 13 fl A w):Calls prog 14 #[.iface 360 (.pointer (some (A 0)))] w fun e w'=>e = .returned (.int .i64 1)∧w=w':=by
 have c0:w.cell? ⟨0,0,none⟩=some (.iface 360 (.pointer (some (A 0)))):=(h.1 0 (by decide)).1
 have e0:=Js A 0;have hn:=fun W=>EN (some (A 0)) W
 clear h;go_enter func14,ntmps14;go_wp2;go_ret;exact ⟨rfl,rfl⟩
theorem aU.bU{PG:Int→Option PD}{w w':World}(ha:cM w w'):∀ (h:Nat) {n:SN} {t:Nd h},aU PG w h n t→aU PG w' h n t
 | 0,_,_,hn=>hn
 | h+1,n,t,hn=>⟨hn.1,hn.2.1,hn.2.2.1,hn.2.2.2.1,fun i p c h1 h2=>by
  have:=hn.2.2.2.2 i p c h1 h2;cases p with
  | pg id=>exact this
  | nd b =>
   obtain ⟨h0,m,pv,lv,cv,hs,hm⟩:=this;exact ⟨h0,m,pv,lv,cv,hs.bU ha,aU.bU ha h hm⟩⟩
theorem eu.bU{PG:Int→Option PD}{w w':World}{h:Nat}{p:C.Ch}{t:Nd h}(hk:eu PG w h p t)(ha:cM w w'):eu PG w' h p t:=by
 cases p with
 | pg id=>exact hk
 | nd b =>
  obtain ⟨h0,m,pv,lv,cv,hs,hm⟩:=hk;exact ⟨h0,m,pv,lv,cv,hs.bU ha,hm.bU ha h⟩
abbrev XT:=(h:Nat) × Nd h
theorem kR{α:Type}{P:α→Option ByteArray→Option ByteArray→Prop}:∀ {lo hi:Option ByteArray} {ks:List ByteArray} {cs:List α},gX P lo hi ks cs→∀ (i:Nat) (c:α),cs[i]?=some c→∃ pQ mz,P c pQ mz
 | _,_,[],[],h,_,_,_=>by simp [gX] at h
 | lo,hi,[],[c'],h,i,c,hc=>by
  cases i with
  | zero=>cases hc;exact ⟨lo,hi,h⟩
  | succ i=>simp at hc
 | _,_,[],_::_::_,h,_,_,_=>by simp [gX] at h
 | _,_,_::_,[],h,_,_,_=>by simp [gX] at h
 | lo,_,k::ks,c'::cs,h,i,c,hc=>by
  cases i with
  | zero=>cases hc;exact ⟨lo,some k,h.2.2.1⟩
  | succ i=>exact kR h.2.2.2 i c hc
def jI:XT→Prop
 | ⟨0,t⟩=>(∃ lo hi,Ok 0 t lo hi)∧nK 0 t≤4072
 | ⟨h+1,t⟩=>(∃ lo hi,Ok (h+1) t lo hi)∧nK (h+1) t≤4072∧1≤t.2.1.length
def X6:XT→Nat→XT→Prop
 | ⟨0,_⟩,_,_=>False
 | ⟨h+1,t⟩,i,y=>∃ c:Nd h,t.2.2[i]?=some c∧y=⟨h,c⟩
theorem Lr{h:Nat}{c:Nd h}{lo hi:Option ByteArray}(ho:ld h c lo hi):jI ⟨h,c⟩:=by
 cases h with
 | zero=>exact ⟨⟨lo,hi,ho.1⟩,ho.2.2⟩
 | succ h =>
  refine ⟨⟨lo,hi,ho.1⟩,ho.2.2,?_⟩;have h1:1777≤fD c.2.1:=ho.2.1;cases hk:c.2.1 with
  | nil=>rw [hk] at h1;have:fD []=6:=rfl;omega
  | cons _ _=>simp
theorem mC{h:Nat}{t:Nd (h+1)}{i:Nat}{c:Nd h}(hg:jI ⟨h+1,t⟩)(hc:t.2.2[i]?=some c):jI ⟨h,c⟩:=by
 obtain ⟨⟨lo,hi,ho⟩,_⟩:=hg;obtain ⟨pQ,mz,hf⟩:=kR ((fy h t lo hi).1 ho) i c hc;exact Lr hf
theorem lz{PG:Int→Option PD}{w:World}{n:SN}{x:XT}(hn:aU PG w x.1 n x.2)(hg:jI x):Fit n:=by
 obtain ⟨h,t⟩:=x;have cx:=hn.sz;cases h with
 | zero =>
  refine ⟨.inl (by rw [hn.1];rfl),?_,.inl (by rw [hn.1];rfl)⟩
  have hz:n.sz=nK 0 t:=cx;have:nK 0 t≤4072:=hg.2;omega
 | succ h =>
  refine ⟨hn.2.2.1,?_,.inr ?_⟩
  ·have hz:n.sz=nK (h+1) t:=cx;have:nK (h+1) t≤4072:=hg.2.1;omega
  ·have h1:1≤t.2.1.length:=hg.2.2;have h2:t.2.1=n.lk.map (·.1):=hn.2.2.2.1;rw [h2,aA] at h1;exact h1
theorem IV{PG:Int→Option PD}{id:Int}{x:XT}(hp:gE PG x.1 id x.2):∃ p,PG id=some p∧∀ w,aU PG w x.1 p.sn x.2:=by
 obtain ⟨h,t⟩:=x;cases h with
 | zero =>
  obtain ⟨_,_,AL⟩:=hp;exact ⟨_,AL,fun w=>⟨rfl,rfl⟩⟩
 | succ h =>
  obtain ⟨_,_,f,lk,AL,jE,hlen,uJ⟩:=hp;refine ⟨_,AL,fun w=>⟨by show (zj f lk).length=t.2.2.length;rw [pA,hlen],by simp [PD.sn,zj],.inr (by show (zj f lk).length=lk.length+1;rw [pA]),jE,fun i p c h1 h2=>?_⟩⟩
  obtain ⟨x,sN,rfl⟩:=Bw f lk i p h1;exact uJ i c x h2 sN
def de(d:S.V.bq):Sys d XT where
 K:=fun w p x=>eu (cJ d) w x.1 p x.2∧jI x
 N:=fun w n x=>aU (cJ d) w x.1 n x.2∧jI x
 E:=False
 sub:=X6
 rk:=fun x=>x.1
 ka:=fun ha h=>⟨h.1.bU ha,h.2⟩
 na:=fun ha h=>⟨h.1.bU ha _,h.2⟩
 pS:=fun {w n x i p} hn hp=>by
  obtain ⟨h,t⟩:=x;obtain ⟨hn,hg⟩:=hn;cases h with
  | zero =>
   have:n.us=[]:=hn.1;rw [this] at hp;simp at hp
  | succ h =>
   have hi:=(List.getElem?_eq_some_iff.1 hp).1;have hl:n.us.length=t.2.2.length:=hn.1;have hc:t.2.2[i]?=some (t.2.2[i]'(by omega)):=af (by omega)
   exact ⟨⟨h,t.2.2[i]'(by omega)⟩,⟨_,hc,rfl⟩,hn.pS hp hc,mC hg hc⟩
 fit:=fun h=>lz h.1 h.2
 gQ:=fun h=>by
  obtain ⟨p,h1,h2⟩:=IV h.1;exact .inr ⟨p,h1,fun w'=>⟨h2 w',h.2⟩⟩
 node:=fun h=>by
  obtain ⟨⟨_,m,pv,lv,cv,hs,hm⟩,hg⟩:=h;exact ⟨m,pv,lv,cv,hs,hm,hg⟩
 Xh:=.inr fun x i y hs=>by
  obtain ⟨h,t⟩:=x;cases h with
  | zero=>exact hs.elim
  | succ h =>
   obtain ⟨c,_,rfl⟩:=hs;exact aj _
theorem As{α:Type}{P:α→Option ByteArray→Option ByteArray→Prop}:∀ {lo hi:Option ByteArray} {ks:List ByteArray} {cs:List α},gX P lo hi ks cs→∀ k ∈ ks,gtB lo k
 | _,_,[],_,_,k,hk=>by simp at hk
 | _,_,_::_,[],h,_,_=>by simp [gX] at h
 | lo,_,k1::ks,c::cs,h,k,hk=>by
  rcases List.mem_cons.1 hk with rfl | hk
  ·exact h.1.1
  ·intro l hl;exact dk (h.1.1 l hl) (As h.2.2.2 k hk k1 rfl)
theorem jO{α:Type}{P:α→Option ByteArray→Option ByteArray→Prop}:∀ {lo hi:Option ByteArray} {ks:List ByteArray} {cs:List α},gX P lo hi ks cs→ks.Pairwise fun a b=>cX a b=true
 | _,_,[],_,_=>List.Pairwise.nil
 | _,_,_::_,[],h=>by simp [gX] at h
 | _,_,k1::ks,_::_,h=>List.Pairwise.cons (fun k hk=>As h.2.2.2 k hk k1 rfl) (jO h.2.2.2)
theorem nu{lk:List B.Lk}{key:ByteArray}{q:Nat}(hp:B.fI lk key q)(hs:(lk.map (·.1)).Pairwise fun a b=>cX a b=true):(∀ k ∈ (lk.map (·.1)).take q,cX key k=false)∧∀ k,((lk.map (·.1)).drop q).head?=some k→cX key k=true:=by
 refine ⟨fun k hk=>?_,fun k hk=>?_⟩
 ·obtain ⟨i,hi,rfl⟩:=aQ hk;rw [ag,aA] at hi;rw [bD];obtain ⟨j,rfl⟩ : ∃ j,q=j+1:=⟨q - 1,by omega⟩
  have hj:j<lk.length:=by have:=hp.1;omega
  have hle:=hp.2.2 j hj rfl;have h1:cX key lk[j].1=false:=by
   unfold B.DX at hle;rw [Bool.or_eq_true] at hle;rcases hle with h | h
   ·exact mw h
   ·rw [oV] at h;rw [of_decide_eq_true h];exact gS key
  rcases a7 i j with Td | Td
  ·have h2:=List.pairwise_iff_getElem.1 hs i j (by rw [aA];omega) (by rw [aA];omega) Td
   rw [cd,cd] at h2;rw [cd];cases h:cX key lk[i].1
   ·rfl
   ·rw [dk h h2] at h1;cases h1
  ·have e:i=j:=by omega
   subst e;rw [cd];exact h1
 ·rw [List.head?_drop] at hk;obtain ⟨hq,hv⟩:=List.getElem?_eq_some_iff.1 hk;rw [aA] at hq;rw [cd] at hv;have hle:=hp.2.1 q hq (aj _);unfold B.DX at hle;rw [Bool.or_eq_false_iff] at hle;rw [← hv];cases h:cX key lk[q].1
  ·have:=mu (a:=key) (b:=lk[q].1) h hle.1;rw [oV] at hle;have:=of_decide_eq_false hle.2;exact absurd (by assumption:key=lk[q].1).symm this
  ·rfl
theorem ml{α:Type}{ks:List ByteArray}{cs:List α}{q:Nat}{c:α}(hl:cs.length=ks.length+1)(hc:cs[q]?=some c):ks=ks.take q++ks.drop q∧cs=cs.take q++c::cs.drop (q+1)∧(ks.take q).length=(cs.take q).length∧(cs.take q).length=q:=by
 obtain ⟨hq,hv⟩:=List.getElem?_eq_some_iff.1 hc;refine ⟨(aG q ks).symm,?_,?_,?_⟩
 ·rw [← hv,← bf hq,aG]
 ·rw [ag,ag];omega
 ·rw [ag];omega
def FlS(d:S.V.bq)(key:ByteArray)(f:List Pr→List Pr)(w:World)(n:SN)(x:XT):Prop:=∃ t',aU (cJ d) w x.1 n t'∧XG key f x.1 x.2 t'∧fx x.1 t'=0
theorem aU.zn{PG:Int→Option PD}{w:World}{h:Nat}{n:SN}{t:Nd h}(hn:aU PG w h n t):n.zn:=by
 cases h with
 | zero=>exact .inl (by rw [hn.1];rfl)
 | succ h=>exact hn.2.2.1
theorem aU.kind{PG:Int→Option PD}{w w':World}{h:Nat}{n m:SN}{t u:Nd h}(hn:aU PG w h n t)(hm:aU PG w' h m u):n.us.length=0↔m.us.length=0:=by
 cases h with
 | zero=>rw [hn.1,hm.1]
 | succ h=>exact ⟨fun e=>absurd (List.length_eq_zero_iff.1 e) hn.2.1,fun e=>absurd (List.length_eq_zero_iff.1 e) hm.2.1⟩
theorem Wr{d:S.V.bq}{key:ByteArray}{f:List Pr→List Pr}(W:World)(n:SN)(x:XT)(h:FlS d key f W n x):n.zn:=by
 obtain ⟨t',h1,_⟩:=h;exact h1.zn
theorem pM{PG:Int→Option PD}{w W:World}{h b:Nat}{n:SN}{t:Nd h}{pv lv cv:Value}(hn:aU PG w h n t)(hs:dG W b n pv lv cv):h=0∨3≤n.lk.length∨¬ 4072<n.sz:=by
 cases h with
 | zero=>exact .inl rfl
 | succ h =>
  right
  by_cases hb:4072<n.sz
  ·left
   rw [SN.Ny (fun e=>hn.2.1 (List.length_eq_zero_iff.1 e)),← wH] at hb
   have hm:=CW (l:=n.lk.map (·.1)) (fun k hk=>by
    obtain ⟨p,hp,rfl⟩:=List.mem_map.1 hk;exact hs.fine.2.2.1 p hp)
   rw [aA] at hm;omega
  ·exact .inr hb
theorem IL{h:Nat}(a b:Nd h)(k:ByteArray):fx h (js h a k b)=0:=by cases h <;> rfl
theorem Ab{PG:Int→Option PD}{w:World}{h:Nat}{n:SN}{t:Nd h}(hn:aU PG w h n t):n.sz<n.min↔small h t:=by unfold small;rw [hn.sz,hn.min]
theorem Bl{base:Nat}{A:Nat→Addr}{db:Nat}{F:Nat→Prop}{d:S.V.bq}(key:ByteArray)(f:List Pr→List Pr)(tb:Nat)(rv:Value)(W:World)(s:eT XT)(z:XT)(bb:Nat)(nb:SN)(pb lb cb:Value)(hv:Dv base A db F d W)(ht:B.ax W tb #[.pointer (some ⟨db,0,none⟩),rv] 100)(cT:RE (de d) W s)(xV:¬ s.n.us.length=0)(vU:B.fI s.n.lk key s.at')(bP:s.at'<s.n.us.length)(lC:(de d).sub s.x s.at' z)(hs:dG W bb nb pb lb cb)(iB:FlS d key f W nb z):Calls prog 82 #[.pointer (some ⟨tb,0,none⟩),.agg #[.pointer (some ⟨s.b,0,none⟩),.int .i64 (s.at':Int)],.pointer (some ⟨bb,0,none⟩)] W fun e w'=>UpS (de d) A (FlS d key f) s.x e w'∧Dv base A db F d w'∧Mv db F W w':=by
 obtain ⟨⟨pv,lv,cv,Pf⟩,hn⟩:=cT;obtain ⟨b,n,i,⟨hh,t⟩⟩:=s;cases hh with
 | zero=>exact lC.elim
 | succ h =>
 obtain ⟨c,hc,rfl⟩:=lC;obtain ⟨hn,hg⟩:=hn;have hn:aU (cJ d) W (h+1) n t:=hn;have hc:t.2.2[i]?=some c:=hc;obtain ⟨c',sO,Ur,AL⟩:=iB;have sO:aU (cJ d) W h nb c':=sO;have Ur:XG key f h c c':=Ur;have AL:fx h c'=0:=AL;simp only at Pf xV vU bP ⊢;have eE:=lz (x:=⟨h+1,t⟩) hn hg;have hlen:=hn.len;have cx:=eE.2.1;rw [SN.Ny xV] at cx;have h1:=eE.2.2.resolve_left xV;have Uz:=B.rz n.lk;have jE:t.2.1=n.lk.map (·.1):=hn.2.2.2.1;have dm:t.2.1.length=n.lk.length:=by rw [jE,aA]
 have rl:t.2.2.length=t.2.1.length+1:=by rw [← hn.1,hlen,dm]
 obtain ⟨lo,hi,ho⟩:=hg.1;have oL:=jO ((fy h t lo hi).1 ho);rw [jE] at oL;obtain ⟨Rn,Rm⟩:=nu vU oL;rw [← jE] at Rn Rm;obtain ⟨e1,e2,el,ei⟩:=ml rl hc;have gT:=sO.zn;-- what is to be shown of a node that H7 makes
 have Ph:∀ (w':World) (b':Nat) (n':SN) (p' l' c2:Value) (ks:List ByteArray) (cs:List (Nd h)),dG w' b' n' p' l' c2→aU (cJ d) w' (h+1) n' (0,ks,cs)→Cb h (t.2.1.take i) (t.2.1.drop i) (t.2.2.take i) c' (t.2.2.drop (i+1)) ks cs→UpS (de d) A (FlS d key f) ⟨h+1,t⟩ (.returned (.tuple #[.pointer (some ⟨b',0,none⟩),.nilIface])) w':=by
  intro w' b' n' p' l' c2 ks cs g1 g2 g3;exact .inr ⟨b',n',p',l',c2,rfl,g1,(0,ks,cs),g2,⟨_,_,_,c,_,e1,e2,el,Rn,Rm,c',ks,cs,Ur,g3,rfl⟩,rfl⟩
 by_cases zu:nb.sz<nb.min
 ·have Pg:=(Ab sO).1 zu;cases i with
  | zero =>
   obtain ⟨y,hy⟩ : ∃ y,t.2.2[1]?=some y:=⟨_,af (by omega)⟩
   obtain ⟨p,hp⟩ : ∃ p,n.us[1]?=some p:=⟨_,af (by omega)⟩
   refine (C7 (de d) tb rv b bb n nb pv lv cv pb lb cb ⟨h,y⟩ p W Pf hs bP hlen (by omega) (by omega) gT zu hp ⟨hn.pS hp hy,mC hg hy⟩ ht hv (.inr fun W' m hm=>(aU.kind (t:=y) (u:=c') hm.1 sO))).mono fun e w' hh=>⟨?_,hh.2⟩
   obtain ⟨hj,SV,hm'⟩:=hh;rcases hj with ⟨hE,_⟩ | ⟨b',w2,m,k,zz,bj,pj,lj,cj,rfl,iw,my,lZ,vw,YF,zp⟩
   ·exact hE.elim
   ·have aw:=iw.bU hv;have lZ:aU (cJ d) w2 h m y:=lZ.1;have Pt:=aU.bU aw (h+1) hn;have Pq:=aU.bU aw h sO;have ek:t.2.1=k::t.2.1.drop 1:=by
     have hx:t.2.1[0]?=some k:=by rw [jE,aL,my];rfl
     obtain ⟨sN,vR⟩:=List.getElem?_eq_some_iff.1 hx;have:=bf sN;rw [vR,List.drop_zero] at this;exact this
    have ec:t.2.2=c::y::t.2.2.drop 2:=by
     obtain ⟨sN,vR⟩:=List.getElem?_eq_some_iff.1 hc;obtain ⟨Xk,Xj⟩:=List.getElem?_eq_some_iff.1 hy;have a1:=bf sN;have a2:=bf Xk;rw [vR,List.drop_zero] at a1;rw [Xj] at a2;rw [← a2];exact a1
    have zv:=aU.set (C1:=[]) (C2:=y::t.2.2.drop 2) (c:=c) (x:=c') (p:=.nd bb) Pt ec ⟨AL,nb,pb,lb,cb,hs.bU aw,Pq⟩ [] n.f;have SZ:=aU.rem (K1:=[]) (K2:=t.2.1.drop 1) (C1:=[]) (C2:=t.2.2.drop 2) (a:=c') (b:=y) (k:=k) zv ek rfl rfl [] n.f;have Zm:=AG (key:=k) Pq lZ;obtain ⟨b2,n2,p2,l2,c2,ks,cs,he,g1,g2,g3,_⟩:=td (K1:=[]) (K2:=t.2.1.drop 1) (C1:=[]) (C2:=t.2.2.drop 2) (c:=c') (x:=js h c' k y) SZ rfl rfl rfl Zm YF (IL _ _ _) (pM Zm YF) zp;cases he;refine Ph w' b' n2 p2 l2 c2 ks cs g1 g2 (.inr (.inl ⟨Pg,rfl,rfl,k,_,y,_,ek,?_,g3⟩));have:=congrArg (List.drop 1) ec;exact this
  | succ j =>
   obtain ⟨y,hy⟩ : ∃ y,t.2.2[j]?=some y:=⟨_,af (by omega)⟩
   obtain ⟨p,hp⟩ : ∃ p,n.us[j]?=some p:=⟨_,af (by omega)⟩
   have AS:=C8 (de d) tb rv b bb n nb pv lv cv pb lb cb j ⟨h,y⟩ p W Pf hs bP hlen (by omega) (by omega) gT zu hp ⟨hn.pS hp hy,mC hg hy⟩ ht hv (.inr fun W' m hm=>(aU.kind (t:=y) (u:=c') hm.1 sO))
   rw [show ((j+1:Nat):Int)=(j:Int)+1 by omega]
   refine AS.mono fun e w' hh=>⟨?_,hh.2⟩
   obtain ⟨hj,SV,hm'⟩:=hh;rcases hj with ⟨hE,_⟩ | ⟨b',w2,m,k,zz,bj,pj,lj,cj,rfl,iw,my,lZ,vw,YF,zp⟩
   ·exact hE.elim
   ·have aw:=iw.bU hv;have lZ:aU (cJ d) w2 h m y:=lZ.1;have Pt:=aU.bU aw (h+1) hn;have Pq:=aU.bU aw h sO;have hx:t.2.1[j]?=some k:=by rw [jE,aL,my];rfl
    have ek1:t.2.1.take (j+1)=t.2.1.take j++[k]:=by rw [gm,hx];rfl
    have ec1:t.2.2.take (j+1)=t.2.2.take j++[y]:=by rw [gm,hy];rfl
    have ek:t.2.1=t.2.1.take j++k::t.2.1.drop (j+1):=by
     have:=e1;rw [ek1,ay] at this;exact this
    have lj1:(t.2.1.take j).length=(t.2.2.take j).length:=by rw [ag,ag];omega
    have lj2:(t.2.2.take j).length=j:=by rw [ag];omega
    have zv:=aU.set (C1:=t.2.2.take (j+1)) (C2:=t.2.2.drop (j+1+1)) (c:=c) (x:=c') (p:=.nd bb) Pt e2 ⟨AL,nb,pb,lb,cb,hs.bU aw,Pq⟩ [] n.f;rw [ei] at zv;have SZ:=aU.rem (K1:=t.2.1.take j) (K2:=t.2.1.drop (j+1)) (C1:=t.2.2.take j) (C2:=t.2.2.drop (j+1+1)) (a:=y) (b:=c') (k:=k) zv ek (by show t.2.2.take (j+1)++c'::_=_;rw [ec1,ay];rfl) lj1 [] n.f
    rw [lj2] at SZ;have Zm:=AG (key:=k) lZ Pq;have VI:mL w2 ⟨[],n.f,B.cH n.lk j,C.cH (n.us.set (j+1) (.nd bb)) (j+1)⟩ (t.2.2.take j).length bj (m.join k nb) (.returned (.pointer (some ⟨b',0,none⟩))) w':=by rw [lj2];exact zp
    obtain ⟨b2,n2,p2,l2,c2,ks,cs,he,g1,g2,g3,_⟩:=td (K1:=t.2.1.take j) (K2:=t.2.1.drop (j+1)) (C1:=t.2.2.take j) (C2:=t.2.2.drop (j+1+1)) (c:=y) (x:=js h y k c') SZ rfl rfl lj1 Zm YF (IL _ _ _) (pM Zm YF) VI;cases he;exact Ph w' b' n2 p2 l2 c2 ks cs g1 g2 (.inr (.inr ⟨Pg,_,k,_,y,ek1,ec1,g3⟩))
 ·refine (Bm A tb b bb n nb pv lv cv pb lb cb i W Pf hs bP hlen (by omega) gT zu hv.zJ).mono fun e w' hh=>?_
  obtain ⟨b',rfl,zp⟩:=hh;have bO:=zp.below;have VI:mL W n (t.2.2.take i).length bb nb (.returned (.pointer (some ⟨b',0,none⟩))) w':=by rw [ei];exact zp
  obtain ⟨b2,n2,p2,l2,c2,ks,cs,he,g1,g2,g3,_⟩:=td hn e1 e2 el sO hs AL (pM sO hs) VI;cases he;exact ⟨Ph w' b' n2 p2 l2 c2 ks cs g1 g2 (.inl ⟨fun h=>zu ((Ab sO).2 h),g3⟩),hv.below bO,Mv.of bO⟩
theorem EF{h:Nat}{cs:List (Nd h)}(hl:2≤cs.length)(hc:∀ c ∈ cs,2 ^ h≤(flat h c).length):2 ^ (h+1)≤(cs.flatMap (flat h)).length:=by
 match cs,hl,hc with
 | a::b::cs,_,hc =>
  have h1:=hc a (by simp)
  have h2:=hc b (by simp)
  rw [List.flatMap_cons,List.flatMap_cons,ae,ae,Nat.pow_succ];omega
theorem rN:∀ (h:Nat) {t:Nd h} {lo hi:Option ByteArray},ld h t lo hi→2 ^ h≤(flat h t).length
 | 0,t,_,_,ho=>by
  have h1:xD 0≤fL t.2:=ho.2.1;show 1≤t.2.length
  cases ht:t.2 with
  | nil=>rw [ht] at h1;simp [xD,ry] at h1
  | cons _ _=>simp
 | h+1,t,lo,hi,ho=>by
  have hc:=(fy h t lo hi).1 ho.1;have hl:=j9 hc;have h1:1777≤fD t.2.1:=ho.2.1;refine EF (h:=h) (cs:=t.2.2) ?_ fun c hm=>?_
  ·cases hk:t.2.1 with
   | nil=>rw [hk] at h1;have:fD []=6:=rfl;omega
   | cons _ _=>rw [hk,List.length_cons] at hl;omega
  ·obtain ⟨i,mz,rfl⟩:=aQ hm;obtain ⟨pQ,vz,hf⟩:=kR hc i _ (af mz);exact rN h hf
theorem Ag{h:Nat}{t:Nd h}(hr:eW (some ⟨h,t⟩)):2 ^ h≤(flat h t).length:=by
 obtain ⟨ho,_,h1⟩:=hr;cases h with
 | zero =>
  show 1≤t.2.length
  have h1:t.2≠[]:=h1;exact List.length_pos_iff.2 h1
 | succ h =>
  have h1:t.2.1≠[]:=h1;have hc:=(fy h t none none).1 ho;have hl:=j9 hc;have:=List.length_pos_iff.2 h1;refine EF (h:=h) (cs:=t.2.2) (by omega) fun c hm=>?_
  obtain ⟨i,mz,rfl⟩:=aQ hm;obtain ⟨pQ,vz,hf⟩:=kR hc i _ (af mz);exact rN h hf
theorem lu{h:Nat}{t:Nd h}(hr:eW (some ⟨h,t⟩))(hn:(flat h t).length≤4611686018427387904):h+1≤64:=by
 have h1:=Ag hr;have h2:2 ^ h≤2 ^ 62:=al h1 (by omega)
 have:=(Nat.pow_le_pow_iff_right (by omega:1<2)).1 h2
 omega
theorem jM{h:Nat}{t:Nd h}(hr:eW (some ⟨h,t⟩)):jI ⟨h,t⟩:=by
 obtain ⟨ho,hs,h1⟩:=hr;cases h with
 | zero=>exact ⟨⟨none,none,ho⟩,hs⟩
 | succ h=>exact ⟨⟨none,none,ho⟩,hs,List.length_pos_iff.2 h1⟩
section
variable {PG:Int→Option PD} {w:World} {tb:Nat} {q:Option Addr} {rv:Value}
theorem aU.tree(ht:B.ax w tb #[.pointer q,rv] 100)(zA:rv = .nilIface∨∃ t x,rv = .iface t x)(u:Value):∀ (h:Nat) {n:SN} {t:Nd h},aU PG w h n t→jI ⟨h,t⟩→aU PG (w.setCell ⟨tb,1,none⟩ u) h n t
 | 0,_,_,hn,_=>hn
 | h+1,n,t,hn,hg=>⟨hn.1,hn.2.1,hn.2.2.1,hn.2.2.2.1,fun i p c h1 h2=>by
  have hk:=hn.2.2.2.2 i p c h1 h2;have Zr:=mC hg h2;cases p with
  | pg id=>exact hk
  | nd b =>
   obtain ⟨h0,m,pv,lv,cv,hs,hm⟩:=hk;exact ⟨h0,m,pv,lv,cv,hs.tree (lz (x:=⟨h,c⟩) hm Zr).kids ht zA u,aU.tree ht zA u h hm Zr⟩⟩
theorem eu.tree(ht:B.ax w tb #[.pointer q,rv] 100)(zA:rv = .nilIface∨∃ t x,rv = .iface t x)(u:Value){h:Nat}{p:C.Ch}{t:Nd h}(hk:eu PG w h p t)(hg:jI ⟨h,t⟩):eu PG (w.setCell ⟨tb,1,none⟩ u) h p t:=by
 cases p with
 | pg id=>exact hk
 | nd b =>
  obtain ⟨h0,m,pv,lv,cv,hs,hm⟩:=hk;exact ⟨h0,m,pv,lv,cv,hs.tree (lz (x:=⟨h,t⟩) hm hg).kids ht zA u,hm.tree ht zA u h hg⟩
theorem fH.tree(ht:B.ax w tb #[.pointer q,rv] 100)(zA:rv = .nilIface∨∃ t x,rv = .iface t x)(u:Value){v:Value}{r:cQ}(hr:fH PG w v r)(cT:eW r):fH PG (w.setCell ⟨tb,1,none⟩ u) v r:=by
 rcases hr with h | ⟨p,h,t,e1,rfl,hk⟩
 ·exact .inl h
 ·exact .inr ⟨p,h,t,e1,rfl,hk.tree ht zA u (jM cT)⟩
end
theorem fH.bU{PG:Int→Option PD}{w w':World}{v:Value}{r:cQ}(hr:fH PG w v r)(ha:cM w w'):fH PG w' v r:=by
 rcases hr with h | ⟨p,h,t,e1,e2,hk⟩
 ·exact .inl h
 ·exact .inr ⟨p,h,t,e1,e2,hk.bU ha⟩
theorem fH.form{PG:Int→Option PD}{w:World}{v:Value}{r:cQ}(hr:fH PG w v r):v = .nilIface∨∃ t x,v = .iface t x:=by
 rcases hr with ⟨h,_⟩ | ⟨p,_,_,h,_⟩
 ·exact .inl h
 ·exact .inr (h▸bz p)
theorem IA{F:Nat→Prop}{tb:Nat}{w w':World}(h:S.V.Step F F w w'):S.V.Step (fun k=>F k∨k=tb) (fun k=>F k∨k=tb) w w':=⟨h.os,h.tape,h.output,h.size,fun k hk hn=>h.block k hk (fun e=>hn (.inl e)),fun _ h=>.inl h⟩
structure Ts(base:Nat)(A:Nat→Addr)(db:Nat)(F:Nat→Prop)(d:S.V.bq)(W0 w:World)(tb:Nat)(r:cQ):Prop where
 dv:Dv base A db F d w
 tr:∃ rv,B.ax w tb #[.pointer (some ⟨db,0,none⟩),rv] 100∧fH (cJ d) w rv r
 ok:eW r
 st:S.V.Step (fun k=>F k∨k=tb) (fun k=>F k∨k=tb) W0 w
 lo:base≤tb∧¬ F tb
section
variable {base:Nat} {A:Nat→Addr} {db:Nat} {F:Nat→Prop} {d:S.V.bq} {W0:World} {r:cQ}
theorem Ts.mv{w w':World}{tb:Nat}(h:Ts base A db F d W0 w tb r)(hm:Mv db F w w')(hv:Dv base A db F d w'):Ts base A db F d W0 w' tb r:=by
 obtain ⟨rv,h1,h2⟩:=h.tr;exact ⟨hv,⟨rv,cG (hm.bU h.dv) h1,h2.bU (hm.bU h.dv)⟩,h.ok,h.st.trans (IA hm.step),h.lo⟩
theorem Ts.below{w w':World}{tb:Nat}(h:Ts base A db F d W0 w tb r)(hb:Below w.heap.size w w'):Ts base A db F d W0 w' tb r:=h.mv (Mv.of hb) (h.dv.below hb)
theorem Ts.root{w W2:World}{tb:Nat}{u rv:Value}{r':cQ}(h:Ts base A db F d W0 w tb r)(hm:Mv db F w W2)(iG:Dv base A db F d W2)(tJ:B.ax W2 tb #[.pointer (some ⟨db,0,none⟩),rv] 100)(zA:rv = .nilIface∨∃ t x,rv = .iface t x)(hr:fH (cJ d) W2 u r')(cT:eW r'):Ts base A db F d W0 (W2.setCell ⟨tb,1,none⟩ u) tb r':=by
 refine ⟨iG.tree h.lo.1 h.lo.2 1 u,⟨u,B.ax.one tJ u,hr.tree tJ zA u cT⟩,cT,?_,h.lo⟩;have h1:=h.st.trans (IA hm.step);have hs:=bL.set tb 1 W2 u;exact ⟨hs.os.trans h1.os,hs.tape.trans h1.tape,hs.output.trans h1.output,al h1.size hs.size,fun k hk hn=>(hs.block k (ar hk h1.size) (fun e=>hn (.inr e))).trans (h1.block k hk hn),fun _ h=>.inl h⟩
theorem B3{w w1:World}{tb:Nat}{pv:Value}(key:ByteArray)(f:List Pr→List Pr)(hf:Go.Proofs.YtihmgigfkmofnaaGreatDoor.Fit key f)(h:Ts base A db F d W0 w tb none)(hm:Mv db F w w1)(hv:Dv base A db F d w1)(ht:B.ax w1 tb #[.pointer (some ⟨db,0,none⟩),.nilIface] 100)(hp:gK w1 pv (f [])):Calls prog 47 #[.pointer (some ⟨tb,0,none⟩),.slice none 0 0,pv] w1 fun e w'=>e = .returned .nilIface∧∃ r',qZ key f none r'∧Ts base A db F d W0 w' tb r':=by
 have cx:=hf.size [];rw [ry] at cx;have hl:=iM (f []);have tL:∀ p ∈ f [],cP p=true:=fun p hp=>by
  rcases hf.mem [] p hp with h | h
  ·simp at h
  ·exact h.2
 have hc:=yt (noS d) (fun _ _=>True) (fun _ n _=>n=⟨f [],0,[],[]⟩) (fun _ n _ h=>by subst h;exact .inl rfl) tb .nilIface none 0 [] [] () () pv (f []) w w1 (.inl ⟨rfl,rfl⟩) (by simp) (oa.nil _ _) rfl hp ⟨tL,by omega⟩ (fun _=>rfl) ht hv h.dv hm (fun W s z bb nb pb lb cb _ _ cT=>(cT.2:False).elim)
 refine hc.mono fun e w' hh=>?_
 rcases hh with ⟨hE,_⟩ | ⟨W,W2,b,n,pn,ln,cn,u,he,hs,hn,hr,iG,iw,tJ,rfl⟩
 ·exact (hE:False).elim
 ·subst hn;obtain ⟨v,r',e1,g1,g2,_⟩:=Ah (PG:=cJ d) (h:=0) (t:=(0,f [])) ⟨rfl,rfl⟩ hs rfl (.inl rfl) hr;cases e1;exact ⟨he,r',g2,h.root iw iG tJ (.inl rfl) g1 (lK hf (r:=none) trivial g2).1⟩
theorem sB{w w1:World}{tb:Nat}{a:Option Addr}{c:Nat}{ss:List (eT XT)}{s:eT XT}{rv pv:Value}{x:XT}{t0:Nd 0}(key:ByteArray)(f:List Pr→List Pr)(hf:Go.Proofs.YtihmgigfkmofnaaGreatDoor.Fit key f)(h:Ts base A db F d W0 w tb (some x))(hm:Mv db F w w1)(hv:Dv base A db F d w1)(ht:B.ax w1 tb #[.pointer (some ⟨db,0,none⟩),rv] 100)(zA:rv = .nilIface∨∃ t x,rv = .iface t x)(dF:ss.length≤64)(ho:oa w1 w.heap.size (.slice a (ss.length+1) c) (ss.map eT.lk++[s.lk]))(gA:Way (de d) (fun n q=>B.fI n.lk key q) w1 x ss ⟨0,t0⟩)(cx:fL t0.2≤4072)(S7:∀ p ∈ t0.2,cP p=true)(hp:gK w1 pv (f t0.2)):Calls prog 47 #[.pointer (some ⟨tb,0,none⟩),.slice a (ss.length+1) c,pv] w1 fun e w'=>e = .returned .nilIface∧∃ r',qZ key f (some x) r'∧Ts base A db F d W0 w' tb r':=by
 have jk:=hf.size t0.2;have hl:=iM (f t0.2);have tL:∀ p ∈ f t0.2,cP p=true:=fun p hp=>by
  rcases hf.mem _ p hp with h | h
  ·exact S7 p h
  ·exact h.2
 have hL:(ss.map eT.lk++[s.lk]).length=ss.length+1:=by simp
 have hc:=yt (de d) (fun n q=>B.fI n.lk key q) (FlS d key f) Wr tb rv a c (ss.map eT.lk++[s.lk]) ss x ⟨0,t0⟩ pv (f t0.2) w w1 (.inr ⟨_,rfl⟩) dF (by rw [hL];exact ho) gA hp ⟨tL,by omega⟩ (fun W=>⟨(0,f t0.2),⟨rfl,rfl⟩,rfl,rfl⟩) ht hv h.dv hm (fun W s z bb nb pb lb cb h1 h2 h3 h4 h5 h6 h7 h8 h9=>Bl key f tb rv W s z bb nb pb lb cb h1 h2 h3 h4 h5 h6 h7 h8 h9)
 rw [hL] at hc;refine hc.mono fun e w' hh=>?_
 rcases hh with ⟨hE,_⟩ | ⟨W,W2,b,n,pn,ln,cn,u,he,hs,⟨t',hn,hu,AL⟩,hr,iG,iw,tJ,rfl⟩
 ·exact (hE:False).elim
 ·obtain ⟨v,r',e1,g1,g2,_⟩:=Ah hn hs AL (pM hn hs) hr;cases e1;have Ur:qZ key f (some x) r':=⟨t',hu,g2⟩;exact ⟨he,r',Ur,h.root iw iG tJ zA g1 (lK hf h.ok Ur).1⟩
end
end T
def df(n:Nat):List Nat:=if n=0 then [] else [n]
def dE:(h:Nat)→Nd h→List Nat
 | 0,t=>df t.1
 | h+1,t=>df t.1++t.2.2.flatMap (dE h)
def Oa:(h:Nat)→Nd h→List Nat
 | 0,_=>[]
 | h+1,t=>t.2.2.flatMap (dE h)
theorem mo(h:Nat)(t:Nd h):(Oa h t).Sublist (dE h t):=by
 cases h with
 | zero=>exact List.nil_sublist _
 | succ h=>exact dC _ _
theorem Dt(h:Nat)(a b:Nd h)(k:ByteArray):dE h (js h a k b)=Oa h a++Oa h b:=by
 cases h with
 | zero=>rfl
 | succ h=>simp [dE,Oa,js,df]
theorem IQ{h:Nat}{x a b:Nd h}{k:ByteArray}(hc:Cut h x a k b):dE h a++dE h b=Oa h x:=by
 obtain ⟨i,_,hc⟩:=hc;cases h with
 | zero =>
  obtain ⟨rfl,rfl,_⟩:=hc;rfl
 | succ h =>
  obtain ⟨rfl,rfl,_⟩:=hc;show (df 0++(x.2.2.take (i+1)).flatMap (dE h))++(df 0++(x.2.2.drop (i+1)).flatMap (dE h))=x.2.2.flatMap (dE h)
  rw [show df 0=[] from rfl,List.nil_append,List.nil_append,← aT,aG]
theorem xf{h:Nat}{A B ks:List ByteArray}{C1 C2 cs:List (Nd h)}{x:Nd h}(hw:H7 h A B C1 x C2 ks cs):(cs.flatMap (dE h)).Sublist (C1.flatMap (dE h)++(dE h x++C2.flatMap (dE h))):=by
 rcases hw with ⟨_,_,rfl⟩ | ⟨_,a,k,b,hc,_,rfl⟩
 ·simp
 ·rw [aT,List.flatMap_cons,List.flatMap_cons,← ay (dE h a),IQ hc];exact List.Sublist.append_left (List.Sublist.append_right (mo h x) _) _
theorem Gr{h:Nat}{A B ks:List ByteArray}{C1 C2 cs:List (Nd h)}{x:Nd h}(hs:Cb h A B C1 x C2 ks cs):(cs.flatMap (dE h)).Sublist (C1.flatMap (dE h)++(dE h x++C2.flatMap (dE h))):=by
 rcases hs with ⟨_,hw⟩ | ⟨_,rfl,rfl,k,B',b,C2',rfl,rfl,hw⟩ | ⟨_,A',k,C1',a,rfl,rfl,hw⟩
 ·exact xf hw
 ·refine (xf hw).trans ?_
  rw [Dt,List.flatMap_cons,ay];exact List.Sublist.append_left (List.Sublist.append (mo h x) (List.Sublist.append_right (mo h b) _)) _
 ·refine (xf hw).trans ?_
  rw [Dt,aT,ay,ay,List.flatMap_cons,List.flatMap_nil,List.append_nil];exact List.Sublist.append_left (List.Sublist.append (mo h a) (List.Sublist.append_right (mo h x) _)) _
theorem IM{key:ByteArray}{f:List Pr→List Pr}:∀ (h:Nat) {t t':Nd h},XG key f h t t'→(dE h t').Sublist (dE h t)
 | 0,t,t',hu=>by
  have hu:t'=(0,f t.2):=hu;subst hu;exact List.nil_sublist _
 | h+1,t,t',hu=>by
  obtain ⟨A,B,C1,c,C2,_,e2,_,_,_,c',ks,cs,hc,hs,rfl⟩:=hu;show (df 0++cs.flatMap (dE h)).Sublist (df t.1++t.2.2.flatMap (dE h))
  rw [show df 0=[] from rfl,List.nil_append,e2,aT,List.flatMap_cons]
  exact (Gr hs).trans ((List.Sublist.append_left (List.Sublist.append_right (IM h hc) _) _).trans (dC _ _))
def eD:cQ→List Nat
 | none=>[]
 | some r=>dE r.1 r.2
theorem xh{h:Nat}{t:Nd h}{r:cQ}(hr:ue h t r):(eD r).Sublist (dE h t):=by
 rcases hr with ⟨_,a,k,b,hc,rfl⟩ | ⟨_,_,rfl⟩ | ⟨_,_,hr⟩
 ·show (df 0++[a,b].flatMap (dE h)).Sublist _
  rw [show df 0=[] from rfl,List.nil_append,List.flatMap_cons,List.flatMap_cons,List.flatMap_nil,List.append_nil,IQ hc]
  exact mo h t
 ·exact List.Sublist.refl _
 ·cases h with
  | zero =>
   have hr:r=none:=hr;subst hr;exact List.nil_sublist _
  | succ h =>
   obtain ⟨c,e,rfl⟩:=hr;show (dE h c).Sublist (df t.1++t.2.2.flatMap (dE h))
   rw [e,List.flatMap_cons,List.flatMap_nil,List.append_nil];exact dC _ _
theorem Ds{key:ByteArray}{f:List Pr→List Pr}{r r':cQ}(hu:qZ key f r r'):(eD r').Sublist (eD r):=by
 cases r with
 | none=>exact xh (h:=0) (t:=(0,f [])) hu
 | some r =>
  obtain ⟨t',h1,h2⟩:=hu;exact (xh h2).trans (IM r.1 h1)
namespace T
open Go.RowKit
def jl:(h:Nat)→Nd h→Nat
 | 0,t=>if t.1=0 then 1 else 0
 | h+1,t=>if t.1=0 then (t.2.2.map (jl h)).sum+1 else 0
def b9{α β γ:Type}(g:α→Nat→β × List γ):List α→Nat→List β × List γ
 | [],_=>([],[])
 | c::cs,k=>((g c k).1::(b9 g cs (k+(g c k).2.length)).1,(g c k).2++(b9 g cs (k+(g c k).2.length)).2)
def l7{h:Nat}:List (Nd h)→Int
 | []=>0
 | c::_=>(fx h c:Int)
def qF{h:Nat}(ks:List ByteArray)(cs:List (Nd h)):List B.Lk:=ks.zip (cs.tail.map fun c=>(fx h c:Int))
def aW(P:Nat→Nat):(h:Nat)→Nd h→Nat→Nd h × List (Nat × PD)
 | 0,t,k=>if t.1=0 then ((P k,t.2),[(P k,.leaf t.2)]) else (t,[])
 | h+1,t,k=>if t.1=0 then ((P (k+(b9 (aW P h) t.2.2 k).2.length),t.2.1,(b9 (aW P h) t.2.2 k).1),(b9 (aW P h) t.2.2 k).2++[(P (k+(b9 (aW P h) t.2.2 k).2.length),.br (l7 (b9 (aW P h) t.2.2 k).1) (qF t.2.1 (b9 (aW P h) t.2.2 k).1))]) else (t,[])
theorem iE{α β γ:Type}(g:α→Nat→β × List γ):∀ (cs:List α) (k:Nat),(b9 g cs k).1.length=cs.length
 | [],_=>rfl
 | c::cs,k=>by
  show (b9 g cs (k+(g c k).2.length)).1.length+1=cs.length+1
  rw [iE g cs]
theorem rY{α β γ:Type}(g:α→Nat→β × List γ):∀ (cs:List α) (k i:Nat) (c:α),cs[i]?=some c→∃ ki,(b9 g cs k).1[i]?=some (g c ki).1∧∀ x ∈ (g c ki).2,x ∈ (b9 g cs k).2
 | [],_,i,c,h=>by simp at h
 | c0::cs,k,0,c,h=>by
  cases h;exact ⟨k,rfl,fun x hx=>dV _ hx⟩
 | c0::cs,k,i+1,c,h=>by
  obtain ⟨ki,h1,h2⟩:=rY g cs (k+(g c0 k).2.length) i c h;exact ⟨ki,h1,fun x hx=>cz _ (h2 x hx)⟩
theorem r9{h:Nat}{P:Nat→Nat}(ih:∀ (t:Nd h) (k:Nat),(aW P h t k).2.length=jl h t):∀ (cs:List (Nd h)) (k:Nat),(b9 (aW P h) cs k).2.length=(cs.map (jl h)).sum
 | [],_=>rfl
 | c::cs,k=>by
  show ((aW P h c k).2++(b9 (aW P h) cs (k+(aW P h c k).2.length)).2).length=jl h c+(cs.map (jl h)).sum
  rw [ae,ih,r9 ih cs]
theorem pE{P:Nat→Nat}:∀ (h:Nat) (t:Nd h) (k:Nat),(aW P h t k).2.length=jl h t
 | 0,t,k=>by
  by_cases h0:t.1=0
  ·simp [aW,jl,h0]
  ·simp [aW,jl,h0]
 | h+1,t,k=>by
  by_cases h0:t.1=0
  ·simp [aW,jl,h0,r9 (pE h)]
  ·simp [aW,jl,h0]
def pT(P:Nat→Nat)(k n:Nat):List Nat:=(List.range n).map fun j=>P (k+j)
theorem tH(P:Nat→Nat)(k n:Nat):pT P k (n+1)=pT P k n++[P (k+n)]:=by
 unfold pT;rw [List.range_succ,bn];rfl
theorem Ef(P:Nat→Nat)(k m:Nat):∀ n,pT P k (m+n)=pT P k m++pT P (k+m) n
 | 0=>by simp [pT]
 | n+1=>by
  rw [← dM,tH,Ef P k m n,tH,ay,dM]
theorem D6{h:Nat}{P:Nat→Nat}(ih:∀ (t:Nd h) (k:Nat),(aW P h t k).2.map (·.1)=pT P k (aW P h t k).2.length):∀ (cs:List (Nd h)) (k:Nat),(b9 (aW P h) cs k).2.map (·.1)=pT P k (b9 (aW P h) cs k).2.length
 | [],_=>rfl
 | c::cs,k=>by
  show ((aW P h c k).2++(b9 (aW P h) cs (k+(aW P h c k).2.length)).2).map (·.1)=pT P k ((aW P h c k).2++(b9 (aW P h) cs (k+(aW P h c k).2.length)).2).length
  rw [bn,ih,D6 ih cs,ae,Ef]
theorem BF{P:Nat→Nat}:∀ (h:Nat) (t:Nd h) (k:Nat),(aW P h t k).2.map (·.1)=pT P k (aW P h t k).2.length
 | 0,t,k=>by
  by_cases h0:t.1=0
  ·simp [aW,h0,pT]
  ·simp [aW,h0,pT]
 | h+1,t,k=>by
  by_cases h0:t.1=0
  ·have:=D6 (BF (P:=P) h) t.2.2 k;simp only [aW,h0,if_true,bn,ae,List.map_cons,List.map_nil,List.length_cons,List.length_nil];rw [this,Nat.zero_add,tH]
  ·simp [aW,h0,pT]
theorem AE{h:Nat}{P:Nat→Nat}(ih:∀ (t:Nd h) (k:Nat),flat h (aW P h t k).1=flat h t):∀ (cs:List (Nd h)) (k:Nat),(b9 (aW P h) cs k).1.flatMap (flat h)=cs.flatMap (flat h)
 | [],_=>rfl
 | c::cs,k=>by
  show ((aW P h c k).1::(b9 (aW P h) cs (k+(aW P h c k).2.length)).1).flatMap (flat h)=_
  rw [List.flatMap_cons,List.flatMap_cons,ih,AE ih cs]
theorem D4{P:Nat→Nat}:∀ (h:Nat) (t:Nd h) (k:Nat),flat h (aW P h t k).1=flat h t
 | 0,t,k=>by
  by_cases h0:t.1=0
  ·simp [aW,h0,flat]
  ·simp [aW,h0]
 | h+1,t,k=>by
  by_cases h0:t.1=0
  ·have:=AE (D4 (P:=P) h) t.2.2 k;simp only [aW,h0,if_true];exact this
  ·simp [aW,h0]
theorem BE{P:Nat→Nat}(h:Nat)(t:Nd h)(k:Nat):nK h (aW P h t k).1=nK h t:=by
 cases h with
 | zero =>
  by_cases h0:t.1=0
  ·simp [aW,h0,nK]
  ·simp [aW,h0]
 | succ h =>
  by_cases h0:t.1=0
  ·simp [aW,h0,nK]
  ·simp [aW,h0]
theorem OR{P:Nat→Nat}(h:Nat)(t:Nd h)(k:Nat)(hs:wL h t):wL h (aW P h t k).1:=by
 cases h with
 | zero =>
  by_cases h0:t.1=0
  ·simp only [aW,h0,if_true];exact hs
  ·simp only [aW,h0,if_false];exact hs
 | succ h =>
  by_cases h0:t.1=0
  ·simp only [aW,h0,if_true];exact hs
  ·simp only [aW,h0,if_false];exact hs
theorem vQ{h:Nat}{P:Nat→Nat}(ih:∀ (t:Nd h) (k:Nat) (lo hi:Option ByteArray),ld h t lo hi→ld h (aW P h t k).1 lo hi):∀ (cs:List (Nd h)) (ks:List ByteArray) (k:Nat) (lo hi:Option ByteArray),gX (ld h) lo hi ks cs→gX (ld h) lo hi ks (b9 (aW P h) cs k).1
 | [],ks,_,_,_,ho=>by cases ks <;> simp [gX] at ho
 | [c],[],k,lo,hi,ho=>by
  have ho:ld h c lo hi:=ho;exact ih c k lo hi ho
 | [_],[_],_,_,_,ho=>by simp [gX] at ho
 | [_],_::_::_,_,_,_,ho=>by simp [gX] at ho
 | _::_::_,[],_,_,_,ho=>by simp [gX] at ho
 | c::d::cs,k0::ks,k,lo,hi,ho=>by
  obtain ⟨h1,h2,h3,h4⟩:=ho;have:=vQ ih (d::cs) ks (k+(aW P h c k).2.length) (some k0) hi h4;exact ⟨h1,h2,ih c k _ _ h3,this⟩
theorem qH{P:Nat→Nat}:∀ (h:Nat) (t:Nd h) (k:Nat) (lo hi:Option ByteArray),Ok h t lo hi→Ok h (aW P h t k).1 lo hi
 | 0,t,k,lo,hi,ho=>by
  by_cases h0:t.1=0
  ·simp only [aW,h0,if_true];exact ho
  ·simp only [aW,h0,if_false];exact ho
 | h+1,t,k,lo,hi,ho=>by
  by_cases h0:t.1=0
  ·simp only [aW,h0,if_true];exact vQ (fun t k lo hi hf=>⟨qH h t k lo hi hf.1,by unfold Full;rw [BE];exact hf.2⟩) t.2.2 t.2.1 k lo hi ho
  ·simp only [aW,h0,if_false];exact ho
theorem AD{h:Nat}{P:Nat→Nat}(ih:∀ (t:Nd h) (k:Nat),(dE h (aW P h t k).1).Perm (dE h t++(aW P h t k).2.map (·.1))):∀ (cs:List (Nd h)) (k:Nat),((b9 (aW P h) cs k).1.flatMap (dE h)).Perm (cs.flatMap (dE h)++(b9 (aW P h) cs k).2.map (·.1))
 | [],_=>List.Perm.refl _
 | c::cs,k=>by
  show (dE h (aW P h c k).1++(b9 (aW P h) cs (k+(aW P h c k).2.length)).1.flatMap (dE h)).Perm ((dE h c++cs.flatMap (dE h))++((aW P h c k).2++(b9 (aW P h) cs (k+(aW P h c k).2.length)).2).map (·.1))
  rw [bn];refine ((ih c k).append (AD ih cs _)).trans ?_
  rw [ay,ay];refine List.Perm.append_left _ ?_
  rw [← ay,← ay];exact List.Perm.append_right _ List.perm_append_comm
theorem D1{P:Nat→Nat}(hP:∀ j,P j≠0):∀ (h:Nat) (t:Nd h) (k:Nat),(dE h (aW P h t k).1).Perm (dE h t++(aW P h t k).2.map (·.1))
 | 0,t,k=>by
  by_cases h0:t.1=0
  ·simp only [aW,h0,if_true,dE,df,hP,if_false];exact List.Perm.refl _
  ·simp only [aW,h0,if_false,List.map_nil,List.append_nil];exact List.Perm.refl _
 | h+1,t,k=>by
  by_cases h0:t.1=0
  ·have:=AD (D1 hP h) t.2.2 k;simp only [aW,h0,if_true,dE,df,hP,if_false,List.nil_append,bn,List.map_cons,List.map_nil];rw [← ay];exact (List.perm_append_comm).trans (List.Perm.append_right _ this)
  ·simp only [aW,h0,if_false,List.map_nil,List.append_nil];exact List.Perm.refl _
theorem D2{P:Nat→Nat}(hP:∀ j,P j≠0)(h:Nat)(t:Nd h)(k:Nat):fx h (aW P h t k).1≠0:=by
 cases h with
 | zero =>
  by_cases h0:t.1=0
  ·simp only [aW,h0,if_true];exact hP _
  ·simp only [aW,h0,if_false];exact h0
 | succ h =>
  by_cases h0:t.1=0
  ·simp only [aW,h0,if_true];exact hP _
  ·simp only [aW,h0,if_false];exact h0
theorem EZ{h:Nat}{t:Nd h}(hp:fx h t≠0):jl h t=0:=by
 cases h with
 | zero=>exact if_neg hp
 | succ h=>exact if_neg hp
theorem Ir{d:S.V.bq}{key:ByteArray}{w:World}{l:List Pr}:∀ {ss:List (eT XT)} {x y:XT},Way (de d) (fun n q=>B.fI n.lk key q) w x ss y→Go.Proofs.YtihmgigfkmofnaaGreatDoor.Way key y.1 y.2 l→Go.Proofs.YtihmgigfkmofnaaGreatDoor.Way key x.1 x.2 l
 | [],_,_,h,hw=>by
  have h:_=_:=h;subst h;exact hw
 | s::ss,x,y,⟨h1,h2,h3,h4,h5,z,h6,h7⟩,hw=>by
  have ih:=Ir h7 hw;subst h1;obtain ⟨b,n,i,⟨hh,t⟩⟩:=s;cases hh with
  | zero=>exact h6.elim
  | succ h =>
   obtain ⟨c,hc,rfl⟩:=h6;obtain ⟨_,hn,hg⟩:=h2;have hn:aU (cJ d) w (h+1) n t:=hn;have hc:t.2.2[i]?=some c:=hc;have jE:t.2.1=n.lk.map (·.1):=hn.2.2.2.1;have rl:t.2.2.length=t.2.1.length+1:=by rw [← hn.1,hn.len,jE,aA]
   obtain ⟨lo,hi,ho⟩:=hg.1;have oL:=jO ((fy h t lo hi).1 ho);rw [jE] at oL;obtain ⟨Rn,Rm⟩:=nu h4 oL;simp only at Rn Rm;rw [← jE] at Rn Rm;obtain ⟨e1,e2,el,ei⟩:=ml rl hc;exact ⟨_,_,_,c,_,e1,e2,el,Rn,Rm,ih⟩
def TT(d:S.V.bq)(key:ByteArray)(r:cQ)(bs:Nat)(e:Ending)(w':World):Prop :=
 (r=none∧e = .returned (.tuple #[.slice none 0 0,.nilIface])) ∨
 ∃ (x:XT) (ss:List (eT XT)) (s:eT XT) (a:Option Addr) (c:Nat) (pv lv cv:Value) (t0:Nd 0),r=some x∧e = .returned (.tuple #[.slice a (ss.length+1) c,.nilIface])∧oa w' bs (.slice a (ss.length+1) c) (ss.map eT.lk++[s.lk])∧Way (de d) (fun n q=>B.fI n.lk key q) w' x ss ⟨0,t0⟩∧dG w' s.b s.n pv lv cv∧s.n.ps=t0.2∧fL t0.2≤4072∧ss.length≤63∧Go.Proofs.YtihmgigfkmofnaaGreatDoor.Way key x.1 x.2 t0.2
theorem TT.of{A:Nat→Addr}{d:S.V.bq}{key:ByteArray}{x:XT}{bs:Nat}{e:Ending}{w':World}(h:iu (de d) (fun n q=>B.fI n.lk key q) A [] x bs e w'):TT d key (some x) bs e w':=by
 rcases h with ⟨hE,_⟩ | ⟨ss,s,a,c,he,ho,hw,⟨⟨pv,lv,cv,hs⟩,hn⟩,h0,sk,hl⟩
 ·exact (hE:False).elim
 ·simp only [List.length_nil,Nat.zero_add,List.nil_append] at he ho hl;obtain ⟨hn,hg⟩:=hn;obtain ⟨b,n,i,⟨hh,t⟩⟩:=s;cases hh with
  | zero=>exact .inr ⟨x,ss,⟨b,n,i,⟨0,t⟩⟩,a,c,pv,lv,cv,t,rfl,he,ho,hw,hs,hn.2,hg.2,hl,Ir hw rfl⟩
  | succ h=>exact absurd (List.length_eq_zero_iff.1 h0) hn.2.1
section
variable {base:Nat} {A:Nat→Addr} {db:Nat} {F:Nat→Prop} {d:S.V.bq} {W0:World} {r:cQ}
theorem oh{w w1:World}{tb:Nat}(key:ByteArray)(hc:Ts base A db F d W0 w tb r)(hn:(aC r).length≤4611686018427387904)(hb:Below w.heap.size w w1):Calls prog 46 #[.pointer (some ⟨tb,0,none⟩),.string key] w1 fun e w'=>TT d key r w.heap.size e w'∧Dv base A db F d w'∧Mv db F w w':=by
 obtain ⟨rv,ht,hr⟩:=hc.tr;have hv:=hc.dv.below hb;have hm:Mv db F w w1:=Mv.of hb;rcases hr with ⟨rfl,rfl⟩ | ⟨p,h,t,rfl,rfl,hk⟩
 ·refine (wz tb _ key w1 (ht.below hb)).mono fun e w' ⟨he,hb⟩=>⟨.inl ⟨rfl,he⟩,hv.below hb,hm.trans (Mv.of hb)⟩
 ·refine (wu (de d) p ⟨h,t⟩ tb key w w1 ⟨hk.bU (cM.of hb),jM hc.ok⟩ (ht.below hb) hv hm hc.dv (.inr (lu hc.ok hn))).mono fun e w' ⟨h1,h2,h3⟩=>⟨TT.of h1,h2,h3⟩
theorem Kv{w:World}{tb:Nat}(key value:ByteArray)(hc:Ts base A db F d W0 w tb r)(hn:(aC r).length≤4611686018427387904)(dm:key.size≤140737488355328)(Eg:value.size≤140737488355328):Calls prog 15 #[.pointer (some ⟨tb,0,none⟩),.string key,.string value] w fun e w'=>(cP (key,value)=true∧e = .returned .nilIface∧∃ r',qZ key (fun l=>fc l key value) r r'∧Ts base A db F d W0 w' tb r')∨(¬ cP (key,value)=true∧e = .returned (.iface 360 (.pointer (some (A 0))))∧Ts base A db F d W0 w' tb r):=by
 have A9:=ab (qD A key value w dm Eg hc.dv.zJ);have HC:=ab hc;have HN:=ab hn;clear hc hn;by_cases hm:cP (key,value)=true
 ·rw [if_pos hm] at A9;have hmp:=eM hm;have HM:=ab hm;clear dm Eg hm;go_enter func15,ntmps15;go_wp2_with fail;refine A9.out.mono ?_
  rintro e w1 ⟨rfl,aP⟩;have QW:=ab (oh key HC.out HN.out aP);clear aP A9;go_wp2_with fail;refine QW.out.mono ?_
  rintro e w2 ⟨GU,iG,iw⟩;have oZ:=ab iG;have yL:=ab iw;have Fo:=ab (HC.out.mv iw iG);obtain ⟨rv,ht,VP⟩:=Fo.out.tr;have wg:=ab ht;have HRF:=ab VP;rcases GU with ⟨Uw,rfl⟩ | ⟨x,ss,s,a,c,pv,lv,cv,t0,VO,rfl,ho,gA,hs,kB,cx,hl,-⟩
  ·subst Uw;have zA:rv = .nilIface:=by
    rcases HRF.out with ⟨h,_⟩ | ⟨_,_,_,_,h,_⟩
    ·exact h
    ·cases h
   subst zA;clear iG iw QW ht VP;go_wp2_with fail;refine (ia w2).mono ?_
   rintro e w2' ⟨rfl,rfl⟩;go_wp2_with fail;refine (np key w2 (by omega)).mono ?_
   rintro e w3 ⟨rfl,bF⟩;have dD:=ab bF;clear bF;go_wp2_with fail;refine (np value w3 (by omega)).mono ?_
   rintro e w4 ⟨rfl,eO⟩;have gr:=ab (Below.next dD.out eO);clear eO;go_wp2_with fail;refine (DQ (.slice none 0 0) [] key value w4 (by simp) (gK.nil _)).mono ?_
   rintro e w5 ⟨u,rfl,hu,mB⟩;have jj:=ab (Below.next gr.out mB);have RN:=ab (B3 key (fun l=>fc l key value) (su HM.out) HC.out (yL.out.trans (Mv.of jj.out)) (oZ.out.below jj.out) (wg.out.below jj.out) hu.at)
   obtain ⟨ua,uc,O9⟩:=hu.form;subst O9;clear hu mB;go_wp2_with fail;refine RN.out.mono ?_
   rintro e w6 ⟨rfl,htc⟩;have Cx:=ab htc;clear htc RN;go_wp2;go_ret;exact .inl ⟨HM.out,rfl,Cx.out⟩
  ·subst VO;have RJ:Hid (rv = .nilIface∨∃ t x,rv = .iface t x):=HRF.out.form;have HO:=ab ho;have HW:=ab gA;have sX:=ab kB;have ji:=ab cx;have HL:=ab hl;have sH:=ab (hU a ss.length c (ss.map eT.lk) s.lk s.n pv lv cv w2 (by rw [aA]) (by omega) ho.1.at hs)
   have CA:=ab hs.iD;have HPM:=ab hs.fine.1;obtain ⟨m,Co⟩ : ∃ m,m=ss.length:=⟨_,rfl⟩;have wh:=ab Co;rw [← Co] at sH HO HL ⊢;obtain ⟨xa,xc,zC⟩:=hs.iD.form;subst zC;clear ho gA hs kB cx hl iG iw QW Co ht VP;go_wp2_with fail;refine sH.out.mono ?_
   rintro e w2' ⟨rfl,rfl⟩;go_wp2_with fail;refine (np key w2 (by omega)).mono ?_
   rintro e w3 ⟨rfl,bF⟩;have dD:=ab bF;clear bF;go_wp2_with fail;refine (np value w3 (by omega)).mono ?_
   rintro e w4 ⟨rfl,eO⟩;have gr:=ab (Below.next dD.out eO);clear eO;go_wp2_with fail;refine (DQ _ s.n.ps key value w4 (by have:=iM s.n.ps;have:=ji.out;rw [← sX.out] at this;omega) (CA.out.below gr.out)).mono ?_
   rintro e w5 ⟨u,rfl,hu,mB⟩;have jj:=ab (Below.next gr.out mB);have yg:=sB (s:=s) (t0:=t0) key (fun l=>fc l key value) (su HM.out) HC.out (yL.out.trans (Mv.of jj.out)) (oZ.out.below jj.out) (wg.out.below jj.out) RJ.out (by have:=HL.out;have:=wh.out;omega) (by rw [← wh.out];exact HO.out.below jj.out) (HW.out.bU (cM.of jj.out)) ji.out (by rw [← sX.out];exact HPM.out) (by rw [← sX.out];exact hu.at)
   rw [← wh.out] at yg;have RN:=ab yg;obtain ⟨ua,uc,O9⟩:=hu.form;subst O9;clear hu mB yg;go_wp2_with fail;refine RN.out.mono ?_
   rintro e w6 ⟨rfl,htc⟩;have Cx:=ab htc;clear htc RN;go_wp2;go_ret;exact .inl ⟨HM.out,rfl,Cx.out⟩
 ·rw [if_neg hm] at A9;have HM:=ab hm;clear dm Eg hm;go_enter func15,ntmps15;go_wp2_with fail;refine A9.out.mono ?_
  rintro e w1 ⟨rfl,aP⟩;have Cx:=ab (HC.out.below aP);clear aP A9;go_wp2;go_ret;exact .inr ⟨HM.out,rfl,Cx.out⟩
end
end T
end Go.Proofs.YtihmgigfkmofnaaGreatDoor
