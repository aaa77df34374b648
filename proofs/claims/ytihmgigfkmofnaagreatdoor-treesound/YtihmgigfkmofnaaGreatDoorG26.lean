import Derived.Test.YtihmgigfkmofnaaGreatDoorG24
import Derived.Test.YtihmgigfkmofnaaGreatDoorG25
set_option maxHeartbeats 4000000
set_option maxRecDepth 100000
open Go.Proofs.Tryz
namespace Go.Proofs.YtihmgigfkmofnaaGreatDoor
namespace T
open Go.RowKit
theorem Fj(p:Option Addr)(w:World):(binOp .eql 32 (.iface 360 (.pointer p)) .nilIface).run prog w = .ok (.bool false) w:=by
 have h2:∀ d:Nat,(Op.equalIn (d+1) 32 (.iface 360 (.pointer p)) .nilIface).run prog w = .ok false w:=fun d=>by
  simp [Op.equalIn,run_underlying underlying32]
 simp only [binOp];simp [Op.equal,Op.maxDepth,h2 9999]
theorem wu(A:Nat→Addr)(w:World)(h:dI 13 fe A w):Calls prog 14 #[.iface 360 (.pointer (some (A 0)))] w fun e w'=>e = .returned (.int .i64 1)∧w=w':=by
 have c0:w.cell? ⟨0,0,none⟩=some (.iface 360 (.pointer (some (A 0)))):=(h.1 0 (by decide)).1
 have e0:=UH A 0;have hn:=fun W=>Fj (some (A 0)) W
 clear h;go_enter func14,ntmps14;go_wp2;go_ret;exact ⟨rfl,rfl⟩
theorem aW.cN{PG:Int→Option PD}{w w':World}(ha:df w w'):∀ (h:Nat) {n:SN} {t:Nd h},aW PG w h n t→aW PG w' h n t
 | 0,_,_,hn=>hn
 | h+1,n,t,hn=>⟨hn.1,hn.2.1,hn.2.2.1,hn.2.2.2.1,fun i p c h1 h2=>by
  have:=hn.2.2.2.2 i p c h1 h2;cases p with
  | pg id=>exact this
  | nd b =>
   obtain ⟨h0,m,pv,lv,cv,hs,hm⟩:=this;exact ⟨h0,m,pv,lv,cv,hs.cN ha,aW.cN ha h hm⟩⟩
theorem eu.cN{PG:Int→Option PD}{w w':World}{h:Nat}{p:C.Ch}{t:Nd h}(hk:eu PG w h p t)(ha:df w w'):eu PG w' h p t:=by
 cases p with
 | pg id=>exact hk
 | nd b =>
  obtain ⟨h0,m,pv,lv,cv,hs,hm⟩:=hk;exact ⟨h0,m,pv,lv,cv,hs.cN ha,hm.cN ha h⟩
abbrev XT:=(h:Nat) × Nd h
theorem kN{α:Type}{P:α→Option ByteArray→Option ByteArray→Prop}:∀ {lo hi:Option ByteArray} {ks:List ByteArray} {cs:List α},gi P lo hi ks cs→∀ (i:Nat) (c:α),cs[i]?=some c→∃ pT mc,P c pT mc
 | _,_,[],[],h,_,_,_=>by simp [gi] at h
 | lo,hi,[],[c'],h,i,c,hc=>by
  cases i with
  | zero=>cases hc;exact ⟨lo,hi,h⟩
  | succ i=>simp at hc
 | _,_,[],_::_::_,h,_,_,_=>by simp [gi] at h
 | _,_,_::_,[],h,_,_,_=>by simp [gi] at h
 | lo,_,k::ks,c'::cs,h,i,c,hc=>by
  cases i with
  | zero=>cases hc;exact ⟨lo,some k,h.2.2.1⟩
  | succ i=>exact kN h.2.2.2 i c hc
def jH:XT→Prop
 | ⟨0,t⟩=>(∃ lo hi,Ok 0 t lo hi)∧mQ 0 t≤4072
 | ⟨h+1,t⟩=>(∃ lo hi,Ok (h+1) t lo hi)∧mQ (h+1) t≤4072∧1≤t.2.1.length
def ZU:XT→Nat→XT→Prop
 | ⟨0,_⟩,_,_=>False
 | ⟨h+1,t⟩,i,y=>∃ c:Nd h,t.2.2[i]?=some c∧y=⟨h,c⟩
theorem Mt{h:Nat}{c:Nd h}{lo hi:Option ByteArray}(ho:kG h c lo hi):jH ⟨h,c⟩:=by
 cases h with
 | zero=>exact ⟨⟨lo,hi,ho.1⟩,ho.2.2⟩
 | succ h =>
  refine ⟨⟨lo,hi,ho.1⟩,ho.2.2,?_⟩;have h1:1777≤eI c.2.1:=ho.2.1;cases hk:c.2.1 with
  | nil=>rw [hk] at h1;have:eI []=6:=rfl;omega
  | cons _ _=>simp
theorem mz{h:Nat}{t:Nd (h+1)}{i:Nat}{c:Nd h}(hg:jH ⟨h+1,t⟩)(hc:t.2.2[i]?=some c):jH ⟨h,c⟩:=by
 obtain ⟨⟨lo,hi,ho⟩,_⟩:=hg;obtain ⟨pT,mc,hf⟩:=kN ((eS h t lo hi).1 ho) i c hc;exact Mt hf
theorem lp{PG:Int→Option PD}{w:World}{n:SN}{x:XT}(hn:aW PG w x.1 n x.2)(hg:jH x):Fit n:=by
 obtain ⟨h,t⟩:=x;have b8:=hn.sz;cases h with
 | zero =>
  refine ⟨.inl (by rw [hn.1];rfl),?_,.inl (by rw [hn.1];rfl)⟩
  have hz:n.sz=mQ 0 t:=b8;have:mQ 0 t≤4072:=hg.2;omega
 | succ h =>
  refine ⟨hn.2.2.1,?_,.inr ?_⟩
  ·have hz:n.sz=mQ (h+1) t:=b8;have:mQ (h+1) t≤4072:=hg.2.1;omega
  ·have h1:1≤t.2.1.length:=hg.2.2;have h2:t.2.1=n.lk.map (·.1):=hn.2.2.2.1;rw [h2,az] at h1;exact h1
theorem JF{PG:Int→Option PD}{id:Int}{x:XT}(hp:fu PG x.1 id x.2):∃ p,PG id=some p∧∀ w,aW PG w x.1 p.sn x.2:=by
 obtain ⟨h,t⟩:=x;cases h with
 | zero =>
  obtain ⟨_,_,ru⟩:=hp;exact ⟨_,ru,fun w=>⟨rfl,rfl⟩⟩
 | succ h =>
  obtain ⟨_,_,f,lk,ru,jg,hlen,oQ⟩:=hp;refine ⟨_,ru,fun w=>⟨by show (B2 f lk).length=t.2.2.length;rw [wj,hlen],by simp [PD.sn,B2],.inr (by show (B2 f lk).length=lk.length+1;rw [wj]),jg,fun i p c h1 h2=>?_⟩⟩
  obtain ⟨x,sR,rfl⟩:=Ju f lk i p h1;exact oQ i c x h2 sR
def dh(d:S.V.bE):Sys d XT where
 K:=fun w p x=>eu (cF d) w x.1 p x.2∧jH x
 N:=fun w n x=>aW (cF d) w x.1 n x.2∧jH x
 E:=False
 sub:=ZU
 rk:=fun x=>x.1
 ka:=fun ha h=>⟨h.1.cN ha,h.2⟩
 na:=fun ha h=>⟨h.1.cN ha _,h.2⟩
 qi:=fun {w n x i p} hn hp=>by
  obtain ⟨h,t⟩:=x;obtain ⟨hn,hg⟩:=hn;cases h with
  | zero =>
   have:n.us=[]:=hn.1;rw [this] at hp;simp at hp
  | succ h =>
   have hi:=(List.getElem?_eq_some_iff.1 hp).1;have hl:n.us.length=t.2.2.length:=hn.1;have hc:t.2.2[i]?=some (t.2.2[i]'(by omega)):=af (by omega)
   exact ⟨⟨h,t.2.2[i]'(by omega)⟩,⟨_,hc,rfl⟩,hn.qi hp hc,mz hg hc⟩
 fit:=fun h=>lp h.1 h.2
 gX:=fun h=>by
  obtain ⟨p,h1,h2⟩:=JF h.1;exact .inr ⟨p,h1,fun w'=>⟨h2 w',h.2⟩⟩
 node:=fun h=>by
  obtain ⟨⟨_,m,pv,lv,cv,hs,hm⟩,hg⟩:=h;exact ⟨m,pv,lv,cv,hs,hm,hg⟩
 Z0:=.inr fun x i y hs=>by
  obtain ⟨h,t⟩:=x;cases h with
  | zero=>exact hs.elim
  | succ h =>
   obtain ⟨c,_,rfl⟩:=hs;exact aj _
theorem tL{α:Type}{P:α→Option ByteArray→Option ByteArray→Prop}:∀ {lo hi:Option ByteArray} {ks:List ByteArray} {cs:List α},gi P lo hi ks cs→∀ k ∈ ks,gtB lo k
 | _,_,[],_,_,k,hk=>by simp at hk
 | _,_,_::_,[],h,_,_=>by simp [gi] at h
 | lo,_,k1::ks,c::cs,h,k,hk=>by
  rcases List.mem_cons.1 hk with rfl | hk
  ·exact h.1.1
  ·intro l hl;exact dq (h.1.1 l hl) (tL h.2.2.2 k hk k1 rfl)
theorem jM{α:Type}{P:α→Option ByteArray→Option ByteArray→Prop}:∀ {lo hi:Option ByteArray} {ks:List ByteArray} {cs:List α},gi P lo hi ks cs→ks.Pairwise fun a b=>cR a b=true
 | _,_,[],_,_=>List.Pairwise.nil
 | _,_,_::_,[],h=>by simp [gi] at h
 | _,_,k1::ks,_::_,h=>List.Pairwise.cons (fun k hk=>tL h.2.2.2 k hk k1 rfl) (jM h.2.2.2)
theorem ng{lk:List B.Lk}{key:ByteArray}{q:Nat}(hp:B.fK lk key q)(hs:(lk.map (·.1)).Pairwise fun a b=>cR a b=true):(∀ k ∈ (lk.map (·.1)).take q,cR key k=false)∧∀ k,((lk.map (·.1)).drop q).head?=some k→cR key k=true:=by
 refine ⟨fun k hk=>?_,fun k hk=>?_⟩
 ·obtain ⟨i,hi,rfl⟩:=aK hk;rw [ag,az] at hi;rw [bF];obtain ⟨j,rfl⟩ : ∃ j,q=j+1:=⟨q - 1,by omega⟩
  have hj:j<lk.length:=by have:=hp.1;omega
  have hle:=hp.2.2 j hj rfl;have h1:cR key lk[j].1=false:=by
   unfold B.Ep at hle;rw [Bool.or_eq_true] at hle;rcases hle with h | h
   ·exact kT h
   ·rw [oZ] at h;rw [of_decide_eq_true h];exact nh key
  rcases a6 i j with NU | NU
  ·have h2:=List.pairwise_iff_getElem.1 hs i j (by rw [az];omega) (by rw [az];omega) NU
   rw [ch,ch] at h2;rw [ch];cases h:cR key lk[i].1
   ·rfl
   ·rw [dq h h2] at h1;cases h1
  ·have e:i=j:=by omega
   subst e;rw [ch];exact h1
 ·rw [List.head?_drop] at hk;obtain ⟨hq,hv⟩:=List.getElem?_eq_some_iff.1 hk;rw [az] at hq;rw [ch] at hv;have hle:=hp.2.1 q hq (aj _);unfold B.Ep at hle;rw [Bool.or_eq_false_iff] at hle;rw [← hv];cases h:cR key lk[q].1
  ·have:=mu (a:=key) (b:=lk[q].1) h hle.1;rw [oZ] at hle;have:=of_decide_eq_false hle.2;exact absurd (by assumption:key=lk[q].1).symm this
  ·rfl
theorem ml{α:Type}{ks:List ByteArray}{cs:List α}{q:Nat}{c:α}(hl:cs.length=ks.length+1)(hc:cs[q]?=some c):ks=ks.take q++ks.drop q∧cs=cs.take q++c::cs.drop (q+1)∧(ks.take q).length=(cs.take q).length∧(cs.take q).length=q:=by
 obtain ⟨hq,hv⟩:=List.getElem?_eq_some_iff.1 hc;refine ⟨(aI q ks).symm,?_,?_,?_⟩
 ·rw [← hv,← bg hq,aI]
 ·rw [ag,ag];omega
 ·rw [ag];omega
variable {h:Nat} {PG:Int→Option PD} {w:World} {n:SN} {t:Nd h} {d:S.V.bE}
def FlS(d:S.V.bE)(key:ByteArray)(f:List Pr→List Pr)(w:World)(n:SN)(x:XT):Prop:=∃ t',aW (cF d) w x.1 n t'∧Zo key f x.1 x.2 t'∧fh x.1 t'=0
theorem aW.zP{PG:Int→Option PD}{w:World}{h:Nat}{n:SN}{t:Nd h}(hn:aW PG w h n t):n.zP:=by
 cases h with
 | zero=>exact .inl (by rw [hn.1];rfl)
 | succ h=>exact hn.2.2.1
theorem aW.kind{w':World}{m:SN}{u:Nd h}(hn:aW PG w h n t)(hm:aW PG w' h m u):n.us.length=0↔m.us.length=0:=by
 cases h with
 | zero=>rw [hn.1,hm.1]
 | succ h=>exact ⟨fun e=>absurd (List.length_eq_zero_iff.1 e) hn.2.1,fun e=>absurd (List.length_eq_zero_iff.1 e) hm.2.1⟩
theorem X4{key:ByteArray}{f:List Pr→List Pr}(W:World)(n:SN)(x:XT)(h:FlS d key f W n x):n.zP:=by
 obtain ⟨t',h1,_⟩:=h;exact h1.zP
theorem pQ{W:World}{b:Nat}{pv lv cv:Value}(hn:aW PG w h n t)(hs:dP W b n pv lv cv):h=0∨3≤n.lk.length∨¬ 4072<n.sz:=by
 cases h with
 | zero=>exact .inl rfl
 | succ h =>
  right
  by_cases hb:4072<n.sz
  ·left
   rw [SN.VA (fun e=>hn.2.1 (List.length_eq_zero_iff.1 e)),← rF] at hb
   have hm:=Dl (l:=n.lk.map (·.1)) (fun k hk=>by
    obtain ⟨p,hp,rfl⟩:=List.mem_map.1 hk;exact hs.fine.2.2.1 p hp)
   rw [az] at hm;omega
  ·exact .inr hb
theorem Jw(a b:Nd h)(k:ByteArray):fh h (jq h a k b)=0:=by cases h <;> rfl
theorem Av(hn:aW PG w h n t):n.sz<n.min↔small h t:=by unfold small;rw [hn.sz,hn.min]
theorem BU{base:Nat}{A:Nat→Addr}{db:Nat}{F:Nat→Prop}(key:ByteArray)(f:List Pr→List Pr)(tb:Nat)(rv:Value)(W:World)(s:gF XT)(z:XT)(bb:Nat)(nb:SN)(pb lb cb:Value)(hv:Dv base A db F d W)(ht:B.au W tb #[.pointer (some ⟨db,0,none⟩),rv] 100)(cM:SP (dh d) W s)(yu:¬ s.n.us.length=0)(zW:B.fK s.n.lk key s.at')(bO:s.at'<s.n.us.length)(oN:(dh d).sub s.x s.at' z)(hs:dP W bb nb pb lb cb)(il:FlS d key f W nb z):Calls prog 82 #[.pointer (some ⟨tb,0,none⟩),.agg #[.pointer (some ⟨s.b,0,none⟩),.int .i64 (s.at':Int)],.pointer (some ⟨bb,0,none⟩)] W fun e w'=>UpS (dh d) A (FlS d key f) s.x e w'∧Dv base A db F d w'∧Mv db F W w':=by
 obtain ⟨⟨pv,lv,cv,Ud⟩,hn⟩:=cM;obtain ⟨b,n,i,⟨hh,t⟩⟩:=s;cases hh with
 | zero=>exact oN.elim
 | succ h =>
 obtain ⟨c,hc,rfl⟩:=oN;obtain ⟨hn,hg⟩:=hn;have hn:aW (cF d) W (h+1) n t:=hn;have hc:t.2.2[i]?=some c:=hc;obtain ⟨c',su,VI,ru⟩:=il;have su:aW (cF d) W h nb c':=su;have VI:Zo key f h c c':=VI;have ru:fh h c'=0:=ru;simp only at Ud yu zW bO ⊢;have eF:=lp (x:=⟨h+1,t⟩) hn hg;have hlen:=hn.len;have b8:=eF.2.1;rw [SN.VA yu] at b8;have h1:=eF.2.2.resolve_left yu;have VQ:=B.py n.lk;have jg:t.2.1=n.lk.map (·.1):=hn.2.2.2.1;have cZ:t.2.1.length=n.lk.length:=by rw [jg,az]
 have ry:t.2.2.length=t.2.1.length+1:=by rw [← hn.1,hlen,cZ]
 obtain ⟨lo,hi,ho⟩:=hg.1;have oO:=jM ((eS h t lo hi).1 ho);rw [jg] at oO;obtain ⟨SB,SA⟩:=ng zW oO;rw [← jg] at SB SA;obtain ⟨e1,e2,el,ei⟩:=ml ry hc;have gQ:=su.zP;-- what is to be shown of a node that IP makes
 have Qp:∀ (w':World) (b':Nat) (n':SN) (p' l' c2:Value) (ks:List ByteArray) (cs:List (Nd h)),dP w' b' n' p' l' c2→aW (cF d) w' (h+1) n' (0,ks,cs)→CG h (t.2.1.take i) (t.2.1.drop i) (t.2.2.take i) c' (t.2.2.drop (i+1)) ks cs→UpS (dh d) A (FlS d key f) ⟨h+1,t⟩ (.returned (.tuple #[.pointer (some ⟨b',0,none⟩),.nilIface])) w':=by
  intro w' b' n' p' l' c2 ks cs g1 g2 g3;exact .inr ⟨b',n',p',l',c2,rfl,g1,(0,ks,cs),g2,⟨_,_,_,c,_,e1,e2,el,SB,SA,c',ks,cs,VI,g3,rfl⟩,rfl⟩
 by_cases zT:nb.sz<nb.min
 ·have Qm:=(Av su).1 zT;cases i with
  | zero =>
   obtain ⟨y,hy⟩ : ∃ y,t.2.2[1]?=some y:=⟨_,af (by omega)⟩
   obtain ⟨p,hp⟩ : ∃ p,n.us[1]?=some p:=⟨_,af (by omega)⟩
   refine (Dz (dh d) tb rv b bb n nb pv lv cv pb lb cb ⟨h,y⟩ p W Ud hs bO hlen (by omega) (by omega) gQ zT hp ⟨hn.qi hp hy,mz hg hy⟩ ht hv (.inr fun W' m hm=>(aW.kind (t:=y) (u:=c') hm.1 su))).mono fun e w' hh=>⟨?_,hh.2⟩
   obtain ⟨hj,T9,hm'⟩:=hh;rcases hj with ⟨hE,_⟩ | ⟨b',w2,m,k,zz,bj,pj,lj,cj,rfl,jD,lP,lW,oR,hsj,tV⟩
   ·exact hE.elim
   ·have aw:=jD.cN hv;have lW:aW (cF d) w2 h m y:=lW.1;have Qy:=aW.cN aw (h+1) hn;have Qx:=aW.cN aw h su;have ek:t.2.1=k::t.2.1.drop 1:=by
     have hx:t.2.1[0]?=some k:=by rw [jg,aG,lP];rfl
     obtain ⟨sR,wF⟩:=List.getElem?_eq_some_iff.1 hx;have:=bg sR;rw [wF,List.drop_zero] at this;exact this
    have ec:t.2.2=c::y::t.2.2.drop 2:=by
     obtain ⟨sR,wF⟩:=List.getElem?_eq_some_iff.1 hc;obtain ⟨YX,YW⟩:=List.getElem?_eq_some_iff.1 hy;have a1:=bg sR;have a2:=bg YX;rw [wF,List.drop_zero] at a1;rw [YW] at a2;rw [← a2];exact a1
    have zU:=aW.set (C1:=[]) (C2:=y::t.2.2.drop 2) (c:=c) (x:=c') (p:=.nd bb) Qy ec ⟨ru,nb,pb,lb,cb,hs.cN aw,Qx⟩ [] n.f;have Uf:=aW.rem (K1:=[]) (K2:=t.2.1.drop 1) (C1:=[]) (C2:=t.2.2.drop 2) (a:=c') (b:=y) (k:=k) zU ek rfl rfl [] n.f;have hjn:=AZ (key:=k) Qx lW;obtain ⟨b2,n2,p2,l2,c2,ks,cs,he,g1,g2,g3,_⟩:=tp (K1:=[]) (K2:=t.2.1.drop 1) (C1:=[]) (C2:=t.2.2.drop 2) (c:=c') (x:=jq h c' k y) Uf rfl rfl rfl hjn hsj (Jw _ _ _) (pQ hjn hsj) tV;cases he;refine Qp w' b' n2 p2 l2 c2 ks cs g1 g2 (.inr (.inl ⟨Qm,rfl,rfl,k,_,y,_,ek,?_,g3⟩));have:=congrArg (List.drop 1) ec;exact this
  | succ j =>
   obtain ⟨y,hy⟩ : ∃ y,t.2.2[j]?=some y:=⟨_,af (by omega)⟩
   obtain ⟨p,hp⟩ : ∃ p,n.us[j]?=some p:=⟨_,af (by omega)⟩
   have Bf:=DA (dh d) tb rv b bb n nb pv lv cv pb lb cb j ⟨h,y⟩ p W Ud hs bO hlen (by omega) (by omega) gQ zT hp ⟨hn.qi hp hy,mz hg hy⟩ ht hv (.inr fun W' m hm=>(aW.kind (t:=y) (u:=c') hm.1 su))
   rw [show ((j+1:Nat):Int)=(j:Int)+1 by omega]
   refine Bf.mono fun e w' hh=>⟨?_,hh.2⟩
   obtain ⟨hj,T9,hm'⟩:=hh;rcases hj with ⟨hE,_⟩ | ⟨b',w2,m,k,zz,bj,pj,lj,cj,rfl,jD,lP,lW,oR,hsj,tV⟩
   ·exact hE.elim
   ·have aw:=jD.cN hv;have lW:aW (cF d) w2 h m y:=lW.1;have Qy:=aW.cN aw (h+1) hn;have Qx:=aW.cN aw h su;have hx:t.2.1[j]?=some k:=by rw [jg,aG,lP];rfl
    have ek1:t.2.1.take (j+1)=t.2.1.take j++[k]:=by rw [gw,hx];rfl
    have ec1:t.2.2.take (j+1)=t.2.2.take j++[y]:=by rw [gw,hy];rfl
    have ek:t.2.1=t.2.1.take j++k::t.2.1.drop (j+1):=by
     have:=e1;rw [ek1,ay] at this;exact this
    have lj1:(t.2.1.take j).length=(t.2.2.take j).length:=by rw [ag,ag];omega
    have lj2:(t.2.2.take j).length=j:=by rw [ag];omega
    have zU:=aW.set (C1:=t.2.2.take (j+1)) (C2:=t.2.2.drop (j+1+1)) (c:=c) (x:=c') (p:=.nd bb) Qy e2 ⟨ru,nb,pb,lb,cb,hs.cN aw,Qx⟩ [] n.f;rw [ei] at zU;have Uf:=aW.rem (K1:=t.2.1.take j) (K2:=t.2.1.drop (j+1)) (C1:=t.2.2.take j) (C2:=t.2.2.drop (j+1+1)) (a:=y) (b:=c') (k:=k) zU ek (by show t.2.2.take (j+1)++c'::_=_;rw [ec1,ay];rfl) lj1 [] n.f
    rw [lj2] at Uf;have hjn:=AZ (key:=k) lW Qx;have Xo:mG w2 ⟨[],n.f,B.cC n.lk j,C.cC (n.us.set (j+1) (.nd bb)) (j+1)⟩ (t.2.2.take j).length bj (m.join k nb) (.returned (.pointer (some ⟨b',0,none⟩))) w':=by rw [lj2];exact tV
    obtain ⟨b2,n2,p2,l2,c2,ks,cs,he,g1,g2,g3,_⟩:=tp (K1:=t.2.1.take j) (K2:=t.2.1.drop (j+1)) (C1:=t.2.2.take j) (C2:=t.2.2.drop (j+1+1)) (c:=y) (x:=jq h y k c') Uf rfl rfl lj1 hjn hsj (Jw _ _ _) (pQ hjn hsj) Xo;cases he;exact Qp w' b' n2 p2 l2 c2 ks cs g1 g2 (.inr (.inr ⟨Qm,_,k,_,y,ek1,ec1,g3⟩))
 ·refine (BV A tb b bb n nb pv lv cv pb lb cb i W Ud hs bO hlen (by omega) gQ zT hv.uq).mono fun e w' hh=>?_
  obtain ⟨b',rfl,tV⟩:=hh;have bQ:=tV.below;have Xo:mG W n (t.2.2.take i).length bb nb (.returned (.pointer (some ⟨b',0,none⟩))) w':=by rw [ei];exact tV
  obtain ⟨b2,n2,p2,l2,c2,ks,cs,he,g1,g2,g3,_⟩:=tp hn e1 e2 el su hs ru (pQ su hs) Xo;cases he;exact ⟨Qp w' b' n2 p2 l2 c2 ks cs g1 g2 (.inl ⟨fun h=>zT ((Av su).2 h),g3⟩),hv.below bQ,Mv.of bQ⟩
theorem Fa{h:Nat}{cs:List (Nd h)}(hl:2≤cs.length)(hc:∀ c ∈ cs,2 ^ h≤(flat h c).length):2 ^ (h+1)≤(cs.flatMap (flat h)).length:=by
 match cs,hl,hc with
 | a::b::cs,_,hc =>
  have h1:=hc a (by simp)
  have h2:=hc b (by simp)
  rw [List.flatMap_cons,List.flatMap_cons,ae,ae,Nat.pow_succ];omega
theorem rV:∀ (h:Nat) {t:Nd h} {lo hi:Option ByteArray},kG h t lo hi→2 ^ h≤(flat h t).length
 | 0,t,_,_,ho=>by
  have h1:xY 0≤fB t.2:=ho.2.1;show 1≤t.2.length
  cases ht:t.2 with
  | nil=>rw [ht] at h1;simp [xY,lG] at h1
  | cons _ _=>simp
 | h+1,t,lo,hi,ho=>by
  have hc:=(eS h t lo hi).1 ho.1;have hl:=iD hc;have h1:1777≤eI t.2.1:=ho.2.1;refine Fa (h:=h) (cs:=t.2.2) ?_ fun c hm=>?_
  ·cases hk:t.2.1 with
   | nil=>rw [hk] at h1;have:eI []=6:=rfl;omega
   | cons _ _=>rw [hk,List.length_cons] at hl;omega
  ·obtain ⟨i,mc,rfl⟩:=aK hm;obtain ⟨pT,vU,hf⟩:=kN hc i _ (af mc);exact rV h hf
theorem tG{h:Nat}{t:Nd h}(hr:eD (some ⟨h,t⟩)):2 ^ h≤(flat h t).length:=by
 obtain ⟨ho,_,h1⟩:=hr;cases h with
 | zero =>
  show 1≤t.2.length
  have h1:t.2≠[]:=h1;exact List.length_pos_iff.2 h1
 | succ h =>
  have h1:t.2.1≠[]:=h1;have hc:=(eS h t none none).1 ho;have hl:=iD hc;have:=List.length_pos_iff.2 h1;refine Fa (h:=h) (cs:=t.2.2) (by omega) fun c hm=>?_
  obtain ⟨i,mc,rfl⟩:=aK hm;obtain ⟨pT,vU,hf⟩:=kN hc i _ (af mc);exact rV h hf
theorem lh{h:Nat}{t:Nd h}(hr:eD (some ⟨h,t⟩))(hn:(flat h t).length≤4611686018427387904):h+1≤64:=by
 have h1:=tG hr;have h2:2 ^ h≤2 ^ 62:=ar h1 (by omega)
 have:=(Nat.pow_le_pow_iff_right (by omega:1<2)).1 h2
 omega
theorem jK{h:Nat}{t:Nd h}(hr:eD (some ⟨h,t⟩)):jH ⟨h,t⟩:=by
 obtain ⟨ho,hs,h1⟩:=hr;cases h with
 | zero=>exact ⟨⟨none,none,ho⟩,hs⟩
 | succ h=>exact ⟨⟨none,none,ho⟩,hs,List.length_pos_iff.2 h1⟩
section
variable {PG:Int→Option PD} {w:World} {tb:Nat} {q:Option Addr} {rv:Value}
theorem aW.tree(ht:B.au w tb #[.pointer q,rv] 100)(zV:rv = .nilIface∨∃ t x,rv = .iface t x)(u:Value):∀ (h:Nat) {n:SN} {t:Nd h},aW PG w h n t→jH ⟨h,t⟩→aW PG (w.setCell ⟨tb,1,none⟩ u) h n t
 | 0,_,_,hn,_=>hn
 | h+1,n,t,hn,hg=>⟨hn.1,hn.2.1,hn.2.2.1,hn.2.2.2.1,fun i p c h1 h2=>by
  have hk:=hn.2.2.2.2 i p c h1 h2;have hgc:=mz hg h2;cases p with
  | pg id=>exact hk
  | nd b =>
   obtain ⟨h0,m,pv,lv,cv,hs,hm⟩:=hk;exact ⟨h0,m,pv,lv,cv,hs.tree (lp (x:=⟨h,c⟩) hm hgc).kids ht zV u,aW.tree ht zV u h hm hgc⟩⟩
theorem eu.tree(ht:B.au w tb #[.pointer q,rv] 100)(zV:rv = .nilIface∨∃ t x,rv = .iface t x)(u:Value){h:Nat}{p:C.Ch}{t:Nd h}(hk:eu PG w h p t)(hg:jH ⟨h,t⟩):eu PG (w.setCell ⟨tb,1,none⟩ u) h p t:=by
 cases p with
 | pg id=>exact hk
 | nd b =>
  obtain ⟨h0,m,pv,lv,cv,hs,hm⟩:=hk;exact ⟨h0,m,pv,lv,cv,hs.tree (lp (x:=⟨h,t⟩) hm hg).kids ht zV u,hm.tree ht zV u h hg⟩
theorem ft.tree(ht:B.au w tb #[.pointer q,rv] 100)(zV:rv = .nilIface∨∃ t x,rv = .iface t x)(u:Value){v:Value}{r:cT}(hr:ft PG w v r)(cM:eD r):ft PG (w.setCell ⟨tb,1,none⟩ u) v r:=by
 rcases hr with h | ⟨p,h,t,e1,rfl,hk⟩
 ·exact .inl h
 ·exact .inr ⟨p,h,t,e1,rfl,hk.tree ht zV u (jK cM)⟩
end
theorem ft.cN{PG:Int→Option PD}{w w':World}{v:Value}{r:cT}(hr:ft PG w v r)(ha:df w w'):ft PG w' v r:=by
 rcases hr with h | ⟨p,h,t,e1,e2,hk⟩
 ·exact .inl h
 ·exact .inr ⟨p,h,t,e1,e2,hk.cN ha⟩
theorem ft.form{PG:Int→Option PD}{w:World}{v:Value}{r:cT}(hr:ft PG w v r):v = .nilIface∨∃ t x,v = .iface t x:=by
 rcases hr with ⟨h,_⟩ | ⟨p,_,_,h,_⟩
 ·exact .inl h
 ·exact .inr (h▸bU p)
theorem Jk{F:Nat→Prop}{tb:Nat}{w w':World}(h:S.V.Step F F w w'):S.V.Step (fun k=>F k∨k=tb) (fun k=>F k∨k=tb) w w':=⟨h.os,h.tape,h.output,h.size,fun k hk hn=>h.block k hk (fun e=>hn (.inl e)),fun _ h=>.inl h⟩
structure Ts(base:Nat)(A:Nat→Addr)(db:Nat)(F:Nat→Prop)(d:S.V.bE)(W0 w:World)(tb:Nat)(r:cT):Prop where
 dv:Dv base A db F d w
 tr:∃ rv,B.au w tb #[.pointer (some ⟨db,0,none⟩),rv] 100∧ft (cF d) w rv r
 ok:eD r
 st:S.V.Step (fun k=>F k∨k=tb) (fun k=>F k∨k=tb) W0 w
 lo:base≤tb∧¬ F tb
section
variable {base:Nat} {A:Nat→Addr} {db:Nat} {F:Nat→Prop} {d:S.V.bE} {W0:World} {r:cT}
theorem Ts.mv{w w':World}{tb:Nat}(h:Ts base A db F d W0 w tb r)(hm:Mv db F w w')(hv:Dv base A db F d w'):Ts base A db F d W0 w' tb r:=by
 obtain ⟨rv,h1,h2⟩:=h.tr;exact ⟨hv,⟨rv,dX (hm.cN h.dv) h1,h2.cN (hm.cN h.dv)⟩,h.ok,h.st.trans (Jk hm.step),h.lo⟩
theorem Ts.below{w w':World}{tb:Nat}(h:Ts base A db F d W0 w tb r)(hb:Below w.heap.size w w'):Ts base A db F d W0 w' tb r:=h.mv (Mv.of hb) (h.dv.below hb)
theorem Ts.root{w W2:World}{tb:Nat}{u rv:Value}{r':cT}(h:Ts base A db F d W0 w tb r)(hm:Mv db F w W2)(je:Dv base A db F d W2)(tX:B.au W2 tb #[.pointer (some ⟨db,0,none⟩),rv] 100)(zV:rv = .nilIface∨∃ t x,rv = .iface t x)(hr:ft (cF d) W2 u r')(cM:eD r'):Ts base A db F d W0 (W2.setCell ⟨tb,1,none⟩ u) tb r':=by
 refine ⟨je.tree h.lo.1 h.lo.2 1 u,⟨u,B.au.one tX u,hr.tree tX zV u cM⟩,cM,?_,h.lo⟩;have h1:=h.st.trans (Jk hm.step);have hs:=bG.set tb 1 W2 u;exact ⟨hs.os.trans h1.os,hs.tape.trans h1.tape,hs.output.trans h1.output,ar h1.size hs.size,fun k hk hn=>(hs.block k (aq hk h1.size) (fun e=>hn (.inr e))).trans (h1.block k hk hn),fun _ h=>.inl h⟩
theorem Cx{w w1:World}{tb:Nat}{pv:Value}(key:ByteArray)(f:List Pr→List Pr)(hf:Go.Proofs.YtihmgigfkmofnaaGreatDoor.Fit key f)(h:Ts base A db F d W0 w tb none)(hm:Mv db F w w1)(hv:Dv base A db F d w1)(ht:B.au w1 tb #[.pointer (some ⟨db,0,none⟩),.nilIface] 100)(hp:gM w1 pv (f [])):Calls prog 47 #[.pointer (some ⟨tb,0,none⟩),.slice none 0 0,pv] w1 fun e w'=>e = .returned .nilIface∧∃ r',uE key f none r'∧Ts base A db F d W0 w' tb r':=by
 have b8:=hf.size [];rw [lG] at b8;have hl:=gT (f []);have ub:∀ p ∈ f [],cQ p=true:=fun p hp=>by
  rcases hf.mem [] p hp with h | h
  ·simp at h
  ·exact h.2
 have hc:=yO (noS d) (fun _ _=>True) (fun _ n _=>n=⟨f [],0,[],[]⟩) (fun _ n _ h=>by subst h;exact .inl rfl) tb .nilIface none 0 [] [] () () pv (f []) w w1 (.inl ⟨rfl,rfl⟩) (by simp) (uF.nil _ _) rfl hp ⟨ub,by omega⟩ (fun _=>rfl) ht hv h.dv hm (fun W s z bb nb pb lb cb _ _ cM=>(cM.2:False).elim)
 refine hc.mono fun e w' hh=>?_
 rcases hh with ⟨hE,_⟩ | ⟨W,W2,b,n,pn,ln,cn,u,he,hs,hn,hr,je,jD,tX,rfl⟩
 ·exact (hE:False).elim
 ·subst hn;obtain ⟨v,r',e1,g1,g2,_⟩:=AA (PG:=cF d) (h:=0) (t:=(0,f [])) ⟨rfl,rfl⟩ hs rfl (.inl rfl) hr;cases e1;exact ⟨he,r',g2,h.root jD je tX (.inl rfl) g1 (pw hf (r:=none) trivial g2).1⟩
theorem sK{w w1:World}{tb:Nat}{a:Option Addr}{c:Nat}{ss:List (gF XT)}{s:gF XT}{rv pv:Value}{x:XT}{t0:Nd 0}(key:ByteArray)(f:List Pr→List Pr)(hf:Go.Proofs.YtihmgigfkmofnaaGreatDoor.Fit key f)(h:Ts base A db F d W0 w tb (some x))(hm:Mv db F w w1)(hv:Dv base A db F d w1)(ht:B.au w1 tb #[.pointer (some ⟨db,0,none⟩),rv] 100)(zV:rv = .nilIface∨∃ t x,rv = .iface t x)(dG:ss.length≤64)(ho:uF w1 w.heap.size (.slice a (ss.length+1) c) (ss.map gF.lk++[s.lk]))(jr:Way (dh d) (fun n q=>B.fK n.lk key q) w1 x ss ⟨0,t0⟩)(b8:fB t0.2≤4072)(Ul:∀ p ∈ t0.2,cQ p=true)(hp:gM w1 pv (f t0.2)):Calls prog 47 #[.pointer (some ⟨tb,0,none⟩),.slice a (ss.length+1) c,pv] w1 fun e w'=>e = .returned .nilIface∧∃ r',uE key f (some x) r'∧Ts base A db F d W0 w' tb r':=by
 have ja:=hf.size t0.2;have hl:=gT (f t0.2);have ub:∀ p ∈ f t0.2,cQ p=true:=fun p hp=>by
  rcases hf.mem _ p hp with h | h
  ·exact Ul p h
  ·exact h.2
 have hL:(ss.map gF.lk++[s.lk]).length=ss.length+1:=by simp
 have hc:=yO (dh d) (fun n q=>B.fK n.lk key q) (FlS d key f) X4 tb rv a c (ss.map gF.lk++[s.lk]) ss x ⟨0,t0⟩ pv (f t0.2) w w1 (.inr ⟨_,rfl⟩) dG (by rw [hL];exact ho) jr hp ⟨ub,by omega⟩ (fun W=>⟨(0,f t0.2),⟨rfl,rfl⟩,rfl,rfl⟩) ht hv h.dv hm (fun W s z bb nb pb lb cb h1 h2 h3 h4 h5 h6 h7 h8 h9=>BU key f tb rv W s z bb nb pb lb cb h1 h2 h3 h4 h5 h6 h7 h8 h9)
 rw [hL] at hc;refine hc.mono fun e w' hh=>?_
 rcases hh with ⟨hE,_⟩ | ⟨W,W2,b,n,pn,ln,cn,u,he,hs,⟨t',hn,hu,ru⟩,hr,je,jD,tX,rfl⟩
 ·exact (hE:False).elim
 ·obtain ⟨v,r',e1,g1,g2,_⟩:=AA hn hs ru (pQ hn hs) hr;cases e1;have VI:uE key f (some x) r':=⟨t',hu,g2⟩;exact ⟨he,r',VI,h.root jD je tX zV g1 (pw hf h.ok VI).1⟩
end
end T
section
variable {h:Nat} {x:Nd h} {C1 C2:List (Nd h)} {B A:List ByteArray} {cs:List (Nd h)} {ks:List ByteArray} {r:cT}
def cU(n:Nat):List Nat:=if n=0 then [] else [n]
def cD:(h:Nat)→Nd h→List Nat
 | 0,t=>cU t.1
 | h+1,t=>cU t.1++t.2.2.flatMap (cD h)
def Pl:(h:Nat)→Nd h→List Nat
 | 0,_=>[]
 | h+1,t=>t.2.2.flatMap (cD h)
theorem mo(h:Nat)(t:Nd h):(Pl h t).Sublist (cD h t):=by
 cases h with
 | zero=>exact List.nil_sublist _
 | succ h=>exact dF _ _
theorem DW(h:Nat)(a b:Nd h)(k:ByteArray):cD h (jq h a k b)=Pl h a++Pl h b:=by
 cases h with
 | zero=>rfl
 | succ h=>simp [cD,Pl,jq,cU]
theorem JB{a b:Nd h}{k:ByteArray}(hc:Cut h x a k b):cD h a++cD h b=Pl h x:=by
 obtain ⟨i,_,hc⟩:=hc;cases h with
 | zero =>
  obtain ⟨rfl,rfl,_⟩:=hc;rfl
 | succ h =>
  obtain ⟨rfl,rfl,_⟩:=hc;show (cU 0++(x.2.2.take (i+1)).flatMap (cD h))++(cU 0++(x.2.2.drop (i+1)).flatMap (cD h))=x.2.2.flatMap (cD h)
  rw [show cU 0=[] from rfl,List.nil_append,List.nil_append,← aN,aI]
theorem xL(hw:IP h A B C1 x C2 ks cs):(cs.flatMap (cD h)).Sublist (C1.flatMap (cD h)++(cD h x++C2.flatMap (cD h))):=by
 rcases hw with ⟨_,_,rfl⟩ | ⟨_,a,k,b,hc,_,rfl⟩
 ·simp
 ·rw [aN,List.flatMap_cons,List.flatMap_cons,← ay (cD h a),JB hc];exact List.Sublist.append_left (List.Sublist.append_right (mo h x) _) _
theorem GY(hs:CG h A B C1 x C2 ks cs):(cs.flatMap (cD h)).Sublist (C1.flatMap (cD h)++(cD h x++C2.flatMap (cD h))):=by
 rcases hs with ⟨_,hw⟩ | ⟨_,rfl,rfl,k,B',b,C2',rfl,rfl,hw⟩ | ⟨_,A',k,C1',a,rfl,rfl,hw⟩
 ·exact xL hw
 ·refine (xL hw).trans ?_
  rw [DW,List.flatMap_cons,ay];exact List.Sublist.append_left (List.Sublist.append (mo h x) (List.Sublist.append_right (mo h b) _)) _
 ·refine (xL hw).trans ?_
  rw [DW,aN,ay,ay,List.flatMap_cons,List.flatMap_nil,List.append_nil];exact List.Sublist.append_left (List.Sublist.append (mo h a) (List.Sublist.append_right (mo h x) _)) _
theorem Jy{key:ByteArray}{f:List Pr→List Pr}:∀ (h:Nat) {t t':Nd h},Zo key f h t t'→(cD h t').Sublist (cD h t)
 | 0,t,t',hu=>by
  have hu:t'=(0,f t.2):=hu;subst hu;exact List.nil_sublist _
 | h+1,t,t',hu=>by
  obtain ⟨A,B,C1,c,C2,_,e2,_,_,_,c',ks,cs,hc,hs,rfl⟩:=hu;show (cU 0++cs.flatMap (cD h)).Sublist (cU t.1++t.2.2.flatMap (cD h))
  rw [show cU 0=[] from rfl,List.nil_append,e2,aN,List.flatMap_cons]
  exact (GY hs).trans ((List.Sublist.append_left (List.Sublist.append_right (Jy h hc) _) _).trans (dF _ _))
def eh:cT→List Nat
 | none=>[]
 | some r=>cD r.1 r.2
theorem xN{t:Nd h}(hr:uG h t r):(eh r).Sublist (cD h t):=by
 rcases hr with ⟨_,a,k,b,hc,rfl⟩ | ⟨_,_,rfl⟩ | ⟨_,_,hr⟩
 ·show (cU 0++[a,b].flatMap (cD h)).Sublist _
  rw [show cU 0=[] from rfl,List.nil_append,List.flatMap_cons,List.flatMap_cons,List.flatMap_nil,List.append_nil,JB hc]
  exact mo h t
 ·exact List.Sublist.refl _
 ·cases h with
  | zero =>
   have hr:r=none:=hr;subst hr;exact List.nil_sublist _
  | succ h =>
   obtain ⟨c,e,rfl⟩:=hr;show (cD h c).Sublist (cU t.1++t.2.2.flatMap (cD h))
   rw [e,List.flatMap_cons,List.flatMap_nil,List.append_nil];exact dF _ _
theorem DV{key:ByteArray}{f:List Pr→List Pr}{r':cT}(hu:uE key f r r'):(eh r').Sublist (eh r):=by
 cases r with
 | none=>exact xN (h:=0) (t:=(0,f [])) hu
 | some r =>
  obtain ⟨t',h1,h2⟩:=hu;exact (xN h2).trans (Jy r.1 h1)
end
namespace T
open Go.RowKit
variable {h:Nat} {P:Nat→Nat}
def jh:(h:Nat)→Nd h→Nat
 | 0,t=>if t.1=0 then 1 else 0
 | h+1,t=>if t.1=0 then (t.2.2.map (jh h)).sum+1 else 0
def cd{α β γ:Type}(g:α→Nat→β × List γ):List α→Nat→List β × List γ
 | [],_=>([],[])
 | c::cs,k=>((g c k).1::(cd g cs (k+(g c k).2.length)).1,(g c k).2++(cd g cs (k+(g c k).2.length)).2)
def lZ:List (Nd h)→Int
 | []=>0
 | c::_=>(fh h c:Int)
def qJ(ks:List ByteArray)(cs:List (Nd h)):List B.Lk:=ks.zip (cs.tail.map fun c=>(fh h c:Int))
def aY(P:Nat→Nat):(h:Nat)→Nd h→Nat→Nd h × List (Nat × PD)
 | 0,t,k=>if t.1=0 then ((P k,t.2),[(P k,.leaf t.2)]) else (t,[])
 | h+1,t,k=>if t.1=0 then ((P (k+(cd (aY P h) t.2.2 k).2.length),t.2.1,(cd (aY P h) t.2.2 k).1),(cd (aY P h) t.2.2 k).2++[(P (k+(cd (aY P h) t.2.2 k).2.length),.br (lZ (cd (aY P h) t.2.2 k).1) (qJ t.2.1 (cd (aY P h) t.2.2 k).1))]) else (t,[])
theorem iw{α β γ:Type}(g:α→Nat→β × List γ):∀ (cs:List α) (k:Nat),(cd g cs k).1.length=cs.length
 | [],_=>rfl
 | c::cs,k=>by
  show (cd g cs (k+(g c k).2.length)).1.length+1=cs.length+1
  rw [iw g cs]
theorem sj{α β γ:Type}(g:α→Nat→β × List γ):∀ (cs:List α) (k i:Nat) (c:α),cs[i]?=some c→∃ ki,(cd g cs k).1[i]?=some (g c ki).1∧∀ x ∈ (g c ki).2,x ∈ (cd g cs k).2
 | [],_,i,c,h=>by simp at h
 | c0::cs,k,0,c,h=>by
  cases h;exact ⟨k,rfl,fun x hx=>dV _ hx⟩
 | c0::cs,k,i+1,c,h=>by
  obtain ⟨ki,h1,h2⟩:=sj g cs (k+(g c0 k).2.length) i c h;exact ⟨ki,h1,fun x hx=>cy _ (h2 x hx)⟩
theorem sk{h:Nat}{P:Nat→Nat}(ih:∀ (t:Nd h) (k:Nat),(aY P h t k).2.length=jh h t):∀ (cs:List (Nd h)) (k:Nat),(cd (aY P h) cs k).2.length=(cs.map (jh h)).sum
 | [],_=>rfl
 | c::cs,k=>by
  show ((aY P h c k).2++(cd (aY P h) cs (k+(aY P h c k).2.length)).2).length=jh h c+(cs.map (jh h)).sum
  rw [ae,ih,sk ih cs]
theorem pI{P:Nat→Nat}:∀ (h:Nat) (t:Nd h) (k:Nat),(aY P h t k).2.length=jh h t
 | 0,t,k=>by
  by_cases h0:t.1=0
  ·simp [aY,jh,h0]
  ·simp [aY,jh,h0]
 | h+1,t,k=>by
  by_cases h0:t.1=0
  ·simp [aY,jh,h0,sk (pI h)]
  ·simp [aY,jh,h0]
def pV(P:Nat→Nat)(k n:Nat):List Nat:=(List.range n).map fun j=>P (k+j)
theorem tU(P:Nat→Nat)(k n:Nat):pV P k (n+1)=pV P k n++[P (k+n)]:=by
 unfold pV;rw [List.range_succ,bz];rfl
theorem EG(P:Nat→Nat)(k m:Nat):∀ n,pV P k (m+n)=pV P k m++pV P (k+m) n
 | 0=>by simp [pV]
 | n+1=>by
  rw [← dN,tU,EG P k m n,tU,ay,dN]
theorem Ey{h:Nat}{P:Nat→Nat}(ih:∀ (t:Nd h) (k:Nat),(aY P h t k).2.map (·.1)=pV P k (aY P h t k).2.length):∀ (cs:List (Nd h)) (k:Nat),(cd (aY P h) cs k).2.map (·.1)=pV P k (cd (aY P h) cs k).2.length
 | [],_=>rfl
 | c::cs,k=>by
  show ((aY P h c k).2++(cd (aY P h) cs (k+(aY P h c k).2.length)).2).map (·.1)=pV P k ((aY P h c k).2++(cd (aY P h) cs (k+(aY P h c k).2.length)).2).length
  rw [bz,ih,Ey ih cs,ae,EG]
theorem Cb{P:Nat→Nat}:∀ (h:Nat) (t:Nd h) (k:Nat),(aY P h t k).2.map (·.1)=pV P k (aY P h t k).2.length
 | 0,t,k=>by
  by_cases h0:t.1=0
  ·simp [aY,h0,pV]
  ·simp [aY,h0,pV]
 | h+1,t,k=>by
  by_cases h0:t.1=0
  ·have:=Ey (Cb (P:=P) h) t.2.2 k;simp only [aY,h0,if_true,bz,ae,List.map_cons,List.map_nil,List.length_cons,List.length_nil];rw [this,Nat.zero_add,tU]
  ·simp [aY,h0,pV]
theorem AX{h:Nat}{P:Nat→Nat}(ih:∀ (t:Nd h) (k:Nat),flat h (aY P h t k).1=flat h t):∀ (cs:List (Nd h)) (k:Nat),(cd (aY P h) cs k).1.flatMap (flat h)=cs.flatMap (flat h)
 | [],_=>rfl
 | c::cs,k=>by
  show ((aY P h c k).1::(cd (aY P h) cs (k+(aY P h c k).2.length)).1).flatMap (flat h)=_
  rw [List.flatMap_cons,List.flatMap_cons,ih,AX ih cs]
theorem Ew{P:Nat→Nat}:∀ (h:Nat) (t:Nd h) (k:Nat),flat h (aY P h t k).1=flat h t
 | 0,t,k=>by
  by_cases h0:t.1=0
  ·simp [aY,h0,flat]
  ·simp [aY,h0]
 | h+1,t,k=>by
  by_cases h0:t.1=0
  ·have:=AX (Ew (P:=P) h) t.2.2 k;simp only [aY,h0,if_true];exact this
  ·simp [aY,h0]
theorem Ca(h:Nat)(t:Nd h)(k:Nat):mQ h (aY P h t k).1=mQ h t:=by
 cases h with
 | zero =>
  by_cases h0:t.1=0
  ·simp [aY,h0,mQ]
  ·simp [aY,h0]
 | succ h =>
  by_cases h0:t.1=0
  ·simp [aY,h0,mQ]
  ·simp [aY,h0]
theorem P2(h:Nat)(t:Nd h)(k:Nat)(hs:qf h t):qf h (aY P h t k).1:=by
 cases h with
 | zero =>
  by_cases h0:t.1=0
  ·simp only [aY,h0,if_true];exact hs
  ·simp only [aY,h0,if_false];exact hs
 | succ h =>
  by_cases h0:t.1=0
  ·simp only [aY,h0,if_true];exact hs
  ·simp only [aY,h0,if_false];exact hs
theorem wE{h:Nat}{P:Nat→Nat}(ih:∀ (t:Nd h) (k:Nat) (lo hi:Option ByteArray),kG h t lo hi→kG h (aY P h t k).1 lo hi):∀ (cs:List (Nd h)) (ks:List ByteArray) (k:Nat) (lo hi:Option ByteArray),gi (kG h) lo hi ks cs→gi (kG h) lo hi ks (cd (aY P h) cs k).1
 | [],ks,_,_,_,ho=>by cases ks <;> simp [gi] at ho
 | [c],[],k,lo,hi,ho=>by
  have ho:kG h c lo hi:=ho;exact ih c k lo hi ho
 | [_],[_],_,_,_,ho=>by simp [gi] at ho
 | [_],_::_::_,_,_,_,ho=>by simp [gi] at ho
 | _::_::_,[],_,_,_,ho=>by simp [gi] at ho
 | c::d::cs,k0::ks,k,lo,hi,ho=>by
  obtain ⟨h1,h2,h3,h4⟩:=ho;have:=wE ih (d::cs) ks (k+(aY P h c k).2.length) (some k0) hi h4;exact ⟨h1,h2,ih c k _ _ h3,this⟩
theorem qK{P:Nat→Nat}:∀ (h:Nat) (t:Nd h) (k:Nat) (lo hi:Option ByteArray),Ok h t lo hi→Ok h (aY P h t k).1 lo hi
 | 0,t,k,lo,hi,ho=>by
  by_cases h0:t.1=0
  ·simp only [aY,h0,if_true];exact ho
  ·simp only [aY,h0,if_false];exact ho
 | h+1,t,k,lo,hi,ho=>by
  by_cases h0:t.1=0
  ·simp only [aY,h0,if_true];exact wE (fun t k lo hi hf=>⟨qK h t k lo hi hf.1,by unfold Full;rw [Ca];exact hf.2⟩) t.2.2 t.2.1 k lo hi ho
  ·simp only [aY,h0,if_false];exact ho
theorem AW{h:Nat}{P:Nat→Nat}(ih:∀ (t:Nd h) (k:Nat),(cD h (aY P h t k).1).Perm (cD h t++(aY P h t k).2.map (·.1))):∀ (cs:List (Nd h)) (k:Nat),((cd (aY P h) cs k).1.flatMap (cD h)).Perm (cs.flatMap (cD h)++(cd (aY P h) cs k).2.map (·.1))
 | [],_=>List.Perm.refl _
 | c::cs,k=>by
  show (cD h (aY P h c k).1++(cd (aY P h) cs (k+(aY P h c k).2.length)).1.flatMap (cD h)).Perm ((cD h c++cs.flatMap (cD h))++((aY P h c k).2++(cd (aY P h) cs (k+(aY P h c k).2.length)).2).map (·.1))
  rw [bz];refine ((ih c k).append (AW ih cs _)).trans ?_
  rw [ay,ay];refine List.Perm.append_left _ ?_
  rw [← ay,← ay];exact List.Perm.append_right _ List.perm_append_comm
theorem Et{P:Nat→Nat}(hP:∀ j,P j≠0):∀ (h:Nat) (t:Nd h) (k:Nat),(cD h (aY P h t k).1).Perm (cD h t++(aY P h t k).2.map (·.1))
 | 0,t,k=>by
  by_cases h0:t.1=0
  ·simp only [aY,h0,if_true,cD,cU,hP,if_false];exact List.Perm.refl _
  ·simp only [aY,h0,if_false,List.map_nil,List.append_nil];exact List.Perm.refl _
 | h+1,t,k=>by
  by_cases h0:t.1=0
  ·have:=AW (Et hP h) t.2.2 k;simp only [aY,h0,if_true,cD,cU,hP,if_false,List.nil_append,bz,List.map_cons,List.map_nil];rw [← ay];exact (List.perm_append_comm).trans (List.Perm.append_right _ this)
  ·simp only [aY,h0,if_false,List.map_nil,List.append_nil];exact List.Perm.refl _
theorem Eu(hP:∀ j,P j≠0)(h:Nat)(t:Nd h)(k:Nat):fh h (aY P h t k).1≠0:=by
 cases h with
 | zero =>
  by_cases h0:t.1=0
  ·simp only [aY,h0,if_true];exact hP _
  ·simp only [aY,h0,if_false];exact h0
 | succ h =>
  by_cases h0:t.1=0
  ·simp only [aY,h0,if_true];exact hP _
  ·simp only [aY,h0,if_false];exact h0
theorem yN{t:Nd h}(hp:fh h t≠0):jh h t=0:=by
 cases h with
 | zero=>exact if_neg hp
 | succ h=>exact if_neg hp
theorem Ja{d:S.V.bE}{key:ByteArray}{w:World}{l:List Pr}:∀ {ss:List (gF XT)} {x y:XT},Way (dh d) (fun n q=>B.fK n.lk key q) w x ss y→Go.Proofs.YtihmgigfkmofnaaGreatDoor.Way key y.1 y.2 l→Go.Proofs.YtihmgigfkmofnaaGreatDoor.Way key x.1 x.2 l
 | [],_,_,h,hw=>by
  have h:_=_:=h;subst h;exact hw
 | s::ss,x,y,⟨h1,h2,h3,h4,h5,z,h6,h7⟩,hw=>by
  have ih:=Ja h7 hw;subst h1;obtain ⟨b,n,i,⟨hh,t⟩⟩:=s;cases hh with
  | zero=>exact h6.elim
  | succ h =>
   obtain ⟨c,hc,rfl⟩:=h6;obtain ⟨_,hn,hg⟩:=h2;have hn:aW (cF d) w (h+1) n t:=hn;have hc:t.2.2[i]?=some c:=hc;have jg:t.2.1=n.lk.map (·.1):=hn.2.2.2.1;have ry:t.2.2.length=t.2.1.length+1:=by rw [← hn.1,hn.len,jg,az]
   obtain ⟨lo,hi,ho⟩:=hg.1;have oO:=jM ((eS h t lo hi).1 ho);rw [jg] at oO;obtain ⟨SB,SA⟩:=ng h4 oO;simp only at SB SA;rw [← jg] at SB SA;obtain ⟨e1,e2,el,ei⟩:=ml ry hc;exact ⟨_,_,_,c,_,e1,e2,el,SB,SA,ih⟩
def U8(d:S.V.bE)(key:ByteArray)(r:cT)(bs:Nat)(e:Ending)(w':World):Prop :=
 (r=none∧e = .returned (.tuple #[.slice none 0 0,.nilIface])) ∨
 ∃ (x:XT) (ss:List (gF XT)) (s:gF XT) (a:Option Addr) (c:Nat) (pv lv cv:Value) (t0:Nd 0),r=some x∧e = .returned (.tuple #[.slice a (ss.length+1) c,.nilIface])∧uF w' bs (.slice a (ss.length+1) c) (ss.map gF.lk++[s.lk])∧Way (dh d) (fun n q=>B.fK n.lk key q) w' x ss ⟨0,t0⟩∧dP w' s.b s.n pv lv cv∧s.n.ps=t0.2∧fB t0.2≤4072∧ss.length≤63∧Go.Proofs.YtihmgigfkmofnaaGreatDoor.Way key x.1 x.2 t0.2
theorem U8.of{A:Nat→Addr}{d:S.V.bE}{key:ByteArray}{x:XT}{bs:Nat}{e:Ending}{w':World}(h:nN (dh d) (fun n q=>B.fK n.lk key q) A [] x bs e w'):U8 d key (some x) bs e w':=by
 rcases h with ⟨hE,_⟩ | ⟨ss,s,a,c,he,ho,hw,⟨⟨pv,lv,cv,hs⟩,hn⟩,h0,sB,hl⟩
 ·exact (hE:False).elim
 ·simp only [List.length_nil,Nat.zero_add,List.nil_append] at he ho hl;obtain ⟨hn,hg⟩:=hn;obtain ⟨b,n,i,⟨hh,t⟩⟩:=s;cases hh with
  | zero=>exact .inr ⟨x,ss,⟨b,n,i,⟨0,t⟩⟩,a,c,pv,lv,cv,t,rfl,he,ho,hw,hs,hn.2,hg.2,hl,Ja hw rfl⟩
  | succ h=>exact absurd (List.length_eq_zero_iff.1 h0) hn.2.1
section
variable {base:Nat} {A:Nat→Addr} {db:Nat} {F:Nat→Prop} {d:S.V.bE} {W0:World} {r:cT}
theorem oh{w w1:World}{tb:Nat}(key:ByteArray)(hc:Ts base A db F d W0 w tb r)(hn:(aD r).length≤4611686018427387904)(hb:Below w.heap.size w w1):Calls prog 46 #[.pointer (some ⟨tb,0,none⟩),.string key] w1 fun e w'=>U8 d key r w.heap.size e w'∧Dv base A db F d w'∧Mv db F w w':=by
 obtain ⟨rv,ht,hr⟩:=hc.tr;have hv:=hc.dv.below hb;have hm:Mv db F w w1:=Mv.of hb;rcases hr with ⟨rfl,rfl⟩ | ⟨p,h,t,rfl,rfl,hk⟩
 ·refine (wZ tb _ key w1 (ht.below hb)).mono fun e w' ⟨he,hb⟩=>⟨.inl ⟨rfl,he⟩,hv.below hb,hm.trans (Mv.of hb)⟩
 ·refine (wY (dh d) p ⟨h,t⟩ tb key w w1 ⟨hk.cN (df.of hb),jK hc.ok⟩ (ht.below hb) hv hm hc.dv (.inr (lh hc.ok hn))).mono fun e w' ⟨h1,h2,h3⟩=>⟨U8.of h1,h2,h3⟩
theorem Lj{w:World}{tb:Nat}(key value:ByteArray)(hc:Ts base A db F d W0 w tb r)(hn:(aD r).length≤4611686018427387904)(cZ:key.size≤140737488355328)(Cg:value.size≤140737488355328):Calls prog 15 #[.pointer (some ⟨tb,0,none⟩),.string key,.string value] w fun e w'=>(cQ (key,value)=true∧e = .returned .nilIface∧∃ r',uE key (fun l=>fx l key value) r r'∧Ts base A db F d W0 w' tb r')∨(¬ cQ (key,value)=true∧e = .returned (.iface 360 (.pointer (some (A 0))))∧Ts base A db F d W0 w' tb r):=by
 have BG:=ab (qH A key value w cZ Cg hc.dv.uq);have HC:=ab hc;have HN:=ab hn;clear hc hn;by_cases hm:cQ (key,value)=true
 ·rw [if_pos hm] at BG;have hmp:=dY hm;have HM:=ab hm;clear cZ Cg hm;go_enter func15,ntmps15;go_wp2_with fail;refine BG.out.mono ?_
  rintro e w1 ⟨rfl,aO⟩;have R9:=ab (oh key HC.out HN.out aO);clear aO BG;go_wp2_with fail;refine R9.out.mono ?_
  rintro e w2 ⟨Hv,je,jD⟩;have uJ:=ab je;have vX:=ab jD;have FW:=ab (HC.out.mv jD je);obtain ⟨rv,ht,Xx⟩:=FW.out.tr;have BD:=ab ht;have HRF:=ab Xx;rcases Hv with ⟨VN,rfl⟩ | ⟨x,ss,s,a,c,pv,lv,cv,t0,Xw,rfl,ho,jr,hs,kt,b8,hl,-⟩
  ·subst VN;have zV:rv = .nilIface:=by
    rcases HRF.out with ⟨h,_⟩ | ⟨_,_,_,_,h,_⟩
    ·exact h
    ·cases h
   subst zV;clear je jD R9 ht Xx;go_wp2_with fail;refine (gW w2).mono ?_
   rintro e w2' ⟨rfl,rfl⟩;go_wp2_with fail;refine (nc key w2 (by omega)).mono ?_
   rintro e w3 ⟨rfl,bW⟩;have eH:=ab bW;clear bW;go_wp2_with fail;refine (nc value w3 (by omega)).mono ?_
   rintro e w4 ⟨rfl,fS⟩;have iY:=ab (Below.next eH.out fS);clear fS;go_wp2_with fail;refine (Ej (.slice none 0 0) [] key value w4 (by simp) (gM.nil _)).mono ?_
   rintro e w5 ⟨u,rfl,hu,my⟩;have jd:=ab (Below.next iY.out my);have wT:=ab (Cx key (fun l=>fx l key value) (wJ HM.out) HC.out (vX.out.trans (Mv.of jd.out)) (uJ.out.below jd.out) (BD.out.below jd.out) hu.at)
   obtain ⟨ua,uc,Ua⟩:=hu.form;subst Ua;clear hu my;go_wp2_with fail;refine wT.out.mono ?_
   rintro e w6 ⟨rfl,htc⟩;have CX:=ab htc;clear htc wT;go_wp2;go_ret;exact .inl ⟨HM.out,rfl,CX.out⟩
  ·subst Xw;have BH:Hid (rv = .nilIface∨∃ t x,rv = .iface t x):=HRF.out.form;have HO:=ab ho;have HW:=ab jr;have tg:=ab kt;have jc:=ab b8;have HL:=ab hl;have wQ:=ab (jk a ss.length c (ss.map gF.lk) s.lk s.n pv lv cv w2 (by rw [az]) (by omega) ho.1.at hs)
   have FY:=ab hs.iH;have HPM:=ab hs.fine.1;obtain ⟨m,A9⟩ : ∃ m,m=ss.length:=⟨_,rfl⟩;have Gm:=ab A9;rw [← A9] at wQ HO HL ⊢;obtain ⟨xa,xc,wG⟩:=hs.iH.form;subst wG;clear ho jr hs kt b8 hl je jD R9 A9 ht Xx;go_wp2_with fail;refine wQ.out.mono ?_
   rintro e w2' ⟨rfl,rfl⟩;go_wp2_with fail;refine (nc key w2 (by omega)).mono ?_
   rintro e w3 ⟨rfl,bW⟩;have eH:=ab bW;clear bW;go_wp2_with fail;refine (nc value w3 (by omega)).mono ?_
   rintro e w4 ⟨rfl,fS⟩;have iY:=ab (Below.next eH.out fS);clear fS;go_wp2_with fail;refine (Ej _ s.n.ps key value w4 (by have:=gT s.n.ps;have:=jc.out;rw [← tg.out] at this;omega) (FY.out.below iY.out)).mono ?_
   rintro e w5 ⟨u,rfl,hu,my⟩;have jd:=ab (Below.next iY.out my);have vi:=sK (s:=s) (t0:=t0) key (fun l=>fx l key value) (wJ HM.out) HC.out (vX.out.trans (Mv.of jd.out)) (uJ.out.below jd.out) (BD.out.below jd.out) BH.out (by have:=HL.out;have:=Gm.out;omega) (by rw [← Gm.out];exact HO.out.below jd.out) (HW.out.cN (df.of jd.out)) jc.out (by rw [← tg.out];exact HPM.out) (by rw [← tg.out];exact hu.at)
   rw [← Gm.out] at vi;have wT:=ab vi;obtain ⟨ua,uc,Ua⟩:=hu.form;subst Ua;clear hu my vi;go_wp2_with fail;refine wT.out.mono ?_
   rintro e w6 ⟨rfl,htc⟩;have CX:=ab htc;clear htc wT;go_wp2;go_ret;exact .inl ⟨HM.out,rfl,CX.out⟩
 ·rw [if_neg hm] at BG;have HM:=ab hm;clear cZ Cg hm;go_enter func15,ntmps15;go_wp2_with fail;refine BG.out.mono ?_
  rintro e w1 ⟨rfl,aO⟩;have CX:=ab (HC.out.below aO);clear aO BG;go_wp2;go_ret;exact .inr ⟨HM.out,rfl,CX.out⟩
end
end T
end Go.Proofs.YtihmgigfkmofnaaGreatDoor
