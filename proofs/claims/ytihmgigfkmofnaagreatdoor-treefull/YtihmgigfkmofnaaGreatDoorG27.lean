import Derived.Test.YtihmgigfkmofnaaGreatDoorG24
import Derived.Test.YtihmgigfkmofnaaGreatDoorG26
set_option maxHeartbeats 4000000
set_option maxRecDepth 100000
open Go.Proofs.Tryz
namespace Go.Proofs.YtihmgigfkmofnaaGreatDoor
namespace T
open Go.RowKit
theorem uL(p:Option Addr)(w:World):(binOp .eql 32 (.iface 360 (.pointer p)) .nilIface).run prog w = .ok (.bool false) w:=by
 have h2:∀ d:Nat,(Op.equalIn (d+1) 32 (.iface 360 (.pointer p)) .nilIface).run prog w = .ok false w:=fun d=>by
  simp [Op.equalIn,run_underlying underlying32]
 simp only [binOp];simp [Op.equal,Op.maxDepth,h2 9999]
theorem vJ(A:Nat→Addr)(w:World)(h:dy 13 eV A w):Calls prog 14 #[.iface 360 (.pointer (some (A 0)))] w fun e w'=>e = .returned (.int .i64 1)∧w=w':=by
 have c0:w.cell? ⟨0,0,none⟩=some (.iface 360 (.pointer (some (A 0)))):=(h.1 0 (by decide)).1
 have e0:=JA A 0;have hn:=fun W=>uL (some (A 0)) W
 clear h;go_enter func14,ntmps14;go_wp2;go_ret;exact ⟨rfl,rfl⟩
theorem aU.cH{PG:Int→Option PD}{w w':World}(ha:cW w w'):∀ (h:Nat) {n:SN} {t:Nd h},aU PG w h n t→aU PG w' h n t
 | 0,_,_,hn=>hn
 | h+1,n,t,hn=>⟨hn.1,hn.2.1,hn.2.2.1,hn.2.2.2.1,fun i p c h1 h2=>by
  have:=hn.2.2.2.2 i p c h1 h2;cases p with
  | pg id=>exact this
  | nd b =>
   obtain ⟨h0,m,pv,lv,cv,hs,hm⟩:=this;exact ⟨h0,m,pv,lv,cv,hs.cH ha,aU.cH ha h hm⟩⟩
theorem ew.cH{PG:Int→Option PD}{w w':World}{h:Nat}{p:C.Ch}{t:Nd h}(hk:ew PG w h p t)(ha:cW w w'):ew PG w' h p t:=by
 cases p with
 | pg id=>exact hk
 | nd b =>
  obtain ⟨h0,m,pv,lv,cv,hs,hm⟩:=hk;exact ⟨h0,m,pv,lv,cv,hs.cH ha,hm.cH ha h⟩
abbrev XT:=(h:Nat) × Nd h
theorem kN{α:Type}{P:α→Option ByteArray→Option ByteArray→Prop}:∀ {lo hi:Option ByteArray} {ks:List ByteArray} {cs:List α},gY P lo hi ks cs→∀ (i:Nat) (c:α),cs[i]?=some c→∃ pJ mz,P c pJ mz
 | _,_,[],[],h,_,_,_=>by simp [gY] at h
 | lo,hi,[],[c'],h,i,c,hc=>by
  cases i with
  | zero=>cases hc;exact ⟨lo,hi,h⟩
  | succ i=>simp at hc
 | _,_,[],_::_::_,h,_,_,_=>by simp [gY] at h
 | _,_,_::_,[],h,_,_,_=>by simp [gY] at h
 | lo,_,k::ks,c'::cs,h,i,c,hc=>by
  cases i with
  | zero=>cases hc;exact ⟨lo,some k,h.2.2.1⟩
  | succ i=>exact kN h.2.2.2 i c hc
def jF:XT→Prop
 | ⟨0,t⟩=>(∃ lo hi,Ok 0 t lo hi)∧nI 0 t≤4072
 | ⟨h+1,t⟩=>(∃ lo hi,Ok (h+1) t lo hi)∧nI (h+1) t≤4072∧1≤t.2.1.length
def YJ:XT→Nat→XT→Prop
 | ⟨0,_⟩,_,_=>False
 | ⟨h+1,t⟩,i,y=>∃ c:Nd h,t.2.2[i]?=some c∧y=⟨h,c⟩
theorem LB{h:Nat}{c:Nd h}{lo hi:Option ByteArray}(ho:kW h c lo hi):jF ⟨h,c⟩:=by
 cases h with
 | zero=>exact ⟨⟨lo,hi,ho.1⟩,ho.2.2⟩
 | succ h =>
  refine ⟨⟨lo,hi,ho.1⟩,ho.2.2,?_⟩;have h1:1777≤fE c.2.1:=ho.2.1;cases hk:c.2.1 with
  | nil=>rw [hk] at h1;have:fE []=6:=rfl;omega
  | cons _ _=>simp
theorem mB{h:Nat}{t:Nd (h+1)}{i:Nat}{c:Nd h}(hg:jF ⟨h+1,t⟩)(hc:t.2.2[i]?=some c):jF ⟨h,c⟩:=by
 obtain ⟨⟨lo,hi,ho⟩,_⟩:=hg;obtain ⟨pJ,mz,hf⟩:=kN ((fA h t lo hi).1 ho) i c hc;exact LB hf
theorem lh{PG:Int→Option PD}{w:World}{n:SN}{x:XT}(hn:aU PG w x.1 n x.2)(hg:jF x):Fit n:=by
 obtain ⟨h,t⟩:=x;have b8:=hn.sz;cases h with
 | zero =>
  refine ⟨.inl (by rw [hn.1];rfl),?_,.inl (by rw [hn.1];rfl)⟩
  have hz:n.sz=nI 0 t:=b8;have:nI 0 t≤4072:=hg.2;omega
 | succ h =>
  refine ⟨hn.2.2.1,?_,.inr ?_⟩
  ·have hz:n.sz=nI (h+1) t:=b8;have:nI (h+1) t≤4072:=hg.2.1;omega
  ·have h1:1≤t.2.1.length:=hg.2.2;have h2:t.2.1=n.lk.map (·.1):=hn.2.2.2.1;rw [h2,az] at h1;exact h1
theorem I2{PG:Int→Option PD}{id:Int}{x:XT}(hp:gE PG x.1 id x.2):∃ p,PG id=some p∧∀ w,aU PG w x.1 p.sn x.2:=by
 obtain ⟨h,t⟩:=x;cases h with
 | zero =>
  obtain ⟨_,_,AP⟩:=hp;exact ⟨_,AP,fun w=>⟨rfl,rfl⟩⟩
 | succ h =>
  obtain ⟨_,_,f,lk,AP,jo,hlen,uA⟩:=hp;refine ⟨_,AP,fun w=>⟨by show (BB f lk).length=t.2.2.length;rw [vG,hlen],by simp [PD.sn,BB],.inr (by show (BB f lk).length=lk.length+1;rw [vG]),jo,fun i p c h1 h2=>?_⟩⟩
  obtain ⟨x,sw,rfl⟩:=IS f lk i p h1;exact uA i c x h2 sw
def cX(d:S.V.bw):Sys d XT where
 K:=fun w p x=>ew (cM d) w x.1 p x.2∧jF x
 N:=fun w n x=>aU (cM d) w x.1 n x.2∧jF x
 E:=False
 sub:=YJ
 rk:=fun x=>x.1
 ka:=fun ha h=>⟨h.1.cH ha,h.2⟩
 na:=fun ha h=>⟨h.1.cH ha _,h.2⟩
 qT:=fun {w n x i p} hn hp=>by
  obtain ⟨h,t⟩:=x;obtain ⟨hn,hg⟩:=hn;cases h with
  | zero =>
   have:n.us=[]:=hn.1;rw [this] at hp;simp at hp
  | succ h =>
   have hi:=(List.getElem?_eq_some_iff.1 hp).1;have hl:n.us.length=t.2.2.length:=hn.1;have hc:t.2.2[i]?=some (t.2.2[i]'(by omega)):=af (by omega)
   exact ⟨⟨h,t.2.2[i]'(by omega)⟩,⟨_,hc,rfl⟩,hn.qT hp hc,mB hg hc⟩
 fit:=fun h=>lh h.1 h.2
 ia:=fun h=>by
  obtain ⟨p,h1,h2⟩:=I2 h.1;exact .inr ⟨p,h1,fun w'=>⟨h2 w',h.2⟩⟩
 node:=fun h=>by
  obtain ⟨⟨_,m,pv,lv,cv,hs,hm⟩,hg⟩:=h;exact ⟨m,pv,lv,cv,hs,hm,hg⟩
 YQ:=.inr fun x i y hs=>by
  obtain ⟨h,t⟩:=x;cases h with
  | zero=>exact hs.elim
  | succ h =>
   obtain ⟨c,_,rfl⟩:=hs;exact aj _
theorem Av{α:Type}{P:α→Option ByteArray→Option ByteArray→Prop}:∀ {lo hi:Option ByteArray} {ks:List ByteArray} {cs:List α},gY P lo hi ks cs→∀ k ∈ ks,gtB lo k
 | _,_,[],_,_,k,hk=>by simp at hk
 | _,_,_::_,[],h,_,_=>by simp [gY] at h
 | lo,_,k1::ks,c::cs,h,k,hk=>by
  rcases List.mem_cons.1 hk with rfl | hk
  ·exact h.1.1
  ·intro l hl;exact dh (h.1.1 l hl) (Av h.2.2.2 k hk k1 rfl)
theorem jK{α:Type}{P:α→Option ByteArray→Option ByteArray→Prop}:∀ {lo hi:Option ByteArray} {ks:List ByteArray} {cs:List α},gY P lo hi ks cs→ks.Pairwise fun a b=>cQ a b=true
 | _,_,[],_,_=>List.Pairwise.nil
 | _,_,_::_,[],h=>by simp [gY] at h
 | _,_,k1::ks,_::_,h=>List.Pairwise.cons (fun k hk=>Av h.2.2.2 k hk k1 rfl) (jK h.2.2.2)
theorem nj{lk:List B.Lk}{key:ByteArray}{q:Nat}(hp:B.fL lk key q)(hs:(lk.map (·.1)).Pairwise fun a b=>cQ a b=true):(∀ k ∈ (lk.map (·.1)).take q,cQ key k=false)∧∀ k,((lk.map (·.1)).drop q).head?=some k→cQ key k=true:=by
 refine ⟨fun k hk=>?_,fun k hk=>?_⟩
 ·obtain ⟨i,hi,rfl⟩:=aO hk;rw [ag,az] at hi;rw [bF];obtain ⟨j,rfl⟩ : ∃ j,q=j+1:=⟨q - 1,by omega⟩
  have hj:j<lk.length:=by have:=hp.1;omega
  have hle:=hp.2.2 j hj rfl;have h1:cQ key lk[j].1=false:=by
   unfold B.DX at hle;rw [Bool.or_eq_true] at hle;rcases hle with h | h
   ·exact mw h
   ·rw [oP] at h;rw [of_decide_eq_true h];exact nk key
  rcases a8 i j with TH | TH
  ·have h2:=List.pairwise_iff_getElem.1 hs i j (by rw [az];omega) (by rw [az];omega) TH
   rw [bT,bT] at h2;rw [bT];cases h:cQ key lk[i].1
   ·rfl
   ·rw [dh h h2] at h1;cases h1
  ·have e:i=j:=by omega
   subst e;rw [bT];exact h1
 ·rw [List.head?_drop] at hk;obtain ⟨hq,hv⟩:=List.getElem?_eq_some_iff.1 hk;rw [az] at hq;rw [bT] at hv;have hle:=hp.2.1 q hq (aj _);unfold B.DX at hle;rw [Bool.or_eq_false_iff] at hle;rw [← hv];cases h:cQ key lk[q].1
  ·have:=mu (a:=key) (b:=lk[q].1) h hle.1;rw [oP] at hle;have:=of_decide_eq_false hle.2;exact absurd (by assumption:key=lk[q].1).symm this
  ·rfl
theorem ml{α:Type}{ks:List ByteArray}{cs:List α}{q:Nat}{c:α}(hl:cs.length=ks.length+1)(hc:cs[q]?=some c):ks=ks.take q++ks.drop q∧cs=cs.take q++c::cs.drop (q+1)∧(ks.take q).length=(cs.take q).length∧(cs.take q).length=q:=by
 obtain ⟨hq,hv⟩:=List.getElem?_eq_some_iff.1 hc;refine ⟨(aH q ks).symm,?_,?_,?_⟩
 ·rw [← hv,← a7 hq,aH]
 ·rw [ag,ag];omega
 ·rw [ag];omega
def FlS(d:S.V.bw)(key:ByteArray)(f:List Pr→List Pr)(w:World)(n:SN)(x:XT):Prop:=∃ t',aU (cM d) w x.1 n t'∧Yg key f x.1 x.2 t'∧fy x.1 t'=0
theorem aU.zo{PG:Int→Option PD}{w:World}{h:Nat}{n:SN}{t:Nd h}(hn:aU PG w h n t):n.zo:=by
 cases h with
 | zero=>exact .inl (by rw [hn.1];rfl)
 | succ h=>exact hn.2.2.1
theorem aU.kind{PG:Int→Option PD}{w w':World}{h:Nat}{n m:SN}{t u:Nd h}(hn:aU PG w h n t)(hm:aU PG w' h m u):n.us.length=0↔m.us.length=0:=by
 cases h with
 | zero=>rw [hn.1,hm.1]
 | succ h=>exact ⟨fun e=>absurd (List.length_eq_zero_iff.1 e) hn.2.1,fun e=>absurd (List.length_eq_zero_iff.1 e) hm.2.1⟩
theorem Xf{d:S.V.bw}{key:ByteArray}{f:List Pr→List Pr}(W:World)(n:SN)(x:XT)(h:FlS d key f W n x):n.zo:=by
 obtain ⟨t',h1,_⟩:=h;exact h1.zo
theorem pE{PG:Int→Option PD}{w W:World}{h b:Nat}{n:SN}{t:Nd h}{pv lv cv:Value}(hn:aU PG w h n t)(hs:dQ W b n pv lv cv):h=0∨3≤n.lk.length∨¬ 4072<n.sz:=by
 cases h with
 | zero=>exact .inl rfl
 | succ h =>
  right
  by_cases hb:4072<n.sz
  ·left
   rw [SN.UM (fun e=>hn.2.1 (List.length_eq_zero_iff.1 e)),← wL] at hb
   have hm:=C0 (l:=n.lk.map (·.1)) (fun k hk=>by
    obtain ⟨p,hp,rfl⟩:=List.mem_map.1 hk;exact hs.fine.2.2.1 p hp)
   rw [az] at hm;omega
  ·exact .inr hb
theorem IU{h:Nat}(a b:Nd h)(k:ByteArray):fy h (jj h a k b)=0:=by cases h <;> rfl
theorem Ab{PG:Int→Option PD}{w:World}{h:Nat}{n:SN}{t:Nd h}(hn:aU PG w h n t):n.sz<n.min↔small h t:=by unfold small;rw [hn.sz,hn.min]
theorem Bp{base:Nat}{A:Nat→Addr}{db:Nat}{F:Nat→Prop}{d:S.V.bw}(key:ByteArray)(f:List Pr→List Pr)(tb:Nat)(rv:Value)(W:World)(s:gD XT)(z:XT)(bb:Nat)(nb:SN)(pb lb cb:Value)(hv:Dv base A db F d W)(ht:B.au W tb #[.pointer (some ⟨db,0,none⟩),rv] 100)(cO:RW (cX d) W s)(yf:¬ s.n.us.length=0)(Co:B.fL s.n.lk key s.at')(bK:s.at'<s.n.us.length)(oD:(cX d).sub s.x s.at' z)(hs:dQ W bb nb pb lb cb)(gU:FlS d key f W nb z):Calls prog 82 #[.pointer (some ⟨tb,0,none⟩),.agg #[.pointer (some ⟨s.b,0,none⟩),.int .i64 (s.at':Int)],.pointer (some ⟨bb,0,none⟩)] W fun e w'=>UpS (cX d) A (FlS d key f) s.x e w'∧Dv base A db F d w'∧Mv db F W w':=by
 obtain ⟨⟨pv,lv,cv,Tn⟩,hn⟩:=cO;obtain ⟨b,n,i,⟨hh,t⟩⟩:=s;cases hh with
 | zero=>exact oD.elim
 | succ h =>
 obtain ⟨c,hc,rfl⟩:=oD;obtain ⟨hn,hg⟩:=hn;have hn:aU (cM d) W (h+1) n t:=hn;have hc:t.2.2[i]?=some c:=hc;obtain ⟨c',rP,UX,AP⟩:=gU;have rP:aU (cM d) W h nb c':=rP;have UX:Yg key f h c c':=UX;have AP:fy h c'=0:=AP;simp only at Tn yf Co bK ⊢;have eM:=lh (x:=⟨h+1,t⟩) hn hg;have hlen:=hn.len;have b8:=eM.2.1;rw [SN.UM yf] at b8;have h1:=eM.2.2.resolve_left yf;have U5:=B.q9 n.lk;have jo:t.2.1=n.lk.map (·.1):=hn.2.2.2.1;have de:t.2.1.length=n.lk.length:=by rw [jo,az]
 have pP:t.2.2.length=t.2.1.length+1:=by rw [← hn.1,hlen,de]
 obtain ⟨lo,hi,ho⟩:=hg.1;have oE:=jK ((fA h t lo hi).1 ho);rw [jo] at oE;obtain ⟨RJ,RI⟩:=nj Co oE;rw [← jo] at RJ RI;obtain ⟨e1,e2,el,ei⟩:=ml pP hc;have gT:=rP.zo;-- what is to be shown of a node that H9 makes
 have PE:∀ (w':World) (b':Nat) (n':SN) (p' l' c2:Value) (ks:List ByteArray) (cs:List (Nd h)),dQ w' b' n' p' l' c2→aU (cM d) w' (h+1) n' (0,ks,cs)→Cf h (t.2.1.take i) (t.2.1.drop i) (t.2.2.take i) c' (t.2.2.drop (i+1)) ks cs→UpS (cX d) A (FlS d key f) ⟨h+1,t⟩ (.returned (.tuple #[.pointer (some ⟨b',0,none⟩),.nilIface])) w':=by
  intro w' b' n' p' l' c2 ks cs g1 g2 g3;exact .inr ⟨b',n',p',l',c2,rfl,g1,(0,ks,cs),g2,⟨_,_,_,c,_,e1,e2,el,RJ,RI,c',ks,cs,UX,g3,rfl⟩,rfl⟩
 by_cases zv:nb.sz<nb.min
 ·have Pz:=(Ab rP).1 zv;cases i with
  | zero =>
   obtain ⟨y,hy⟩ : ∃ y,t.2.2[1]?=some y:=⟨_,af (by omega)⟩
   obtain ⟨p,hp⟩ : ∃ p,n.us[1]?=some p:=⟨_,af (by omega)⟩
   refine (Db (cX d) tb rv b bb n nb pv lv cv pb lb cb ⟨h,y⟩ p W Tn hs bK hlen (by omega) (by omega) gT zv hp ⟨hn.qT hp hy,mB hg hy⟩ ht hv (.inr fun W' m hm=>(aU.kind (t:=y) (u:=c') hm.1 rP))).mono fun e w' hh=>⟨?_,hh.2⟩
   obtain ⟨hj,Tk,hm'⟩:=hh;rcases hj with ⟨hE,_⟩ | ⟨b',w2,m,k,zz,bj,pj,lj,cj,rfl,kO,my,lX,p8,Zq,zq⟩
   ·exact hE.elim
   ·have aw:=kO.cH hv;have lX:aU (cM d) w2 h m y:=lX.1;have G7:=aU.cH aw (h+1) hn;have PN:=aU.cH aw h rP;have ek:t.2.1=k::t.2.1.drop 1:=by
     have hx:t.2.1[0]?=some k:=by rw [jo,aL,my];rfl
     obtain ⟨sw,vQ⟩:=List.getElem?_eq_some_iff.1 hx;have:=a7 sw;rw [vQ,List.drop_zero] at this;exact this
    have ec:t.2.2=c::y::t.2.2.drop 2:=by
     obtain ⟨sw,vQ⟩:=List.getElem?_eq_some_iff.1 hc;obtain ⟨XU,XS⟩:=List.getElem?_eq_some_iff.1 hy;have a1:=a7 sw;have a2:=a7 XU;rw [vQ,List.drop_zero] at a1;rw [XS] at a2;rw [← a2];exact a1
    have zy:=aU.set (C1:=[]) (C2:=y::t.2.2.drop 2) (c:=c) (x:=c') (p:=.nd bb) G7 ec ⟨AP,nb,pb,lb,cb,hs.cH aw,PN⟩ [] n.f;have Tp:=aU.rem (K1:=[]) (K2:=t.2.1.drop 1) (C1:=[]) (C2:=t.2.2.drop 2) (a:=c') (b:=y) (k:=k) zy ek rfl rfl [] n.f;have hjn:=AI (key:=k) PN lX;obtain ⟨b2,n2,p2,l2,c2,ks,cs,he,g1,g2,g3,_⟩:=sO (K1:=[]) (K2:=t.2.1.drop 1) (C1:=[]) (C2:=t.2.2.drop 2) (c:=c') (x:=jj h c' k y) Tp rfl rfl rfl hjn Zq (IU _ _ _) (pE hjn Zq) zq;cases he;refine PE w' b' n2 p2 l2 c2 ks cs g1 g2 (.inr (.inl ⟨Pz,rfl,rfl,k,_,y,_,ek,?_,g3⟩));have:=congrArg (List.drop 1) ec;exact this
  | succ j =>
   obtain ⟨y,hy⟩ : ∃ y,t.2.2[j]?=some y:=⟨_,af (by omega)⟩
   obtain ⟨p,hp⟩ : ∃ p,n.us[j]?=some p:=⟨_,af (by omega)⟩
   have AW:=Dc (cX d) tb rv b bb n nb pv lv cv pb lb cb j ⟨h,y⟩ p W Tn hs bK hlen (by omega) (by omega) gT zv hp ⟨hn.qT hp hy,mB hg hy⟩ ht hv (.inr fun W' m hm=>(aU.kind (t:=y) (u:=c') hm.1 rP))
   rw [show ((j+1:Nat):Int)=(j:Int)+1 by omega]
   refine AW.mono fun e w' hh=>⟨?_,hh.2⟩
   obtain ⟨hj,Tk,hm'⟩:=hh;rcases hj with ⟨hE,_⟩ | ⟨b',w2,m,k,zz,bj,pj,lj,cj,rfl,kO,my,lX,p8,Zq,zq⟩
   ·exact hE.elim
   ·have aw:=kO.cH hv;have lX:aU (cM d) w2 h m y:=lX.1;have G7:=aU.cH aw (h+1) hn;have PN:=aU.cH aw h rP;have hx:t.2.1[j]?=some k:=by rw [jo,aL,my];rfl
    have ek1:t.2.1.take (j+1)=t.2.1.take j++[k]:=by rw [gw,hx];rfl
    have ec1:t.2.2.take (j+1)=t.2.2.take j++[y]:=by rw [gw,hy];rfl
    have ek:t.2.1=t.2.1.take j++k::t.2.1.drop (j+1):=by
     have:=e1;rw [ek1,ay] at this;exact this
    have lj1:(t.2.1.take j).length=(t.2.2.take j).length:=by rw [ag,ag];omega
    have lj2:(t.2.2.take j).length=j:=by rw [ag];omega
    have zy:=aU.set (C1:=t.2.2.take (j+1)) (C2:=t.2.2.drop (j+1+1)) (c:=c) (x:=c') (p:=.nd bb) G7 e2 ⟨AP,nb,pb,lb,cb,hs.cH aw,PN⟩ [] n.f;rw [ei] at zy;have Tp:=aU.rem (K1:=t.2.1.take j) (K2:=t.2.1.drop (j+1)) (C1:=t.2.2.take j) (C2:=t.2.2.drop (j+1+1)) (a:=y) (b:=c') (k:=k) zy ek (by show t.2.2.take (j+1)++c'::_=_;rw [ec1,ay];rfl) lj1 [] n.f
    rw [lj2] at Tp;have hjn:=AI (key:=k) lX PN;have Wj:mJ w2 ⟨[],n.f,B.cA n.lk j,C.cA (n.us.set (j+1) (.nd bb)) (j+1)⟩ (t.2.2.take j).length bj (m.join k nb) (.returned (.pointer (some ⟨b',0,none⟩))) w':=by rw [lj2];exact zq
    obtain ⟨b2,n2,p2,l2,c2,ks,cs,he,g1,g2,g3,_⟩:=sO (K1:=t.2.1.take j) (K2:=t.2.1.drop (j+1)) (C1:=t.2.2.take j) (C2:=t.2.2.drop (j+1+1)) (c:=y) (x:=jj h y k c') Tp rfl rfl lj1 hjn Zq (IU _ _ _) (pE hjn Zq) Wj;cases he;exact PE w' b' n2 p2 l2 c2 ks cs g1 g2 (.inr (.inr ⟨Pz,_,k,_,y,ek1,ec1,g3⟩))
 ·refine (Bq A tb b bb n nb pv lv cv pb lb cb i W Tn hs bK hlen (by omega) gT zv hv.zG).mono fun e w' hh=>?_
  obtain ⟨b',rfl,zq⟩:=hh;have bO:=zq.below;have Wj:mJ W n (t.2.2.take i).length bb nb (.returned (.pointer (some ⟨b',0,none⟩))) w':=by rw [ei];exact zq
  obtain ⟨b2,n2,p2,l2,c2,ks,cs,he,g1,g2,g3,_⟩:=sO hn e1 e2 el rP hs AP (pE rP hs) Wj;cases he;exact ⟨PE w' b' n2 p2 l2 c2 ks cs g1 g2 (.inl ⟨fun h=>zv ((Ab rP).2 h),g3⟩),hv.below bO,Mv.of bO⟩
theorem EI{h:Nat}{cs:List (Nd h)}(hl:2≤cs.length)(hc:∀ c ∈ cs,2 ^ h≤(flat h c).length):2 ^ (h+1)≤(cs.flatMap (flat h)).length:=by
 match cs,hl,hc with
 | a::b::cs,_,hc =>
  have h1:=hc a (by simp)
  have h2:=hc b (by simp)
  rw [List.flatMap_cons,List.flatMap_cons,ae,ae,Nat.pow_succ];omega
theorem rz:∀ (h:Nat) {t:Nd h} {lo hi:Option ByteArray},kW h t lo hi→2 ^ h≤(flat h t).length
 | 0,t,_,_,ho=>by
  have h1:xK 0≤fY t.2:=ho.2.1;show 1≤t.2.length
  cases ht:t.2 with
  | nil=>rw [ht] at h1;simp [xK,q7] at h1
  | cons _ _=>simp
 | h+1,t,lo,hi,ho=>by
  have hc:=(fA h t lo hi).1 ho.1;have hl:=jV hc;have h1:1777≤fE t.2.1:=ho.2.1;refine EI (h:=h) (cs:=t.2.2) ?_ fun c hm=>?_
  ·cases hk:t.2.1 with
   | nil=>rw [hk] at h1;have:fE []=6:=rfl;omega
   | cons _ _=>rw [hk,List.length_cons] at hl;omega
  ·obtain ⟨i,mz,rfl⟩:=aO hm;obtain ⟨pJ,vm,hf⟩:=kN hc i _ (af mz);exact rz h hf
theorem Ah{h:Nat}{t:Nd h}(hr:fc (some ⟨h,t⟩)):2 ^ h≤(flat h t).length:=by
 obtain ⟨ho,_,h1⟩:=hr;cases h with
 | zero =>
  show 1≤t.2.length
  have h1:t.2≠[]:=h1;exact List.length_pos_iff.2 h1
 | succ h =>
  have h1:t.2.1≠[]:=h1;have hc:=(fA h t none none).1 ho;have hl:=jV hc;have:=List.length_pos_iff.2 h1;refine EI (h:=h) (cs:=t.2.2) (by omega) fun c hm=>?_
  obtain ⟨i,mz,rfl⟩:=aO hm;obtain ⟨pJ,vm,hf⟩:=kN hc i _ (af mz);exact rz h hf
theorem ld{h:Nat}{t:Nd h}(hr:fc (some ⟨h,t⟩))(hn:(flat h t).length≤4611686018427387904):h+1≤64:=by
 have h1:=Ah hr;have h2:2 ^ h≤2 ^ 62:=ar h1 (by omega)
 have:=(Nat.pow_le_pow_iff_right (by omega:1<2)).1 h2
 omega
theorem jI{h:Nat}{t:Nd h}(hr:fc (some ⟨h,t⟩)):jF ⟨h,t⟩:=by
 obtain ⟨ho,hs,h1⟩:=hr;cases h with
 | zero=>exact ⟨⟨none,none,ho⟩,hs⟩
 | succ h=>exact ⟨⟨none,none,ho⟩,hs,List.length_pos_iff.2 h1⟩
section
variable {PG:Int→Option PD} {w:World} {tb:Nat} {q:Option Addr} {rv:Value}
theorem aU.tree(ht:B.au w tb #[.pointer q,rv] 100)(zA:rv = .nilIface∨∃ t x,rv = .iface t x)(u:Value):∀ (h:Nat) {n:SN} {t:Nd h},aU PG w h n t→jF ⟨h,t⟩→aU PG (w.setCell ⟨tb,1,none⟩ u) h n t
 | 0,_,_,hn,_=>hn
 | h+1,n,t,hn,hg=>⟨hn.1,hn.2.1,hn.2.2.1,hn.2.2.2.1,fun i p c h1 h2=>by
  have hk:=hn.2.2.2.2 i p c h1 h2;have hgc:=mB hg h2;cases p with
  | pg id=>exact hk
  | nd b =>
   obtain ⟨h0,m,pv,lv,cv,hs,hm⟩:=hk;exact ⟨h0,m,pv,lv,cv,hs.tree (lh (x:=⟨h,c⟩) hm hgc).kids ht zA u,aU.tree ht zA u h hm hgc⟩⟩
theorem ew.tree(ht:B.au w tb #[.pointer q,rv] 100)(zA:rv = .nilIface∨∃ t x,rv = .iface t x)(u:Value){h:Nat}{p:C.Ch}{t:Nd h}(hk:ew PG w h p t)(hg:jF ⟨h,t⟩):ew PG (w.setCell ⟨tb,1,none⟩ u) h p t:=by
 cases p with
 | pg id=>exact hk
 | nd b =>
  obtain ⟨h0,m,pv,lv,cv,hs,hm⟩:=hk;exact ⟨h0,m,pv,lv,cv,hs.tree (lh (x:=⟨h,t⟩) hm hg).kids ht zA u,hm.tree ht zA u h hg⟩
theorem fK.tree(ht:B.au w tb #[.pointer q,rv] 100)(zA:rv = .nilIface∨∃ t x,rv = .iface t x)(u:Value){v:Value}{r:cC}(hr:fK PG w v r)(cO:fc r):fK PG (w.setCell ⟨tb,1,none⟩ u) v r:=by
 rcases hr with h | ⟨p,h,t,e1,rfl,hk⟩
 ·exact .inl h
 ·exact .inr ⟨p,h,t,e1,rfl,hk.tree ht zA u (jI cO)⟩
end
theorem fK.cH{PG:Int→Option PD}{w w':World}{v:Value}{r:cC}(hr:fK PG w v r)(ha:cW w w'):fK PG w' v r:=by
 rcases hr with h | ⟨p,h,t,e1,e2,hk⟩
 ·exact .inl h
 ·exact .inr ⟨p,h,t,e1,e2,hk.cH ha⟩
theorem fK.form{PG:Int→Option PD}{w:World}{v:Value}{r:cC}(hr:fK PG w v r):v = .nilIface∨∃ t x,v = .iface t x:=by
 rcases hr with ⟨h,_⟩ | ⟨p,_,_,h,_⟩
 ·exact .inl h
 ·exact .inr (h▸bP p)
theorem IG{F:Nat→Prop}{tb:Nat}{w w':World}(h:S.V.Step F F w w'):S.V.Step (fun k=>F k∨k=tb) (fun k=>F k∨k=tb) w w':=⟨h.os,h.tape,h.output,h.size,fun k hk hn=>h.block k hk (fun e=>hn (.inl e)),fun _ h=>.inl h⟩
theorem Dv.own{base:Nat}{A:Nat→Addr}{db:Nat}{F:Nat→Prop}{d:S.V.bw}{w:World}(h:Dv base A db F d w):F db:=by
 obtain ⟨_,_,_,_,_,_,_,hb⟩:=h.dev;exact hb.fb
structure Ts(base:Nat)(A:Nat→Addr)(db:Nat)(F:Nat→Prop)(d:S.V.bw)(W0 w:World)(tb:Nat)(r:cC):Prop where
 dv:Dv base A db F d w
 tr:∃ rv,B.au w tb #[.pointer (some ⟨db,0,none⟩),rv] 100∧fK (cM d) w rv r
 ok:fc r
 st:S.V.Step (fun k=>k=db∨k=tb) (fun k=>k=db∨k=tb) W0 w
 lo:base≤tb∧¬ F tb
section
variable {base:Nat} {A:Nat→Addr} {db:Nat} {F:Nat→Prop} {d:S.V.bw} {W0:World} {r:cC}
theorem Ts.mv{w w':World}{tb:Nat}(h:Ts base A db F d W0 w tb r)(hm:Mv db F w w')(hv:Dv base A db F d w'):Ts base A db F d W0 w' tb r:=by
 obtain ⟨rv,h1,h2⟩:=h.tr;exact ⟨hv,⟨rv,ed (hm.cH h.dv) h1,h2.cH (hm.cH h.dv)⟩,h.ok,h.st.trans (IG hm.one),h.lo⟩
theorem Ts.below{w w':World}{tb:Nat}(h:Ts base A db F d W0 w tb r)(hb:Below w.heap.size w w'):Ts base A db F d W0 w' tb r:=h.mv (Mv.of hb) (h.dv.below hb)
theorem Ts.root{w W2:World}{tb:Nat}{u rv:Value}{r':cC}(h:Ts base A db F d W0 w tb r)(hm:Mv db F w W2)(kD:Dv base A db F d W2)(tk:B.au W2 tb #[.pointer (some ⟨db,0,none⟩),rv] 100)(zA:rv = .nilIface∨∃ t x,rv = .iface t x)(hr:fK (cM d) W2 u r')(cO:fc r'):Ts base A db F d W0 (W2.setCell ⟨tb,1,none⟩ u) tb r':=by
 refine ⟨kD.tree h.lo.1 h.lo.2 1 u,⟨u,B.au.one tk u,hr.tree tk zA u cO⟩,cO,?_,h.lo⟩;have h1:=h.st.trans (IG hm.one);have hs:=bJ.set tb 1 W2 u;exact ⟨hs.os.trans h1.os,hs.tape.trans h1.tape,hs.output.trans h1.output,ar h1.size hs.size,fun k hk hn=>(hs.block k (aq hk h1.size) (fun e=>hn (.inr e))).trans (h1.block k hk hn),fun _ h=>.inl h⟩
theorem B5{w w1:World}{tb:Nat}{pv:Value}(key:ByteArray)(f:List Pr→List Pr)(hf:Go.Proofs.YtihmgigfkmofnaaGreatDoor.Fit key f)(h:Ts base A db F d W0 w tb none)(hm:Mv db F w w1)(hv:Dv base A db F d w1)(ht:B.au w1 tb #[.pointer (some ⟨db,0,none⟩),.nilIface] 100)(hp:gM w1 pv (f [])):Calls prog 47 #[.pointer (some ⟨tb,0,none⟩),.slice none 0 0,pv] w1 fun e w'=>e = .returned .nilIface∧∃ r',tP key f none r'∧Ts base A db F d W0 w' tb r':=by
 have b8:=hf.size [];rw [q7] at b8;have hl:=iE (f []);have tm:∀ p ∈ f [],cN p=true:=fun p hp=>by
  rcases hf.mem [] p hp with h | h
  ·simp at h
  ·exact h.2
 have hc:=yA (noS d) (fun _ _=>True) (fun _ n _=>n=⟨f [],0,[],[]⟩) (fun _ n _ h=>by subst h;exact .inl rfl) tb .nilIface none 0 [] [] () () pv (f []) w w1 (.inl ⟨rfl,rfl⟩) (by simp) (tQ.nil _ _) rfl hp ⟨tm,by omega⟩ (fun _=>rfl) ht hv h.dv hm (fun W s z bb nb pb lb cb _ _ cO=>(cO.2:False).elim)
 refine hc.mono fun e w' hh=>?_
 rcases hh with ⟨hE,_⟩ | ⟨W,W2,b,n,pn,ln,cn,u,he,hs,hn,hr,kD,kO,tk,rfl⟩
 ·exact (hE:False).elim
 ·subst hn;obtain ⟨v,r',e1,g1,g2,_⟩:=Ai (PG:=cM d) (h:=0) (t:=(0,f [])) ⟨rfl,rfl⟩ hs rfl (.inl rfl) hr;cases e1;exact ⟨he,r',g2,h.root kO kD tk (.inl rfl) g1 (oW hf (r:=none) trivial g2).1⟩
theorem sf{w w1:World}{tb:Nat}{a:Option Addr}{c:Nat}{ss:List (gD XT)}{s:gD XT}{rv pv:Value}{x:XT}{t0:Nd 0}(key:ByteArray)(f:List Pr→List Pr)(hf:Go.Proofs.YtihmgigfkmofnaaGreatDoor.Fit key f)(h:Ts base A db F d W0 w tb (some x))(hm:Mv db F w w1)(hv:Dv base A db F d w1)(ht:B.au w1 tb #[.pointer (some ⟨db,0,none⟩),rv] 100)(zA:rv = .nilIface∨∃ t x,rv = .iface t x)(dE:ss.length≤64)(ho:tQ w1 w.heap.size (.slice a (ss.length+1) c) (ss.map gD.lk++[s.lk]))(jl:Way (cX d) (fun n q=>B.fL n.lk key q) w1 x ss ⟨0,t0⟩)(b8:fY t0.2≤4072)(Tx:∀ p ∈ t0.2,cN p=true)(hp:gM w1 pv (f t0.2)):Calls prog 47 #[.pointer (some ⟨tb,0,none⟩),.slice a (ss.length+1) c,pv] w1 fun e w'=>e = .returned .nilIface∧∃ r',tP key f (some x) r'∧Ts base A db F d W0 w' tb r':=by
 have ke:=hf.size t0.2;have hl:=iE (f t0.2);have tm:∀ p ∈ f t0.2,cN p=true:=fun p hp=>by
  rcases hf.mem _ p hp with h | h
  ·exact Tx p h
  ·exact h.2
 have hL:(ss.map gD.lk++[s.lk]).length=ss.length+1:=by simp
 have hc:=yA (cX d) (fun n q=>B.fL n.lk key q) (FlS d key f) Xf tb rv a c (ss.map gD.lk++[s.lk]) ss x ⟨0,t0⟩ pv (f t0.2) w w1 (.inr ⟨_,rfl⟩) dE (by rw [hL];exact ho) jl hp ⟨tm,by omega⟩ (fun W=>⟨(0,f t0.2),⟨rfl,rfl⟩,rfl,rfl⟩) ht hv h.dv hm (fun W s z bb nb pb lb cb h1 h2 h3 h4 h5 h6 h7 h8 h9=>Bp key f tb rv W s z bb nb pb lb cb h1 h2 h3 h4 h5 h6 h7 h8 h9)
 rw [hL] at hc;refine hc.mono fun e w' hh=>?_
 rcases hh with ⟨hE,_⟩ | ⟨W,W2,b,n,pn,ln,cn,u,he,hs,⟨t',hn,hu,AP⟩,hr,kD,kO,tk,rfl⟩
 ·exact (hE:False).elim
 ·obtain ⟨v,r',e1,g1,g2,_⟩:=Ai hn hs AP (pE hn hs) hr;cases e1;have UX:tP key f (some x) r':=⟨t',hu,g2⟩;exact ⟨he,r',UX,h.root kO kD tk zA g1 (oW hf h.ok UX).1⟩
end
end T
def cY(n:Nat):List Nat:=if n=0 then [] else [n]
def dG:(h:Nat)→Nd h→List Nat
 | 0,t=>cY t.1
 | h+1,t=>cY t.1++t.2.2.flatMap (dG h)
def Ov:(h:Nat)→Nd h→List Nat
 | 0,_=>[]
 | h+1,t=>t.2.2.flatMap (dG h)
theorem mo(h:Nat)(t:Nd h):(Ov h t).Sublist (dG h t):=by
 cases h with
 | zero=>exact List.nil_sublist _
 | succ h=>exact dD _ _
theorem Dy(h:Nat)(a b:Nd h)(k:ByteArray):dG h (jj h a k b)=Ov h a++Ov h b:=by
 cases h with
 | zero=>rfl
 | succ h=>simp [dG,Ov,jj,cY]
theorem IY{h:Nat}{x a b:Nd h}{k:ByteArray}(hc:Cut h x a k b):dG h a++dG h b=Ov h x:=by
 obtain ⟨i,_,hc⟩:=hc;cases h with
 | zero =>
  obtain ⟨rfl,rfl,_⟩:=hc;rfl
 | succ h =>
  obtain ⟨rfl,rfl,_⟩:=hc;show (cY 0++(x.2.2.take (i+1)).flatMap (dG h))++(cY 0++(x.2.2.drop (i+1)).flatMap (dG h))=x.2.2.flatMap (dG h)
  rw [show cY 0=[] from rfl,List.nil_append,List.nil_append,← aR,aH]
theorem xn{h:Nat}{A B ks:List ByteArray}{C1 C2 cs:List (Nd h)}{x:Nd h}(hw:H9 h A B C1 x C2 ks cs):(cs.flatMap (dG h)).Sublist (C1.flatMap (dG h)++(dG h x++C2.flatMap (dG h))):=by
 rcases hw with ⟨_,_,rfl⟩ | ⟨_,a,k,b,hc,_,rfl⟩
 ·simp
 ·rw [aR,List.flatMap_cons,List.flatMap_cons,← ay (dG h a),IY hc];exact List.Sublist.append_left (List.Sublist.append_right (mo h x) _) _
theorem Gu{h:Nat}{A B ks:List ByteArray}{C1 C2 cs:List (Nd h)}{x:Nd h}(hs:Cf h A B C1 x C2 ks cs):(cs.flatMap (dG h)).Sublist (C1.flatMap (dG h)++(dG h x++C2.flatMap (dG h))):=by
 rcases hs with ⟨_,hw⟩ | ⟨_,rfl,rfl,k,B',b,C2',rfl,rfl,hw⟩ | ⟨_,A',k,C1',a,rfl,rfl,hw⟩
 ·exact xn hw
 ·refine (xn hw).trans ?_
  rw [Dy,List.flatMap_cons,ay];exact List.Sublist.append_left (List.Sublist.append (mo h x) (List.Sublist.append_right (mo h b) _)) _
 ·refine (xn hw).trans ?_
  rw [Dy,aR,ay,ay,List.flatMap_cons,List.flatMap_nil,List.append_nil];exact List.Sublist.append_left (List.Sublist.append (mo h a) (List.Sublist.append_right (mo h x) _)) _
theorem IV{key:ByteArray}{f:List Pr→List Pr}:∀ (h:Nat) {t t':Nd h},Yg key f h t t'→(dG h t').Sublist (dG h t)
 | 0,t,t',hu=>by
  have hu:t'=(0,f t.2):=hu;subst hu;exact List.nil_sublist _
 | h+1,t,t',hu=>by
  obtain ⟨A,B,C1,c,C2,_,e2,_,_,_,c',ks,cs,hc,hs,rfl⟩:=hu;show (cY 0++cs.flatMap (dG h)).Sublist (cY t.1++t.2.2.flatMap (dG h))
  rw [show cY 0=[] from rfl,List.nil_append,e2,aR,List.flatMap_cons]
  exact (Gu hs).trans ((List.Sublist.append_left (List.Sublist.append_right (IV h hc) _) _).trans (dD _ _))
def eJ:cC→List Nat
 | none=>[]
 | some r=>dG r.1 r.2
theorem xq{h:Nat}{t:Nd h}{r:cC}(hr:tR h t r):(eJ r).Sublist (dG h t):=by
 rcases hr with ⟨_,a,k,b,hc,rfl⟩ | ⟨_,_,rfl⟩ | ⟨_,_,hr⟩
 ·show (cY 0++[a,b].flatMap (dG h)).Sublist _
  rw [show cY 0=[] from rfl,List.nil_append,List.flatMap_cons,List.flatMap_cons,List.flatMap_nil,List.append_nil,IY hc]
  exact mo h t
 ·exact List.Sublist.refl _
 ·cases h with
  | zero =>
   have hr:r=none:=hr;subst hr;exact List.nil_sublist _
  | succ h =>
   obtain ⟨c,e,rfl⟩:=hr;show (dG h c).Sublist (cY t.1++t.2.2.flatMap (dG h))
   rw [e,List.flatMap_cons,List.flatMap_nil,List.append_nil];exact dD _ _
theorem Dx{key:ByteArray}{f:List Pr→List Pr}{r r':cC}(hu:tP key f r r'):(eJ r').Sublist (eJ r):=by
 cases r with
 | none=>exact xq (h:=0) (t:=(0,f [])) hu
 | some r =>
  obtain ⟨t',h1,h2⟩:=hu;exact (xq h2).trans (IV r.1 h1)
namespace T
open Go.RowKit
def jc:(h:Nat)→Nd h→Nat
 | 0,t=>if t.1=0 then 1 else 0
 | h+1,t=>if t.1=0 then (t.2.2.map (jc h)).sum+1 else 0
def bZ{α β γ:Type}(g:α→Nat→β × List γ):List α→Nat→List β × List γ
 | [],_=>([],[])
 | c::cs,k=>((g c k).1::(bZ g cs (k+(g c k).2.length)).1,(g c k).2++(bZ g cs (k+(g c k).2.length)).2)
def l6{h:Nat}:List (Nd h)→Int
 | []=>0
 | c::_=>(fy h c:Int)
def qv{h:Nat}(ks:List ByteArray)(cs:List (Nd h)):List B.Lk:=ks.zip (cs.tail.map fun c=>(fy h c:Int))
def aV(P:Nat→Nat):(h:Nat)→Nd h→Nat→Nd h × List (Nat × PD)
 | 0,t,k=>if t.1=0 then ((P k,t.2),[(P k,.leaf t.2)]) else (t,[])
 | h+1,t,k=>if t.1=0 then ((P (k+(bZ (aV P h) t.2.2 k).2.length),t.2.1,(bZ (aV P h) t.2.2 k).1),(bZ (aV P h) t.2.2 k).2++[(P (k+(bZ (aV P h) t.2.2 k).2.length),.br (l6 (bZ (aV P h) t.2.2 k).1) (qv t.2.1 (bZ (aV P h) t.2.2 k).1))]) else (t,[])
theorem iw{α β γ:Type}(g:α→Nat→β × List γ):∀ (cs:List α) (k:Nat),(bZ g cs k).1.length=cs.length
 | [],_=>rfl
 | c::cs,k=>by
  show (bZ g cs (k+(g c k).2.length)).1.length+1=cs.length+1
  rw [iw g cs]
theorem rJ{α β γ:Type}(g:α→Nat→β × List γ):∀ (cs:List α) (k i:Nat) (c:α),cs[i]?=some c→∃ ki,(bZ g cs k).1[i]?=some (g c ki).1∧∀ x ∈ (g c ki).2,x ∈ (bZ g cs k).2
 | [],_,i,c,h=>by simp at h
 | c0::cs,k,0,c,h=>by
  cases h;exact ⟨k,rfl,fun x hx=>dZ _ hx⟩
 | c0::cs,k,i+1,c,h=>by
  obtain ⟨ki,h1,h2⟩:=rJ g cs (k+(g c0 k).2.length) i c h;exact ⟨ki,h1,fun x hx=>cd _ (h2 x hx)⟩
theorem rL{h:Nat}{P:Nat→Nat}(ih:∀ (t:Nd h) (k:Nat),(aV P h t k).2.length=jc h t):∀ (cs:List (Nd h)) (k:Nat),(bZ (aV P h) cs k).2.length=(cs.map (jc h)).sum
 | [],_=>rfl
 | c::cs,k=>by
  show ((aV P h c k).2++(bZ (aV P h) cs (k+(aV P h c k).2.length)).2).length=jc h c+(cs.map (jc h)).sum
  rw [ae,ih,rL ih cs]
theorem nu{P:Nat→Nat}:∀ (h:Nat) (t:Nd h) (k:Nat),(aV P h t k).2.length=jc h t
 | 0,t,k=>by
  by_cases h0:t.1=0
  ·simp [aV,jc,h0]
  ·simp [aV,jc,h0]
 | h+1,t,k=>by
  by_cases h0:t.1=0
  ·simp [aV,jc,h0,rL (nu h)]
  ·simp [aV,jc,h0]
def pL(P:Nat→Nat)(k n:Nat):List Nat:=(List.range n).map fun j=>P (k+j)
theorem ti(P:Nat→Nat)(k n:Nat):pL P k (n+1)=pL P k n++[P (k+n)]:=by
 unfold pL;rw [List.range_succ,bz];rfl
theorem Ef(P:Nat→Nat)(k m:Nat):∀ n,pL P k (m+n)=pL P k m++pL P (k+m) n
 | 0=>by simp [pL]
 | n+1=>by
  rw [← dt,ti,Ef P k m n,ti,ay,dt]
theorem D7{h:Nat}{P:Nat→Nat}(ih:∀ (t:Nd h) (k:Nat),(aV P h t k).2.map (·.1)=pL P k (aV P h t k).2.length):∀ (cs:List (Nd h)) (k:Nat),(bZ (aV P h) cs k).2.map (·.1)=pL P k (bZ (aV P h) cs k).2.length
 | [],_=>rfl
 | c::cs,k=>by
  show ((aV P h c k).2++(bZ (aV P h) cs (k+(aV P h c k).2.length)).2).map (·.1)=pL P k ((aV P h c k).2++(bZ (aV P h) cs (k+(aV P h c k).2.length)).2).length
  rw [bz,ih,D7 ih cs,ae,Ef]
theorem vO{P:Nat→Nat}:∀ (h:Nat) (t:Nd h) (k:Nat),(aV P h t k).2.map (·.1)=pL P k (aV P h t k).2.length
 | 0,t,k=>by
  by_cases h0:t.1=0
  ·simp [aV,h0,pL]
  ·simp [aV,h0,pL]
 | h+1,t,k=>by
  by_cases h0:t.1=0
  ·have:=D7 (vO (P:=P) h) t.2.2 k;simp only [aV,h0,if_true,bz,ae,List.map_cons,List.map_nil,List.length_cons,List.length_nil];rw [this,Nat.zero_add,ti]
  ·simp [aV,h0,pL]
theorem AG{h:Nat}{P:Nat→Nat}(ih:∀ (t:Nd h) (k:Nat),flat h (aV P h t k).1=flat h t):∀ (cs:List (Nd h)) (k:Nat),(bZ (aV P h) cs k).1.flatMap (flat h)=cs.flatMap (flat h)
 | [],_=>rfl
 | c::cs,k=>by
  show ((aV P h c k).1::(bZ (aV P h) cs (k+(aV P h c k).2.length)).1).flatMap (flat h)=_
  rw [List.flatMap_cons,List.flatMap_cons,ih,AG ih cs]
theorem D4{P:Nat→Nat}:∀ (h:Nat) (t:Nd h) (k:Nat),flat h (aV P h t k).1=flat h t
 | 0,t,k=>by
  by_cases h0:t.1=0
  ·simp [aV,h0,flat]
  ·simp [aV,h0]
 | h+1,t,k=>by
  by_cases h0:t.1=0
  ·have:=AG (D4 (P:=P) h) t.2.2 k;simp only [aV,h0,if_true];exact this
  ·simp [aV,h0]
theorem BH{P:Nat→Nat}(h:Nat)(t:Nd h)(k:Nat):nI h (aV P h t k).1=nI h t:=by
 cases h with
 | zero =>
  by_cases h0:t.1=0
  ·simp [aV,h0,nI]
  ·simp [aV,h0]
 | succ h =>
  by_cases h0:t.1=0
  ·simp [aV,h0,nI]
  ·simp [aV,h0]
theorem Pc{P:Nat→Nat}(h:Nat)(t:Nd h)(k:Nat)(hs:wP h t):wP h (aV P h t k).1:=by
 cases h with
 | zero =>
  by_cases h0:t.1=0
  ·simp only [aV,h0,if_true];exact hs
  ·simp only [aV,h0,if_false];exact hs
 | succ h =>
  by_cases h0:t.1=0
  ·simp only [aV,h0,if_true];exact hs
  ·simp only [aV,h0,if_false];exact hs
theorem vP{h:Nat}{P:Nat→Nat}(ih:∀ (t:Nd h) (k:Nat) (lo hi:Option ByteArray),kW h t lo hi→kW h (aV P h t k).1 lo hi):∀ (cs:List (Nd h)) (ks:List ByteArray) (k:Nat) (lo hi:Option ByteArray),gY (kW h) lo hi ks cs→gY (kW h) lo hi ks (bZ (aV P h) cs k).1
 | [],ks,_,_,_,ho=>by cases ks <;> simp [gY] at ho
 | [c],[],k,lo,hi,ho=>by
  have ho:kW h c lo hi:=ho;exact ih c k lo hi ho
 | [_],[_],_,_,_,ho=>by simp [gY] at ho
 | [_],_::_::_,_,_,_,ho=>by simp [gY] at ho
 | _::_::_,[],_,_,_,ho=>by simp [gY] at ho
 | c::d::cs,k0::ks,k,lo,hi,ho=>by
  obtain ⟨h1,h2,h3,h4⟩:=ho;have:=vP ih (d::cs) ks (k+(aV P h c k).2.length) (some k0) hi h4;exact ⟨h1,h2,ih c k _ _ h3,this⟩
theorem qy{P:Nat→Nat}:∀ (h:Nat) (t:Nd h) (k:Nat) (lo hi:Option ByteArray),Ok h t lo hi→Ok h (aV P h t k).1 lo hi
 | 0,t,k,lo,hi,ho=>by
  by_cases h0:t.1=0
  ·simp only [aV,h0,if_true];exact ho
  ·simp only [aV,h0,if_false];exact ho
 | h+1,t,k,lo,hi,ho=>by
  by_cases h0:t.1=0
  ·simp only [aV,h0,if_true];exact vP (fun t k lo hi hf=>⟨qy h t k lo hi hf.1,by unfold Full;rw [BH];exact hf.2⟩) t.2.2 t.2.1 k lo hi ho
  ·simp only [aV,h0,if_false];exact ho
theorem AF{h:Nat}{P:Nat→Nat}(ih:∀ (t:Nd h) (k:Nat),(dG h (aV P h t k).1).Perm (dG h t++(aV P h t k).2.map (·.1))):∀ (cs:List (Nd h)) (k:Nat),((bZ (aV P h) cs k).1.flatMap (dG h)).Perm (cs.flatMap (dG h)++(bZ (aV P h) cs k).2.map (·.1))
 | [],_=>List.Perm.refl _
 | c::cs,k=>by
  show (dG h (aV P h c k).1++(bZ (aV P h) cs (k+(aV P h c k).2.length)).1.flatMap (dG h)).Perm ((dG h c++cs.flatMap (dG h))++((aV P h c k).2++(bZ (aV P h) cs (k+(aV P h c k).2.length)).2).map (·.1))
  rw [bz];refine ((ih c k).append (AF ih cs _)).trans ?_
  rw [ay,ay];refine List.Perm.append_left _ ?_
  rw [← ay,← ay];exact List.Perm.append_right _ List.perm_append_comm
theorem D1{P:Nat→Nat}(hP:∀ j,P j≠0):∀ (h:Nat) (t:Nd h) (k:Nat),(dG h (aV P h t k).1).Perm (dG h t++(aV P h t k).2.map (·.1))
 | 0,t,k=>by
  by_cases h0:t.1=0
  ·simp only [aV,h0,if_true,dG,cY,hP,if_false];exact List.Perm.refl _
  ·simp only [aV,h0,if_false,List.map_nil,List.append_nil];exact List.Perm.refl _
 | h+1,t,k=>by
  by_cases h0:t.1=0
  ·have:=AF (D1 hP h) t.2.2 k;simp only [aV,h0,if_true,dG,cY,hP,if_false,List.nil_append,bz,List.map_cons,List.map_nil];rw [← ay];exact (List.perm_append_comm).trans (List.Perm.append_right _ this)
  ·simp only [aV,h0,if_false,List.map_nil,List.append_nil];exact List.Perm.refl _
theorem D2{P:Nat→Nat}(hP:∀ j,P j≠0)(h:Nat)(t:Nd h)(k:Nat):fy h (aV P h t k).1≠0:=by
 cases h with
 | zero =>
  by_cases h0:t.1=0
  ·simp only [aV,h0,if_true];exact hP _
  ·simp only [aV,h0,if_false];exact h0
 | succ h =>
  by_cases h0:t.1=0
  ·simp only [aV,h0,if_true];exact hP _
  ·simp only [aV,h0,if_false];exact h0
theorem E1{h:Nat}{t:Nd h}(hp:fy h t≠0):jc h t=0:=by
 cases h with
 | zero=>exact if_neg hp
 | succ h=>exact if_neg hp
theorem Iw{d:S.V.bw}{key:ByteArray}{w:World}{l:List Pr}:∀ {ss:List (gD XT)} {x y:XT},Way (cX d) (fun n q=>B.fL n.lk key q) w x ss y→Go.Proofs.YtihmgigfkmofnaaGreatDoor.Way key y.1 y.2 l→Go.Proofs.YtihmgigfkmofnaaGreatDoor.Way key x.1 x.2 l
 | [],_,_,h,hw=>by
  have h:_=_:=h;subst h;exact hw
 | s::ss,x,y,⟨h1,h2,h3,h4,h5,z,h6,h7⟩,hw=>by
  have ih:=Iw h7 hw;subst h1;obtain ⟨b,n,i,⟨hh,t⟩⟩:=s;cases hh with
  | zero=>exact h6.elim
  | succ h =>
   obtain ⟨c,hc,rfl⟩:=h6;obtain ⟨_,hn,hg⟩:=h2;have hn:aU (cM d) w (h+1) n t:=hn;have hc:t.2.2[i]?=some c:=hc;have jo:t.2.1=n.lk.map (·.1):=hn.2.2.2.1;have pP:t.2.2.length=t.2.1.length+1:=by rw [← hn.1,hn.len,jo,az]
   obtain ⟨lo,hi,ho⟩:=hg.1;have oE:=jK ((fA h t lo hi).1 ho);rw [jo] at oE;obtain ⟨RJ,RI⟩:=nj h4 oE;simp only at RJ RI;rw [← jo] at RJ RI;obtain ⟨e1,e2,el,ei⟩:=ml pP hc;exact ⟨_,_,_,c,_,e1,e2,el,RJ,RI,ih⟩
def Uj(d:S.V.bw)(key:ByteArray)(r:cC)(bs:Nat)(e:Ending)(w':World):Prop :=
 (r=none∧e = .returned (.tuple #[.slice none 0 0,.nilIface])) ∨
 ∃ (x:XT) (ss:List (gD XT)) (s:gD XT) (a:Option Addr) (c:Nat) (pv lv cv:Value) (t0:Nd 0),r=some x∧e = .returned (.tuple #[.slice a (ss.length+1) c,.nilIface])∧tQ w' bs (.slice a (ss.length+1) c) (ss.map gD.lk++[s.lk])∧Way (cX d) (fun n q=>B.fL n.lk key q) w' x ss ⟨0,t0⟩∧dQ w' s.b s.n pv lv cv∧s.n.ps=t0.2∧fY t0.2≤4072∧ss.length≤63∧Go.Proofs.YtihmgigfkmofnaaGreatDoor.Way key x.1 x.2 t0.2
theorem Uj.of{A:Nat→Addr}{d:S.V.bw}{key:ByteArray}{x:XT}{bs:Nat}{e:Ending}{w':World}(h:nP (cX d) (fun n q=>B.fL n.lk key q) A [] x bs e w'):Uj d key (some x) bs e w':=by
 rcases h with ⟨hE,_⟩ | ⟨ss,s,a,c,he,ho,hw,⟨⟨pv,lv,cv,hs⟩,hn⟩,h0,rR,hl⟩
 ·exact (hE:False).elim
 ·simp only [List.length_nil,Nat.zero_add,List.nil_append] at he ho hl;obtain ⟨hn,hg⟩:=hn;obtain ⟨b,n,i,⟨hh,t⟩⟩:=s;cases hh with
  | zero=>exact .inr ⟨x,ss,⟨b,n,i,⟨0,t⟩⟩,a,c,pv,lv,cv,t,rfl,he,ho,hw,hs,hn.2,hg.2,hl,Iw hw rfl⟩
  | succ h=>exact absurd (List.length_eq_zero_iff.1 h0) hn.2.1
section
variable {base:Nat} {A:Nat→Addr} {db:Nat} {F:Nat→Prop} {d:S.V.bw} {W0:World} {r:cC}
theorem n7{w w1:World}{tb:Nat}(key:ByteArray)(hc:Ts base A db F d W0 w tb r)(hn:(aD r).length≤4611686018427387904)(hb:Below w.heap.size w w1):Calls prog 46 #[.pointer (some ⟨tb,0,none⟩),.string key] w1 fun e w'=>Uj d key r w.heap.size e w'∧Dv base A db F d w'∧Mv db F w w':=by
 obtain ⟨rv,ht,hr⟩:=hc.tr;have hv:=hc.dv.below hb;have hm:Mv db F w w1:=Mv.of hb;rcases hr with ⟨rfl,rfl⟩ | ⟨p,h,t,rfl,rfl,hk⟩
 ·refine (wC tb _ key w1 (ht.below hb)).mono fun e w' ⟨he,hb⟩=>⟨.inl ⟨rfl,he⟩,hv.below hb,hm.trans (Mv.of hb)⟩
 ·refine (wB (cX d) p ⟨h,t⟩ tb key w w1 ⟨hk.cH (cW.of hb),jI hc.ok⟩ (ht.below hb) hv hm hc.dv (.inr (ld hc.ok hn))).mono fun e w' ⟨h1,h2,h3⟩=>⟨Uj.of h1,h2,h3⟩
theorem KA{w:World}{tb:Nat}(key value:ByteArray)(hc:Ts base A db F d W0 w tb r)(hn:(aD r).length≤4611686018427387904)(de:key.size≤140737488355328)(vf:value.size≤140737488355328):Calls prog 15 #[.pointer (some ⟨tb,0,none⟩),.string key,.string value] w fun e w'=>(cN (key,value)=true∧e = .returned .nilIface∧∃ r',tP key (fun l=>fu l key value) r r'∧Ts base A db F d W0 w' tb r')∨(¬ cN (key,value)=true∧e = .returned (.iface 360 (.pointer (some (A 0))))∧Ts base A db F d W0 w' tb r):=by
 have wh:=ab (qq A key value w de vf hc.dv.zG);have HC:=ab hc;have HN:=ab hn;clear hc hn;by_cases hm:cN (key,value)=true
 ·rw [if_pos hm] at wh;have WB:=eS hm;have HM:=ab hm;clear de vf hm;go_enter func15,ntmps15;go_wp2_with fail;refine wh.out.mono ?_
  rintro e w1 ⟨rfl,aM⟩;have Rh:=ab (n7 key HC.out HN.out aM);clear aM wh;go_wp2_with fail;refine Rh.out.mono ?_
  rintro e w2 ⟨GX,kD,kO⟩;have tT:=ab kD;have vw:=ab kO;have Ft:=ab (HC.out.mv kO kD);obtain ⟨rv,ht,Wr⟩:=Ft.out.tr;have Ba:=ab ht;have HRF:=ab Wr;rcases GX with ⟨U2,rfl⟩ | ⟨x,ss,s,a,c,pv,lv,cv,t0,Wq,rfl,ho,jl,hs,kt,b8,hl,-⟩
  ·subst U2;have zA:rv = .nilIface:=by
    rcases HRF.out with ⟨h,_⟩ | ⟨_,_,_,_,h,_⟩
    ·exact h
    ·cases h
   subst zA;clear kD kO Rh ht Wr;go_wp2_with fail;refine (hU w2).mono ?_
   rintro e w2' ⟨rfl,rfl⟩;go_wp2_with fail;refine (ni key w2 (by omega)).mono ?_
   rintro e w3 ⟨rfl,bQ⟩;have eG:=ab bQ;clear bQ;go_wp2_with fail;refine (ni value w3 (by omega)).mono ?_
   rintro e w4 ⟨rfl,fW⟩;have iY:=ab (Below.next eG.out fW);clear fW;go_wp2_with fail;refine (DR (.slice none 0 0) [] key value w4 (by simp) (gM.nil _)).mono ?_
   rintro e w5 ⟨u,rfl,hu,lH⟩;have iu:=ab (Below.next iY.out lH);have MM:=ab (B5 key (fun l=>fu l key value) (vV HM.out) HC.out (vw.out.trans (Mv.of iu.out)) (tT.out.below iu.out) (Ba.out.below iu.out) hu.at)
   obtain ⟨ua,uc,Pw⟩:=hu.form;subst Pw;clear hu lH;go_wp2_with fail;refine MM.out.mono ?_
   rintro e w6 ⟨rfl,htc⟩;have Cy:=ab htc;clear htc MM;go_wp2;go_ret;exact .inl ⟨HM.out,rfl,Cy.out⟩
  ·subst Wq;have R4:Hid (rv = .nilIface∨∃ t x,rv = .iface t x):=HRF.out.form;have HO:=ab ho;have HW:=ab jl;have sH:=ab kt;have jb:=ab b8;have HL:=ab hl;have wi:=ab (jg a ss.length c (ss.map gD.lk) s.lk s.n pv lv cv w2 (by rw [az]) (by omega) ho.1.at hs)
   have Ii:=ab hs.iI;have HPM:=ab hs.fine.1;obtain ⟨m,Cp⟩ : ∃ m,m=ss.length:=⟨_,rfl⟩;have FO:=ab Cp;rw [← Cp] at wi HO HL ⊢;obtain ⟨xa,xc,BN⟩:=hs.iI.form;subst BN;clear ho jl hs kt b8 hl kD kO Rh Cp ht Wr;go_wp2_with fail;refine wi.out.mono ?_
   rintro e w2' ⟨rfl,rfl⟩;go_wp2_with fail;refine (ni key w2 (by omega)).mono ?_
   rintro e w3 ⟨rfl,bQ⟩;have eG:=ab bQ;clear bQ;go_wp2_with fail;refine (ni value w3 (by omega)).mono ?_
   rintro e w4 ⟨rfl,fW⟩;have iY:=ab (Below.next eG.out fW);clear fW;go_wp2_with fail;refine (DR _ s.n.ps key value w4 (by have:=iE s.n.ps;have:=jb.out;rw [← sH.out] at this;omega) (Ii.out.below iY.out)).mono ?_
   rintro e w5 ⟨u,rfl,hu,lH⟩;have iu:=ab (Below.next iY.out lH);have ym:=sf (s:=s) (t0:=t0) key (fun l=>fu l key value) (vV HM.out) HC.out (vw.out.trans (Mv.of iu.out)) (tT.out.below iu.out) (Ba.out.below iu.out) R4.out (by have:=HL.out;have:=FO.out;omega) (by rw [← FO.out];exact HO.out.below iu.out) (HW.out.cH (cW.of iu.out)) jb.out (by rw [← sH.out];exact HPM.out) (by rw [← sH.out];exact hu.at)
   rw [← FO.out] at ym;have MM:=ab ym;obtain ⟨ua,uc,Pw⟩:=hu.form;subst Pw;clear hu lH ym;go_wp2_with fail;refine MM.out.mono ?_
   rintro e w6 ⟨rfl,htc⟩;have Cy:=ab htc;clear htc MM;go_wp2;go_ret;exact .inl ⟨HM.out,rfl,Cy.out⟩
 ·rw [if_neg hm] at wh;have HM:=ab hm;clear de vf hm;go_enter func15,ntmps15;go_wp2_with fail;refine wh.out.mono ?_
  rintro e w1 ⟨rfl,aM⟩;have Cy:=ab (HC.out.below aM);clear aM wh;go_wp2;go_ret;exact .inr ⟨HM.out,rfl,Cy.out⟩
end
end T
end Go.Proofs.YtihmgigfkmofnaaGreatDoor
