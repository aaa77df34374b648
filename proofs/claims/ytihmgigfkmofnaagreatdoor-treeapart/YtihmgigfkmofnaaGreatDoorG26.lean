import Derived.Test.YtihmgigfkmofnaaGreatDoorG24
import Derived.Test.YtihmgigfkmofnaaGreatDoorG25
set_option maxHeartbeats 4000000
set_option maxRecDepth 100000
open Go.Proofs.Tryz
namespace Go.Proofs.YtihmgigfkmofnaaGreatDoor
namespace T
open Go.RowKit
theorem Eu(p:Option Addr)(w:World):(binOp .eql 32 (.iface 360 (.pointer p)) .nilIface).run prog w = .ok (.bool false) w:=by
 have h2:∀ d:Nat,(Op.equalIn (d+1) 32 (.iface 360 (.pointer p)) .nilIface).run prog w = .ok false w:=fun d=>by
  simp [Op.equalIn,run_underlying underlying32]
 simp only [binOp];simp [Op.equal,Op.maxDepth,h2 9999]
theorem vl(A:Nat→Addr)(w:World)(h:dA 13 eR A w):Calls prog 14 #[.iface 360 (.pointer (some (A 0)))] w fun e w'=>e = .returned (.int .i64 1)∧w=w':=by
 have c0:w.cell? ⟨0,0,none⟩=some (.iface 360 (.pointer (some (A 0)))):=(h.1 0 (by decide)).1
 have e0:=Tf A 0;have hn:=fun W=>Eu (some (A 0)) W
 clear h;go_enter func14,ntmps14;go_wp2;go_ret;exact ⟨rfl,rfl⟩
theorem aT.cC{PG:Int→Option PD}{w w':World}(ha:cP w w'):∀ (h:Nat) {n:SN} {t:Nd h},aT PG w h n t→aT PG w' h n t
 | 0,_,_,hn=>hn
 | h+1,n,t,hn=>⟨hn.1,hn.2.1,hn.2.2.1,hn.2.2.2.1,fun i p c h1 h2=>by
  have:=hn.2.2.2.2 i p c h1 h2;cases p with
  | pg id=>exact this
  | nd b =>
   obtain ⟨h0,m,pv,lv,cv,hs,hm⟩:=this;exact ⟨h0,m,pv,lv,cv,hs.cC ha,aT.cC ha h hm⟩⟩
theorem eh.cC{PG:Int→Option PD}{w w':World}{h:Nat}{p:C.Ch}{t:Nd h}(hk:eh PG w h p t)(ha:cP w w'):eh PG w' h p t:=by
 cases p with
 | pg id=>exact hk
 | nd b =>
  obtain ⟨h0,m,pv,lv,cv,hs,hm⟩:=hk;exact ⟨h0,m,pv,lv,cv,hs.cC ha,hm.cC ha h⟩
abbrev XT:=(h:Nat) × Nd h
theorem kD{α:Type}{P:α→Option ByteArray→Option ByteArray→Prop}:∀ {lo hi:Option ByteArray} {ks:List ByteArray} {cs:List α},gR P lo hi ks cs→∀ (i:Nat) (c:α),cs[i]?=some c→∃ pz mh,P c pz mh
 | _,_,[],[],h,_,_,_=>by simp [gR] at h
 | lo,hi,[],[c'],h,i,c,hc=>by
  cases i with
  | zero=>cases hc;exact ⟨lo,hi,h⟩
  | succ i=>simp at hc
 | _,_,[],_::_::_,h,_,_,_=>by simp [gR] at h
 | _,_,_::_,[],h,_,_,_=>by simp [gR] at h
 | lo,_,k::ks,c'::cs,h,i,c,hc=>by
  cases i with
  | zero=>cases hc;exact ⟨lo,some k,h.2.2.1⟩
  | succ i=>exact kD h.2.2.2 i c hc
def jl:XT→Prop
 | ⟨0,t⟩=>(∃ lo hi,Ok 0 t lo hi)∧np 0 t≤4072
 | ⟨h+1,t⟩=>(∃ lo hi,Ok (h+1) t lo hi)∧np (h+1) t≤4072∧1≤t.2.1.length
def X8:XT→Nat→XT→Prop
 | ⟨0,_⟩,_,_=>False
 | ⟨h+1,t⟩,i,y=>∃ c:Nd h,t.2.2[i]?=some c∧y=⟨h,c⟩
theorem Lm{h:Nat}{c:Nd h}{lo hi:Option ByteArray}(ho:kO h c lo hi):jl ⟨h,c⟩:=by
 cases h with
 | zero=>exact ⟨⟨lo,hi,ho.1⟩,ho.2.2⟩
 | succ h =>
  refine ⟨⟨lo,hi,ho.1⟩,ho.2.2,?_⟩;have h1:1777≤fB c.2.1:=ho.2.1;cases hk:c.2.1 with
  | nil=>rw [hk] at h1;have:fB []=6:=rfl;omega
  | cons _ _=>simp
theorem kX{h:Nat}{t:Nd (h+1)}{i:Nat}{c:Nd h}(hg:jl ⟨h+1,t⟩)(hc:t.2.2[i]?=some c):jl ⟨h,c⟩:=by
 obtain ⟨⟨lo,hi,ho⟩,_⟩:=hg;obtain ⟨pz,mh,hf⟩:=kD ((fu h t lo hi).1 ho) i c hc;exact Lm hf
theorem iD{PG:Int→Option PD}{w:World}{n:SN}{x:XT}(hn:aT PG w x.1 n x.2)(hg:jl x):Fit n:=by
 obtain ⟨h,t⟩:=x;have b7:=hn.sz;cases h with
 | zero =>
  refine ⟨.inl (by rw [hn.1];rfl),?_,.inl (by rw [hn.1];rfl)⟩
  have hz:n.sz=np 0 t:=b7;have:np 0 t≤4072:=hg.2;omega
 | succ h =>
  refine ⟨hn.2.2.1,?_,.inr ?_⟩
  ·have hz:n.sz=np (h+1) t:=b7;have:np (h+1) t≤4072:=hg.2.1;omega
  ·have h1:1≤t.2.1.length:=hg.2.2;have h2:t.2.1=n.lk.map (·.1):=hn.2.2.2.1;rw [h2,az] at h1;exact h1
theorem IM{PG:Int→Option PD}{id:Int}{x:XT}(hp:gA PG x.1 id x.2):∃ p,PG id=some p∧∀ w,aT PG w x.1 p.sn x.2:=by
 obtain ⟨h,t⟩:=x;cases h with
 | zero =>
  obtain ⟨_,_,An⟩:=hp;exact ⟨_,An,fun w=>⟨rfl,rfl⟩⟩
 | succ h =>
  obtain ⟨_,_,f,lk,An,ju,hlen,tY⟩:=hp;refine ⟨_,An,fun w=>⟨by show (Ba f lk).length=t.2.2.length;rw [vh,hlen],by simp [PD.sn,Ba],.inr (by show (Ba f lk).length=lk.length+1;rw [vh]),ju,fun i p c h1 h2=>?_⟩⟩
  obtain ⟨x,sd,rfl⟩:=IB f lk i p h1;exact tY i c x h2 sd
def cX(d:S.V.bq):Sys d XT where
 K:=fun w p x=>eh (cM d) w x.1 p x.2∧jl x
 N:=fun w n x=>aT (cM d) w x.1 n x.2∧jl x
 E:=False
 sub:=X8
 rk:=fun x=>x.1
 ka:=fun ha h=>⟨h.1.cC ha,h.2⟩
 na:=fun ha h=>⟨h.1.cC ha _,h.2⟩
 qL:=fun {w n x i p} hn hp=>by
  obtain ⟨h,t⟩:=x;obtain ⟨hn,hg⟩:=hn;cases h with
  | zero =>
   have:n.us=[]:=hn.1;rw [this] at hp;simp at hp
  | succ h =>
   have hi:=(List.getElem?_eq_some_iff.1 hp).1;have hl:n.us.length=t.2.2.length:=hn.1;have hc:t.2.2[i]?=some (t.2.2[i]'(by omega)):=af (by omega)
   exact ⟨⟨h,t.2.2[i]'(by omega)⟩,⟨_,hc,rfl⟩,hn.qL hp hc,kX hg hc⟩
 fit:=fun h=>iD h.1 h.2
 gW:=fun h=>by
  obtain ⟨p,h1,h2⟩:=IM h.1;exact .inr ⟨p,h1,fun w'=>⟨h2 w',h.2⟩⟩
 node:=fun h=>by
  obtain ⟨⟨_,m,pv,lv,cv,hs,hm⟩,hg⟩:=h;exact ⟨m,pv,lv,cv,hs,hm,hg⟩
 Yf:=.inr fun x i y hs=>by
  obtain ⟨h,t⟩:=x;cases h with
  | zero=>exact hs.elim
  | succ h =>
   obtain ⟨c,_,rfl⟩:=hs;exact aj _
theorem zY{α:Type}{P:α→Option ByteArray→Option ByteArray→Prop}:∀ {lo hi:Option ByteArray} {ks:List ByteArray} {cs:List α},gR P lo hi ks cs→∀ k ∈ ks,gtB lo k
 | _,_,[],_,_,k,hk=>by simp at hk
 | _,_,_::_,[],h,_,_=>by simp [gR] at h
 | lo,_,k1::ks,c::cs,h,k,hk=>by
  rcases List.mem_cons.1 hk with rfl | hk
  ·exact h.1.1
  ·intro l hl;exact dh (h.1.1 l hl) (zY h.2.2.2 k hk k1 rfl)
theorem jC{α:Type}{P:α→Option ByteArray→Option ByteArray→Prop}:∀ {lo hi:Option ByteArray} {ks:List ByteArray} {cs:List α},gR P lo hi ks cs→ks.Pairwise fun a b=>cR a b=true
 | _,_,[],_,_=>List.Pairwise.nil
 | _,_,_::_,[],h=>by simp [gR] at h
 | _,_,k1::ks,_::_,h=>List.Pairwise.cons (fun k hk=>zY h.2.2.2 k hk k1 rfl) (jC h.2.2.2)
theorem mQ{lk:List B.Lk}{key:ByteArray}{q:Nat}(hp:B.fE lk key q)(hs:(lk.map (·.1)).Pairwise fun a b=>cR a b=true):(∀ k ∈ (lk.map (·.1)).take q,cR key k=false)∧∀ k,((lk.map (·.1)).drop q).head?=some k→cR key k=true:=by
 refine ⟨fun k hk=>?_,fun k hk=>?_⟩
 ·obtain ⟨i,hi,rfl⟩:=aQ hk;rw [ag,az] at hi;rw [bK];obtain ⟨j,rfl⟩ : ∃ j,q=j+1:=⟨q - 1,by omega⟩
  have hj:j<lk.length:=by have:=hp.1;omega
  have hle:=hp.2.2 j hj rfl;have h1:cR key lk[j].1=false:=by
   unfold B.DD at hle;rw [Bool.or_eq_true] at hle;rcases hle with h | h
   ·exact mc h
   ·rw [oH] at h;rw [of_decide_eq_true h];exact mR key
  rcases bg i j with Ro | Ro
  ·have h2:=List.pairwise_iff_getElem.1 hs i j (by rw [az];omega) (by rw [az];omega) Ro
   rw [bZ,bZ] at h2;rw [bZ];cases h:cR key lk[i].1
   ·rfl
   ·rw [dh h h2] at h1;cases h1
  ·have e:i=j:=by omega
   subst e;rw [bZ];exact h1
 ·rw [List.head?_drop] at hk;obtain ⟨hq,hv⟩:=List.getElem?_eq_some_iff.1 hk;rw [az] at hq;rw [bZ] at hv;have hle:=hp.2.1 q hq (aj _);unfold B.DD at hle;rw [Bool.or_eq_false_iff] at hle;rw [← hv];cases h:cR key lk[q].1
  ·have:=ma (a:=key) (b:=lk[q].1) h hle.1;rw [oH] at hle;have:=of_decide_eq_false hle.2;exact absurd (by assumption:key=lk[q].1).symm this
  ·rfl
theorem lX{α:Type}{ks:List ByteArray}{cs:List α}{q:Nat}{c:α}(hl:cs.length=ks.length+1)(hc:cs[q]?=some c):ks=ks.take q++ks.drop q∧cs=cs.take q++c::cs.drop (q+1)∧(ks.take q).length=(cs.take q).length∧(cs.take q).length=q:=by
 obtain ⟨hq,hv⟩:=List.getElem?_eq_some_iff.1 hc;refine ⟨(aH q ks).symm,?_,?_,?_⟩
 ·rw [← hv,← aZ hq,aH]
 ·rw [ag,ag];omega
 ·rw [ag];omega
def FlS(d:S.V.bq)(key:ByteArray)(f:List Pr→List Pr)(w:World)(n:SN)(x:XT):Prop:=∃ t',aT (cM d) w x.1 n t'∧XF key f x.1 x.2 t'∧ft x.1 t'=0
theorem aT.yP{PG:Int→Option PD}{w:World}{h:Nat}{n:SN}{t:Nd h}(hn:aT PG w h n t):n.yP:=by
 cases h with
 | zero=>exact .inl (by rw [hn.1];rfl)
 | succ h=>exact hn.2.2.1
theorem aT.kind{PG:Int→Option PD}{w w':World}{h:Nat}{n m:SN}{t u:Nd h}(hn:aT PG w h n t)(hm:aT PG w' h m u):n.us.length=0↔m.us.length=0:=by
 cases h with
 | zero=>rw [hn.1,hm.1]
 | succ h=>exact ⟨fun e=>absurd (List.length_eq_zero_iff.1 e) hn.2.1,fun e=>absurd (List.length_eq_zero_iff.1 e) hm.2.1⟩
theorem Wr{d:S.V.bq}{key:ByteArray}{f:List Pr→List Pr}(W:World)(n:SN)(x:XT)(h:FlS d key f W n x):n.yP:=by
 obtain ⟨t',h1,_⟩:=h;exact h1.yP
theorem pq{PG:Int→Option PD}{w W:World}{h b:Nat}{n:SN}{t:Nd h}{pv lv cv:Value}(hn:aT PG w h n t)(hs:dH W b n pv lv cv):h=0∨3≤n.lk.length∨¬ 4072<n.sz:=by
 cases h with
 | zero=>exact .inl rfl
 | succ h =>
  right
  by_cases hb:4072<n.sz
  ·left
   rw [SN.Uc (fun e=>hn.2.1 (List.length_eq_zero_iff.1 e)),← vV] at hb
   have hm:=CA (l:=n.lk.map (·.1)) (fun k hk=>by
    obtain ⟨p,hp,rfl⟩:=List.mem_map.1 hk;exact hs.fine.2.2.1 p hp)
   rw [az] at hm;omega
  ·exact .inr hb
theorem ID{h:Nat}(a b:Nd h)(k:ByteArray):ft h (jd h a k b)=0:=by cases h <;> rfl
theorem zG{PG:Int→Option PD}{w:World}{h:Nat}{n:SN}{t:Nd h}(hn:aT PG w h n t):n.sz<n.min↔small h t:=by unfold small;rw [hn.sz,hn.min]
theorem A1{base:Nat}{A:Nat→Addr}{db:Nat}{F:Nat→Prop}{d:S.V.bq}(key:ByteArray)(f:List Pr→List Pr)(tb:Nat)(rv:Value)(W:World)(s:gz XT)(z:XT)(bb:Nat)(nb:SN)(pb lb cb:Value)(hv:Dv base A db F d W)(ht:B.au W tb #[.pointer (some ⟨db,0,none⟩),rv] 100)(cN:Rt (cX d) W s)(xD:¬ s.n.us.length=0)(B3:B.fE s.n.lk key s.at')(bN:s.at'<s.n.us.length)(oy:(cX d).sub s.x s.at' z)(hs:dH W bb nb pb lb cb)(iH:FlS d key f W nb z):Calls prog 82 #[.pointer (some ⟨tb,0,none⟩),.agg #[.pointer (some ⟨s.b,0,none⟩),.int .i64 (s.at':Int)],.pointer (some ⟨bb,0,none⟩)] W fun e w'=>UpS (cX d) A (FlS d key f) s.x e w'∧Dv base A db F d w'∧Mv db F W w':=by
 obtain ⟨⟨pv,lv,cv,SJ⟩,hn⟩:=cN;obtain ⟨b,n,i,⟨hh,t⟩⟩:=s;cases hh with
 | zero=>exact oy.elim
 | succ h =>
 obtain ⟨c,hc,rfl⟩:=oy;obtain ⟨hn,hg⟩:=hn;have hn:aT (cM d) W (h+1) n t:=hn;have hc:t.2.2[i]?=some c:=hc;obtain ⟨c',nL,Un,An⟩:=iH;have nL:aT (cM d) W h nb c':=nL;have Un:XF key f h c c':=Un;have An:ft h c'=0:=An;simp only at SJ xD B3 bN ⊢;have eC:=iD (x:=⟨h+1,t⟩) hn hg;have hlen:=hn.len;have b7:=eC.2.1;rw [SN.Uc xD] at b7;have h1:=eC.2.2.resolve_left xD;have Uy:=B.qU n.lk;have ju:t.2.1=n.lk.map (·.1):=hn.2.2.2.1;have cL:t.2.1.length=n.lk.length:=by rw [ju,az]
 have qN:t.2.2.length=t.2.1.length+1:=by rw [← hn.1,hlen,cL]
 obtain ⟨lo,hi,ho⟩:=hg.1;have oz:=jC ((fu h t lo hi).1 ho);rw [ju] at oz;obtain ⟨Re,Rb⟩:=mQ B3 oz;rw [← ju] at Re Rb;obtain ⟨e1,e2,el,ei⟩:=lX qN hc;have gM:=nL.yP;-- what is to be shown of a node that Hn makes
 have O3:∀ (w':World) (b':Nat) (n':SN) (p' l' c2:Value) (ks:List ByteArray) (cs:List (Nd h)),dH w' b' n' p' l' c2→aT (cM d) w' (h+1) n' (0,ks,cs)→BU h (t.2.1.take i) (t.2.1.drop i) (t.2.2.take i) c' (t.2.2.drop (i+1)) ks cs→UpS (cX d) A (FlS d key f) ⟨h+1,t⟩ (.returned (.tuple #[.pointer (some ⟨b',0,none⟩),.nilIface])) w':=by
  intro w' b' n' p' l' c2 ks cs g1 g2 g3;exact .inr ⟨b',n',p',l',c2,rfl,g1,(0,ks,cs),g2,⟨_,_,_,c,_,e1,e2,el,Re,Rb,c',ks,cs,Un,g3,rfl⟩,rfl⟩
 by_cases yV:nb.sz<nb.min
 ·have OZ:=(zG nL).1 yV;cases i with
  | zero =>
   obtain ⟨y,hy⟩ : ∃ y,t.2.2[1]?=some y:=⟨_,af (by omega)⟩
   obtain ⟨p,hp⟩ : ∃ p,n.us[1]?=some p:=⟨_,af (by omega)⟩
   refine (CK (cX d) tb rv b bb n nb pv lv cv pb lb cb ⟨h,y⟩ p W SJ hs bN hlen (by omega) (by omega) gM yV hp ⟨hn.qL hp hy,kX hg hy⟩ ht hv (.inr fun W' m hm=>(aT.kind (t:=y) (u:=c') hm.1 nL))).mono fun e w' hh=>⟨?_,hh.2⟩
   obtain ⟨hj,SG,hm'⟩:=hh;rcases hj with ⟨hE,_⟩ | ⟨b',w2,m,k,zz,bj,pj,lj,cj,rfl,lq,mf,lK,pQ,YM,yR⟩
   ·exact hE.elim
   ·have aw:=lq.cC hv;have lK:aT (cM d) w2 h m y:=lK.1;have Pd:=aT.cC aw (h+1) hn;have Pc:=aT.cC aw h nL;have ek:t.2.1=k::t.2.1.drop 1:=by
     have hx:t.2.1[0]?=some k:=by rw [ju,aM,mf];rfl
     obtain ⟨sd,vu⟩:=List.getElem?_eq_some_iff.1 hx;have:=aZ sd;rw [vu,List.drop_zero] at this;exact this
    have ec:t.2.2=c::y::t.2.2.drop 2:=by
     obtain ⟨sd,vu⟩:=List.getElem?_eq_some_iff.1 hc;obtain ⟨Xj,Xi⟩:=List.getElem?_eq_some_iff.1 hy;have a1:=aZ sd;have a2:=aZ Xj;rw [vu,List.drop_zero] at a1;rw [Xi] at a2;rw [← a2];exact a1
    have yW:=aT.set (C1:=[]) (C2:=y::t.2.2.drop 2) (c:=c) (x:=c') (p:=.nd bb) Pd ec ⟨An,nb,pb,lb,cb,hs.cC aw,Pc⟩ [] n.f;have SM:=aT.rem (K1:=[]) (K2:=t.2.1.drop 1) (C1:=[]) (C2:=t.2.2.drop 2) (a:=c') (b:=y) (k:=k) yW ek rfl rfl [] n.f;have Zy:=Ah (key:=k) Pc lK;obtain ⟨b2,n2,p2,l2,c2,ks,cs,he,g1,g2,g3,_⟩:=sD (K1:=[]) (K2:=t.2.1.drop 1) (C1:=[]) (C2:=t.2.2.drop 2) (c:=c') (x:=jd h c' k y) SM rfl rfl rfl Zy YM (ID _ _ _) (pq Zy YM) yR;cases he;refine O3 w' b' n2 p2 l2 c2 ks cs g1 g2 (.inr (.inl ⟨OZ,rfl,rfl,k,_,y,_,ek,?_,g3⟩));have:=congrArg (List.drop 1) ec;exact this
  | succ j =>
   obtain ⟨y,hy⟩ : ∃ y,t.2.2[j]?=some y:=⟨_,af (by omega)⟩
   obtain ⟨p,hp⟩ : ∃ p,n.us[j]?=some p:=⟨_,af (by omega)⟩
   have Av:=CL (cX d) tb rv b bb n nb pv lv cv pb lb cb j ⟨h,y⟩ p W SJ hs bN hlen (by omega) (by omega) gM yV hp ⟨hn.qL hp hy,kX hg hy⟩ ht hv (.inr fun W' m hm=>(aT.kind (t:=y) (u:=c') hm.1 nL))
   rw [show ((j+1:Nat):Int)=(j:Int)+1 by omega]
   refine Av.mono fun e w' hh=>⟨?_,hh.2⟩
   obtain ⟨hj,SG,hm'⟩:=hh;rcases hj with ⟨hE,_⟩ | ⟨b',w2,m,k,zz,bj,pj,lj,cj,rfl,lq,mf,lK,pQ,YM,yR⟩
   ·exact hE.elim
   ·have aw:=lq.cC hv;have lK:aT (cM d) w2 h m y:=lK.1;have Pd:=aT.cC aw (h+1) hn;have Pc:=aT.cC aw h nL;have hx:t.2.1[j]?=some k:=by rw [ju,aM,mf];rfl
    have ek1:t.2.1.take (j+1)=t.2.1.take j++[k]:=by rw [gm,hx];rfl
    have ec1:t.2.2.take (j+1)=t.2.2.take j++[y]:=by rw [gm,hy];rfl
    have ek:t.2.1=t.2.1.take j++k::t.2.1.drop (j+1):=by
     have:=e1;rw [ek1,ax] at this;exact this
    have lj1:(t.2.1.take j).length=(t.2.2.take j).length:=by rw [ag,ag];omega
    have lj2:(t.2.2.take j).length=j:=by rw [ag];omega
    have yW:=aT.set (C1:=t.2.2.take (j+1)) (C2:=t.2.2.drop (j+1+1)) (c:=c) (x:=c') (p:=.nd bb) Pd e2 ⟨An,nb,pb,lb,cb,hs.cC aw,Pc⟩ [] n.f;rw [ei] at yW;have SM:=aT.rem (K1:=t.2.1.take j) (K2:=t.2.1.drop (j+1)) (C1:=t.2.2.take j) (C2:=t.2.2.drop (j+1+1)) (a:=y) (b:=c') (k:=k) yW ek (by show t.2.2.take (j+1)++c'::_=_;rw [ec1,ax];rfl) lj1 [] n.f
    rw [lj2] at SM;have Zy:=Ah (key:=k) lK Pc;have VL:mu w2 ⟨[],n.f,B.cA n.lk j,C.cA (n.us.set (j+1) (.nd bb)) (j+1)⟩ (t.2.2.take j).length bj (m.join k nb) (.returned (.pointer (some ⟨b',0,none⟩))) w':=by rw [lj2];exact yR
    obtain ⟨b2,n2,p2,l2,c2,ks,cs,he,g1,g2,g3,_⟩:=sD (K1:=t.2.1.take j) (K2:=t.2.1.drop (j+1)) (C1:=t.2.2.take j) (C2:=t.2.2.drop (j+1+1)) (c:=y) (x:=jd h y k c') SM rfl rfl lj1 Zy YM (ID _ _ _) (pq Zy YM) VL;cases he;exact O3 w' b' n2 p2 l2 c2 ks cs g1 g2 (.inr (.inr ⟨OZ,_,k,_,y,ek1,ec1,g3⟩))
 ·refine (A2 A tb b bb n nb pv lv cv pb lb cb i W SJ hs bN hlen (by omega) gM yV hv.zf).mono fun e w' hh=>?_
  obtain ⟨b',rfl,yR⟩:=hh;have bO:=yR.below;have VL:mu W n (t.2.2.take i).length bb nb (.returned (.pointer (some ⟨b',0,none⟩))) w':=by rw [ei];exact yR
  obtain ⟨b2,n2,p2,l2,c2,ks,cs,he,g1,g2,g3,_⟩:=sD hn e1 e2 el nL hs An (pq nL hs) VL;cases he;exact ⟨O3 w' b' n2 p2 l2 c2 ks cs g1 g2 (.inl ⟨fun h=>yV ((zG nL).2 h),g3⟩),hv.below bO,Mv.of bO⟩
theorem El{h:Nat}{cs:List (Nd h)}(hl:2≤cs.length)(hc:∀ c ∈ cs,2 ^ h≤(flat h c).length):2 ^ (h+1)≤(cs.flatMap (flat h)).length:=by
 match cs,hl,hc with
 | a::b::cs,_,hc =>
  have h1:=hc a (by simp)
  have h2:=hc b (by simp)
  rw [List.flatMap_cons,List.flatMap_cons,ae,ae,Nat.pow_succ];omega
theorem rj:∀ (h:Nat) {t:Nd h} {lo hi:Option ByteArray},kO h t lo hi→2 ^ h≤(flat h t).length
 | 0,t,_,_,ho=>by
  have h1:wZ 0≤fR t.2:=ho.2.1;show 1≤t.2.length
  cases ht:t.2 with
  | nil=>rw [ht] at h1;simp [wZ,qT] at h1
  | cons _ _=>simp
 | h+1,t,lo,hi,ho=>by
  have hc:=(fu h t lo hi).1 ho.1;have hl:=jO hc;have h1:1777≤fB t.2.1:=ho.2.1;refine El (h:=h) (cs:=t.2.2) ?_ fun c hm=>?_
  ·cases hk:t.2.1 with
   | nil=>rw [hk] at h1;have:fB []=6:=rfl;omega
   | cons _ _=>rw [hk,List.length_cons] at hl;omega
  ·obtain ⟨i,mh,rfl⟩:=aQ hm;obtain ⟨pz,uS,hf⟩:=kD hc i _ (af mh);exact rj h hf
theorem zL{h:Nat}{t:Nd h}(hr:eP (some ⟨h,t⟩)):2 ^ h≤(flat h t).length:=by
 obtain ⟨ho,_,h1⟩:=hr;cases h with
 | zero =>
  show 1≤t.2.length
  have h1:t.2≠[]:=h1;exact List.length_pos_iff.2 h1
 | succ h =>
  have h1:t.2.1≠[]:=h1;have hc:=(fu h t none none).1 ho;have hl:=jO hc;have:=List.length_pos_iff.2 h1;refine El (h:=h) (cs:=t.2.2) (by omega) fun c hm=>?_
  obtain ⟨i,mh,rfl⟩:=aQ hm;obtain ⟨pz,uS,hf⟩:=kD hc i _ (af mh);exact rj h hf
theorem kT{h:Nat}{t:Nd h}(hr:eP (some ⟨h,t⟩))(hn:(flat h t).length≤4611686018427387904):h+1≤64:=by
 have h1:=zL hr;have h2:2 ^ h≤2 ^ 62:=ar h1 (by omega)
 have:=(Nat.pow_le_pow_iff_right (by omega:1<2)).1 h2
 omega
theorem iL{h:Nat}{t:Nd h}(hr:eP (some ⟨h,t⟩)):jl ⟨h,t⟩:=by
 obtain ⟨ho,hs,h1⟩:=hr;cases h with
 | zero=>exact ⟨⟨none,none,ho⟩,hs⟩
 | succ h=>exact ⟨⟨none,none,ho⟩,hs,List.length_pos_iff.2 h1⟩
section
variable {PG:Int→Option PD} {w:World} {tb:Nat} {q:Option Addr} {rv:Value}
theorem aT.tree(ht:B.au w tb #[.pointer q,rv] 100)(xC:rv = .nilIface∨∃ t x,rv = .iface t x)(u:Value):∀ (h:Nat) {n:SN} {t:Nd h},aT PG w h n t→jl ⟨h,t⟩→aT PG (w.setCell ⟨tb,1,none⟩ u) h n t
 | 0,_,_,hn,_=>hn
 | h+1,n,t,hn,hg=>⟨hn.1,hn.2.1,hn.2.2.1,hn.2.2.2.1,fun i p c h1 h2=>by
  have hk:=hn.2.2.2.2 i p c h1 h2;have UG:=kX hg h2;cases p with
  | pg id=>exact hk
  | nd b =>
   obtain ⟨h0,m,pv,lv,cv,hs,hm⟩:=hk;exact ⟨h0,m,pv,lv,cv,hs.tree (iD (x:=⟨h,c⟩) hm UG).kids ht xC u,aT.tree ht xC u h hm UG⟩⟩
theorem eh.tree(ht:B.au w tb #[.pointer q,rv] 100)(xC:rv = .nilIface∨∃ t x,rv = .iface t x)(u:Value){h:Nat}{p:C.Ch}{t:Nd h}(hk:eh PG w h p t)(hg:jl ⟨h,t⟩):eh PG (w.setCell ⟨tb,1,none⟩ u) h p t:=by
 cases p with
 | pg id=>exact hk
 | nd b =>
  obtain ⟨h0,m,pv,lv,cv,hs,hm⟩:=hk;exact ⟨h0,m,pv,lv,cv,hs.tree (iD (x:=⟨h,t⟩) hm hg).kids ht xC u,hm.tree ht xC u h hg⟩
theorem ez.tree(ht:B.au w tb #[.pointer q,rv] 100)(xC:rv = .nilIface∨∃ t x,rv = .iface t x)(u:Value){v:Value}{r:ch}(hr:ez PG w v r)(cN:eP r):ez PG (w.setCell ⟨tb,1,none⟩ u) v r:=by
 rcases hr with h | ⟨p,h,t,e1,rfl,hk⟩
 ·exact .inl h
 ·exact .inr ⟨p,h,t,e1,rfl,hk.tree ht xC u (iL cN)⟩
end
theorem ez.cC{PG:Int→Option PD}{w w':World}{v:Value}{r:ch}(hr:ez PG w v r)(ha:cP w w'):ez PG w' v r:=by
 rcases hr with h | ⟨p,h,t,e1,e2,hk⟩
 ·exact .inl h
 ·exact .inr ⟨p,h,t,e1,e2,hk.cC ha⟩
theorem ez.form{PG:Int→Option PD}{w:World}{v:Value}{r:ch}(hr:ez PG w v r):v = .nilIface∨∃ t x,v = .iface t x:=by
 rcases hr with ⟨h,_⟩ | ⟨p,_,_,h,_⟩
 ·exact .inl h
 ·exact .inr (h▸bM p)
theorem Is{F:Nat→Prop}{tb:Nat}{w w':World}(h:S.V.Step F F w w'):S.V.Step (fun k=>F k∨k=tb) (fun k=>F k∨k=tb) w w':=⟨h.os,h.tape,h.output,h.size,fun k hk hn=>h.block k hk (fun e=>hn (.inl e)),fun _ h=>.inl h⟩
theorem Dv.own{base:Nat}{A:Nat→Addr}{db:Nat}{F:Nat→Prop}{d:S.V.bq}{w:World}(h:Dv base A db F d w):F db:=by
 obtain ⟨_,_,_,_,_,_,_,hb⟩:=h.dev;exact hb.fb
structure Ts(base:Nat)(A:Nat→Addr)(db:Nat)(F:Nat→Prop)(d:S.V.bq)(W0 w:World)(tb:Nat)(r:ch):Prop where
 dv:Dv base A db F d w
 tr:∃ rv,B.au w tb #[.pointer (some ⟨db,0,none⟩),rv] 100∧ez (cM d) w rv r
 ok:eP r
 st:S.V.Step (fun k=>k=db∨k=tb) (fun k=>k=db∨k=tb) W0 w
 lo:base≤tb∧¬ F tb
section
variable {base:Nat} {A:Nat→Addr} {db:Nat} {F:Nat→Prop} {d:S.V.bq} {W0:World} {r:ch}
theorem Ts.mv{w w':World}{tb:Nat}(h:Ts base A db F d W0 w tb r)(hm:Mv db F w w')(hv:Dv base A db F d w'):Ts base A db F d W0 w' tb r:=by
 obtain ⟨rv,h1,h2⟩:=h.tr;exact ⟨hv,⟨rv,dU (hm.cC h.dv) h1,h2.cC (hm.cC h.dv)⟩,h.ok,h.st.trans (Is hm.one),h.lo⟩
theorem Ts.below{w w':World}{tb:Nat}(h:Ts base A db F d W0 w tb r)(hb:Below w.heap.size w w'):Ts base A db F d W0 w' tb r:=h.mv (Mv.of hb) (h.dv.below hb)
theorem Ts.root{w W2:World}{tb:Nat}{u rv:Value}{r':ch}(h:Ts base A db F d W0 w tb r)(hm:Mv db F w W2)(km:Dv base A db F d W2)(sX:B.au W2 tb #[.pointer (some ⟨db,0,none⟩),rv] 100)(xC:rv = .nilIface∨∃ t x,rv = .iface t x)(hr:ez (cM d) W2 u r')(cN:eP r'):Ts base A db F d W0 (W2.setCell ⟨tb,1,none⟩ u) tb r':=by
 refine ⟨km.tree h.lo.1 h.lo.2 1 u,⟨u,B.au.one sX u,hr.tree sX xC u cN⟩,cN,?_,h.lo⟩;have h1:=h.st.trans (Is hm.one);have hs:=bJ.set tb 1 W2 u;exact ⟨hs.os.trans h1.os,hs.tape.trans h1.tape,hs.output.trans h1.output,ar h1.size hs.size,fun k hk hn=>(hs.block k (aq hk h1.size) (fun e=>hn (.inr e))).trans (h1.block k hk hn),fun _ h=>.inl h⟩
theorem BK{w w1:World}{tb:Nat}{pv:Value}(key:ByteArray)(f:List Pr→List Pr)(hf:Go.Proofs.YtihmgigfkmofnaaGreatDoor.Fit key f)(h:Ts base A db F d W0 w tb none)(hm:Mv db F w w1)(hv:Dv base A db F d w1)(ht:B.au w1 tb #[.pointer (some ⟨db,0,none⟩),.nilIface] 100)(hp:gG w1 pv (f [])):Calls prog 47 #[.pointer (some ⟨tb,0,none⟩),.slice none 0 0,pv] w1 fun e w'=>e = .returned .nilIface∧∃ r',tu key f none r'∧Ts base A db F d W0 w' tb r':=by
 have b7:=hf.size [];rw [qT] at b7;have hl:=iw (f []);have sZ:∀ p ∈ f [],cO p=true:=fun p hp=>by
  rcases hf.mem [] p hp with h | h
  ·simp at h
  ·exact h.2
 have hc:=xX (noS d) (fun _ _=>True) (fun _ n _=>n=⟨f [],0,[],[]⟩) (fun _ n _ h=>by subst h;exact .inl rfl) tb .nilIface none 0 [] [] () () pv (f []) w w1 (.inl ⟨rfl,rfl⟩) (by simp) (tv.nil _ _) rfl hp ⟨sZ,by omega⟩ (fun _=>rfl) ht hv h.dv hm (fun W s z bb nb pb lb cb _ _ cN=>(cN.2:False).elim)
 refine hc.mono fun e w' hh=>?_
 rcases hh with ⟨hE,_⟩ | ⟨W,W2,b,n,pn,ln,cn,u,he,hs,hn,hr,km,lq,sX,rfl⟩
 ·exact (hE:False).elim
 ·subst hn;obtain ⟨v,r',e1,g1,g2,_⟩:=zM (PG:=cM d) (h:=0) (t:=(0,f [])) ⟨rfl,rfl⟩ hs rfl (.inl rfl) hr;cases e1;exact ⟨he,r',g2,h.root lq km sX (.inl rfl) g1 (oO hf (r:=none) trivial g2).1⟩
theorem rR{w w1:World}{tb:Nat}{a:Option Addr}{c:Nat}{ss:List (gz XT)}{s:gz XT}{rv pv:Value}{x:XT}{t0:Nd 0}(key:ByteArray)(f:List Pr→List Pr)(hf:Go.Proofs.YtihmgigfkmofnaaGreatDoor.Fit key f)(h:Ts base A db F d W0 w tb (some x))(hm:Mv db F w w1)(hv:Dv base A db F d w1)(ht:B.au w1 tb #[.pointer (some ⟨db,0,none⟩),rv] 100)(xC:rv = .nilIface∨∃ t x,rv = .iface t x)(dC:ss.length≤64)(ho:tv w1 w.heap.size (.slice a (ss.length+1) c) (ss.map gz.lk++[s.lk]))(jf:Way (cX d) (fun n q=>B.fE n.lk key q) w1 x ss ⟨0,t0⟩)(b7:fR t0.2≤4072)(SU:∀ p ∈ t0.2,cO p=true)(hp:gG w1 pv (f t0.2)):Calls prog 47 #[.pointer (some ⟨tb,0,none⟩),.slice a (ss.length+1) c,pv] w1 fun e w'=>e = .returned .nilIface∧∃ r',tu key f (some x) r'∧Ts base A db F d W0 w' tb r':=by
 have kn:=hf.size t0.2;have hl:=iw (f t0.2);have sZ:∀ p ∈ f t0.2,cO p=true:=fun p hp=>by
  rcases hf.mem _ p hp with h | h
  ·exact SU p h
  ·exact h.2
 have hL:(ss.map gz.lk++[s.lk]).length=ss.length+1:=by simp
 have hc:=xX (cX d) (fun n q=>B.fE n.lk key q) (FlS d key f) Wr tb rv a c (ss.map gz.lk++[s.lk]) ss x ⟨0,t0⟩ pv (f t0.2) w w1 (.inr ⟨_,rfl⟩) dC (by rw [hL];exact ho) jf hp ⟨sZ,by omega⟩ (fun W=>⟨(0,f t0.2),⟨rfl,rfl⟩,rfl,rfl⟩) ht hv h.dv hm (fun W s z bb nb pb lb cb h1 h2 h3 h4 h5 h6 h7 h8 h9=>A1 key f tb rv W s z bb nb pb lb cb h1 h2 h3 h4 h5 h6 h7 h8 h9)
 rw [hL] at hc;refine hc.mono fun e w' hh=>?_
 rcases hh with ⟨hE,_⟩ | ⟨W,W2,b,n,pn,ln,cn,u,he,hs,⟨t',hn,hu,An⟩,hr,km,lq,sX,rfl⟩
 ·exact (hE:False).elim
 ·obtain ⟨v,r',e1,g1,g2,_⟩:=zM hn hs An (pq hn hs) hr;cases e1;have Un:tu key f (some x) r':=⟨t',hu,g2⟩;exact ⟨he,r',Un,h.root lq km sX xC g1 (oO hf h.ok Un).1⟩
end
end T
def cY(n:Nat):List Nat:=if n=0 then [] else [n]
def dB:(h:Nat)→Nd h→List Nat
 | 0,t=>cY t.1
 | h+1,t=>cY t.1++t.2.2.flatMap (dB h)
def NZ:(h:Nat)→Nd h→List Nat
 | 0,_=>[]
 | h+1,t=>t.2.2.flatMap (dB h)
theorem l7(h:Nat)(t:Nd h):(NZ h t).Sublist (dB h t):=by
 cases h with
 | zero=>exact List.nil_sublist _
 | succ h=>exact dz _ _
theorem C6(h:Nat)(a b:Nd h)(k:ByteArray):dB h (jd h a k b)=NZ h a++NZ h b:=by
 cases h with
 | zero=>rfl
 | succ h=>simp [dB,NZ,jd,cY]
theorem II{h:Nat}{x a b:Nd h}{k:ByteArray}(hc:Cut h x a k b):dB h a++dB h b=NZ h x:=by
 obtain ⟨i,_,hc⟩:=hc;cases h with
 | zero =>
  obtain ⟨rfl,rfl,_⟩:=hc;rfl
 | succ h =>
  obtain ⟨rfl,rfl,_⟩:=hc;show (cY 0++(x.2.2.take (i+1)).flatMap (dB h))++(cY 0++(x.2.2.drop (i+1)).flatMap (dB h))=x.2.2.flatMap (dB h)
  rw [show cY 0=[] from rfl,List.nil_append,List.nil_append,← aR,aH]
theorem wJ{h:Nat}{A B ks:List ByteArray}{C1 C2 cs:List (Nd h)}{x:Nd h}(hw:Hn h A B C1 x C2 ks cs):(cs.flatMap (dB h)).Sublist (C1.flatMap (dB h)++(dB h x++C2.flatMap (dB h))):=by
 rcases hw with ⟨_,_,rfl⟩ | ⟨_,a,k,b,hc,_,rfl⟩
 ·simp
 ·rw [aR,List.flatMap_cons,List.flatMap_cons,← ax (dB h a),II hc];exact List.Sublist.append_left (List.Sublist.append_right (l7 h x) _) _
theorem F7{h:Nat}{A B ks:List ByteArray}{C1 C2 cs:List (Nd h)}{x:Nd h}(hs:BU h A B C1 x C2 ks cs):(cs.flatMap (dB h)).Sublist (C1.flatMap (dB h)++(dB h x++C2.flatMap (dB h))):=by
 rcases hs with ⟨_,hw⟩ | ⟨_,rfl,rfl,k,B',b,C2',rfl,rfl,hw⟩ | ⟨_,A',k,C1',a,rfl,rfl,hw⟩
 ·exact wJ hw
 ·refine (wJ hw).trans ?_
  rw [C6,List.flatMap_cons,ax];exact List.Sublist.append_left (List.Sublist.append (l7 h x) (List.Sublist.append_right (l7 h b) _)) _
 ·refine (wJ hw).trans ?_
  rw [C6,aR,ax,ax,List.flatMap_cons,List.flatMap_nil,List.append_nil];exact List.Sublist.append_left (List.Sublist.append (l7 h a) (List.Sublist.append_right (l7 h x) _)) _
theorem IE{key:ByteArray}{f:List Pr→List Pr}:∀ (h:Nat) {t t':Nd h},XF key f h t t'→(dB h t').Sublist (dB h t)
 | 0,t,t',hu=>by
  have hu:t'=(0,f t.2):=hu;subst hu;exact List.nil_sublist _
 | h+1,t,t',hu=>by
  obtain ⟨A,B,C1,c,C2,_,e2,_,_,_,c',ks,cs,hc,hs,rfl⟩:=hu;show (cY 0++cs.flatMap (dB h)).Sublist (cY t.1++t.2.2.flatMap (dB h))
  rw [show cY 0=[] from rfl,List.nil_append,e2,aR,List.flatMap_cons]
  exact (F7 hs).trans ((List.Sublist.append_left (List.Sublist.append_right (IE h hc) _) _).trans (dz _ _))
def eB:ch→List Nat
 | none=>[]
 | some r=>dB r.1 r.2
theorem wL{h:Nat}{t:Nd h}{r:ch}(hr:tw h t r):(eB r).Sublist (dB h t):=by
 rcases hr with ⟨_,a,k,b,hc,rfl⟩ | ⟨_,_,rfl⟩ | ⟨_,_,hr⟩
 ·show (cY 0++[a,b].flatMap (dB h)).Sublist _
  rw [show cY 0=[] from rfl,List.nil_append,List.flatMap_cons,List.flatMap_cons,List.flatMap_nil,List.append_nil,II hc]
  exact l7 h t
 ·exact List.Sublist.refl _
 ·cases h with
  | zero =>
   have hr:r=none:=hr;subst hr;exact List.nil_sublist _
  | succ h =>
   obtain ⟨c,e,rfl⟩:=hr;show (dB h c).Sublist (cY t.1++t.2.2.flatMap (dB h))
   rw [e,List.flatMap_cons,List.flatMap_nil,List.append_nil];exact dz _ _
theorem C5{key:ByteArray}{f:List Pr→List Pr}{r r':ch}(hu:tu key f r r'):(eB r').Sublist (eB r):=by
 cases r with
 | none=>exact wL (h:=0) (t:=(0,f [])) hu
 | some r =>
  obtain ⟨t',h1,h2⟩:=hu;exact (wL h2).trans (IE r.1 h1)
namespace T
open Go.RowKit
def iX:(h:Nat)→Nd h→Nat
 | 0,t=>if t.1=0 then 1 else 0
 | h+1,t=>if t.1=0 then (t.2.2.map (iX h)).sum+1 else 0
def bY{α β γ:Type}(g:α→Nat→β × List γ):List α→Nat→List β × List γ
 | [],_=>([],[])
 | c::cs,k=>((g c k).1::(bY g cs (k+(g c k).2.length)).1,(g c k).2++(bY g cs (k+(g c k).2.length)).2)
def lN{h:Nat}:List (Nd h)→Int
 | []=>0
 | c::_=>(ft h c:Int)
def qj{h:Nat}(ks:List ByteArray)(cs:List (Nd h)):List B.Lk:=ks.zip (cs.tail.map fun c=>(ft h c:Int))
def aW(P:Nat→Nat):(h:Nat)→Nd h→Nat→Nd h × List (Nat × PD)
 | 0,t,k=>if t.1=0 then ((P k,t.2),[(P k,.leaf t.2)]) else (t,[])
 | h+1,t,k=>if t.1=0 then ((P (k+(bY (aW P h) t.2.2 k).2.length),t.2.1,(bY (aW P h) t.2.2 k).1),(bY (aW P h) t.2.2 k).2++[(P (k+(bY (aW P h) t.2.2 k).2.length),.br (lN (bY (aW P h) t.2.2 k).1) (qj t.2.1 (bY (aW P h) t.2.2 k).1))]) else (t,[])
theorem ik{α β γ:Type}(g:α→Nat→β × List γ):∀ (cs:List α) (k:Nat),(bY g cs k).1.length=cs.length
 | [],_=>rfl
 | c::cs,k=>by
  show (bY g cs (k+(g c k).2.length)).1.length+1=cs.length+1
  rw [ik g cs]
theorem rA{α β γ:Type}(g:α→Nat→β × List γ):∀ (cs:List α) (k i:Nat) (c:α),cs[i]?=some c→∃ ki,(bY g cs k).1[i]?=some (g c ki).1∧∀ x ∈ (g c ki).2,x ∈ (bY g cs k).2
 | [],_,i,c,h=>by simp at h
 | c0::cs,k,0,c,h=>by
  cases h;exact ⟨k,rfl,fun x hx=>dR _ hx⟩
 | c0::cs,k,i+1,c,h=>by
  obtain ⟨ki,h1,h2⟩:=rA g cs (k+(g c0 k).2.length) i c h;exact ⟨ki,h1,fun x hx=>cd _ (h2 x hx)⟩
theorem rB{h:Nat}{P:Nat→Nat}(ih:∀ (t:Nd h) (k:Nat),(aW P h t k).2.length=iX h t):∀ (cs:List (Nd h)) (k:Nat),(bY (aW P h) cs k).2.length=(cs.map (iX h)).sum
 | [],_=>rfl
 | c::cs,k=>by
  show ((aW P h c k).2++(bY (aW P h) cs (k+(aW P h c k).2.length)).2).length=iX h c+(cs.map (iX h)).sum
  rw [ae,ih,rB ih cs]
theorem oX{P:Nat→Nat}:∀ (h:Nat) (t:Nd h) (k:Nat),(aW P h t k).2.length=iX h t
 | 0,t,k=>by
  by_cases h0:t.1=0
  ·simp [aW,iX,h0]
  ·simp [aW,iX,h0]
 | h+1,t,k=>by
  by_cases h0:t.1=0
  ·simp [aW,iX,h0,rB (oX h)]
  ·simp [aW,iX,h0]
def pB(P:Nat→Nat)(k n:Nat):List Nat:=(List.range n).map fun j=>P (k+j)
theorem sV(P:Nat→Nat)(k n:Nat):pB P k (n+1)=pB P k n++[P (k+n)]:=by
 unfold pB;rw [List.range_succ,bt];rfl
theorem DU(P:Nat→Nat)(k m:Nat):∀ n,pB P k (m+n)=pB P k m++pB P (k+m) n
 | 0=>by simp [pB]
 | n+1=>by
  rw [← dJ,sV,DU P k m n,sV,ax,dJ]
theorem DM{h:Nat}{P:Nat→Nat}(ih:∀ (t:Nd h) (k:Nat),(aW P h t k).2.map (·.1)=pB P k (aW P h t k).2.length):∀ (cs:List (Nd h)) (k:Nat),(bY (aW P h) cs k).2.map (·.1)=pB P k (bY (aW P h) cs k).2.length
 | [],_=>rfl
 | c::cs,k=>by
  show ((aW P h c k).2++(bY (aW P h) cs (k+(aW P h c k).2.length)).2).map (·.1)=pB P k ((aW P h c k).2++(bY (aW P h) cs (k+(aW P h c k).2.length)).2).length
  rw [bt,ih,DM ih cs,ae,DU]
theorem Bi{P:Nat→Nat}:∀ (h:Nat) (t:Nd h) (k:Nat),(aW P h t k).2.map (·.1)=pB P k (aW P h t k).2.length
 | 0,t,k=>by
  by_cases h0:t.1=0
  ·simp [aW,h0,pB]
  ·simp [aW,h0,pB]
 | h+1,t,k=>by
  by_cases h0:t.1=0
  ·have:=DM (Bi (P:=P) h) t.2.2 k;simp only [aW,h0,if_true,bt,ae,List.map_cons,List.map_nil,List.length_cons,List.length_nil];rw [this,Nat.zero_add,sV]
  ·simp [aW,h0,pB]
theorem Af{h:Nat}{P:Nat→Nat}(ih:∀ (t:Nd h) (k:Nat),flat h (aW P h t k).1=flat h t):∀ (cs:List (Nd h)) (k:Nat),(bY (aW P h) cs k).1.flatMap (flat h)=cs.flatMap (flat h)
 | [],_=>rfl
 | c::cs,k=>by
  show ((aW P h c k).1::(bY (aW P h) cs (k+(aW P h c k).2.length)).1).flatMap (flat h)=_
  rw [List.flatMap_cons,List.flatMap_cons,ih,Af ih cs]
theorem DK{P:Nat→Nat}:∀ (h:Nat) (t:Nd h) (k:Nat),flat h (aW P h t k).1=flat h t
 | 0,t,k=>by
  by_cases h0:t.1=0
  ·simp [aW,h0,flat]
  ·simp [aW,h0]
 | h+1,t,k=>by
  by_cases h0:t.1=0
  ·have:=Af (DK (P:=P) h) t.2.2 k;simp only [aW,h0,if_true];exact this
  ·simp [aW,h0]
theorem Bh{P:Nat→Nat}(h:Nat)(t:Nd h)(k:Nat):np h (aW P h t k).1=np h t:=by
 cases h with
 | zero =>
  by_cases h0:t.1=0
  ·simp [aW,h0,np]
  ·simp [aW,h0]
 | succ h =>
  by_cases h0:t.1=0
  ·simp [aW,h0,np]
  ·simp [aW,h0]
theorem OG{P:Nat→Nat}(h:Nat)(t:Nd h)(k:Nat)(hs:vZ h t):vZ h (aW P h t k).1:=by
 cases h with
 | zero =>
  by_cases h0:t.1=0
  ·simp only [aW,h0,if_true];exact hs
  ·simp only [aW,h0,if_false];exact hs
 | succ h =>
  by_cases h0:t.1=0
  ·simp only [aW,h0,if_true];exact hs
  ·simp only [aW,h0,if_false];exact hs
theorem vr{h:Nat}{P:Nat→Nat}(ih:∀ (t:Nd h) (k:Nat) (lo hi:Option ByteArray),kO h t lo hi→kO h (aW P h t k).1 lo hi):∀ (cs:List (Nd h)) (ks:List ByteArray) (k:Nat) (lo hi:Option ByteArray),gR (kO h) lo hi ks cs→gR (kO h) lo hi ks (bY (aW P h) cs k).1
 | [],ks,_,_,_,ho=>by cases ks <;> simp [gR] at ho
 | [c],[],k,lo,hi,ho=>by
  have ho:kO h c lo hi:=ho;exact ih c k lo hi ho
 | [_],[_],_,_,_,ho=>by simp [gR] at ho
 | [_],_::_::_,_,_,_,ho=>by simp [gR] at ho
 | _::_::_,[],_,_,_,ho=>by simp [gR] at ho
 | c::d::cs,k0::ks,k,lo,hi,ho=>by
  obtain ⟨h1,h2,h3,h4⟩:=ho;have:=vr ih (d::cs) ks (k+(aW P h c k).2.length) (some k0) hi h4;exact ⟨h1,h2,ih c k _ _ h3,this⟩
theorem ql{P:Nat→Nat}:∀ (h:Nat) (t:Nd h) (k:Nat) (lo hi:Option ByteArray),Ok h t lo hi→Ok h (aW P h t k).1 lo hi
 | 0,t,k,lo,hi,ho=>by
  by_cases h0:t.1=0
  ·simp only [aW,h0,if_true];exact ho
  ·simp only [aW,h0,if_false];exact ho
 | h+1,t,k,lo,hi,ho=>by
  by_cases h0:t.1=0
  ·simp only [aW,h0,if_true];exact vr (fun t k lo hi hf=>⟨ql h t k lo hi hf.1,by unfold Full;rw [Bh];exact hf.2⟩) t.2.2 t.2.1 k lo hi ho
  ·simp only [aW,h0,if_false];exact ho
theorem Ae{h:Nat}{P:Nat→Nat}(ih:∀ (t:Nd h) (k:Nat),(dB h (aW P h t k).1).Perm (dB h t++(aW P h t k).2.map (·.1))):∀ (cs:List (Nd h)) (k:Nat),((bY (aW P h) cs k).1.flatMap (dB h)).Perm (cs.flatMap (dB h)++(bY (aW P h) cs k).2.map (·.1))
 | [],_=>List.Perm.refl _
 | c::cs,k=>by
  show (dB h (aW P h c k).1++(bY (aW P h) cs (k+(aW P h c k).2.length)).1.flatMap (dB h)).Perm ((dB h c++cs.flatMap (dB h))++((aW P h c k).2++(bY (aW P h) cs (k+(aW P h c k).2.length)).2).map (·.1))
  rw [bt];refine ((ih c k).append (Ae ih cs _)).trans ?_
  rw [ax,ax];refine List.Perm.append_left _ ?_
  rw [← ax,← ax];exact List.Perm.append_right _ List.perm_append_comm
theorem DH{P:Nat→Nat}(hP:∀ j,P j≠0):∀ (h:Nat) (t:Nd h) (k:Nat),(dB h (aW P h t k).1).Perm (dB h t++(aW P h t k).2.map (·.1))
 | 0,t,k=>by
  by_cases h0:t.1=0
  ·simp only [aW,h0,if_true,dB,cY,hP,if_false];exact List.Perm.refl _
  ·simp only [aW,h0,if_false,List.map_nil,List.append_nil];exact List.Perm.refl _
 | h+1,t,k=>by
  by_cases h0:t.1=0
  ·have:=Ae (DH hP h) t.2.2 k;simp only [aW,h0,if_true,dB,cY,hP,if_false,List.nil_append,bt,List.map_cons,List.map_nil];rw [← ax];exact (List.perm_append_comm).trans (List.Perm.append_right _ this)
  ·simp only [aW,h0,if_false,List.map_nil,List.append_nil];exact List.Perm.refl _
theorem DI{P:Nat→Nat}(hP:∀ j,P j≠0)(h:Nat)(t:Nd h)(k:Nat):ft h (aW P h t k).1≠0:=by
 cases h with
 | zero =>
  by_cases h0:t.1=0
  ·simp only [aW,h0,if_true];exact hP _
  ·simp only [aW,h0,if_false];exact h0
 | succ h =>
  by_cases h0:t.1=0
  ·simp only [aW,h0,if_true];exact hP _
  ·simp only [aW,h0,if_false];exact h0
theorem EF{h:Nat}{t:Nd h}(hp:ft h t≠0):iX h t=0:=by
 cases h with
 | zero=>exact if_neg hp
 | succ h=>exact if_neg hp
theorem Ig{d:S.V.bq}{key:ByteArray}{w:World}{l:List Pr}:∀ {ss:List (gz XT)} {x y:XT},Way (cX d) (fun n q=>B.fE n.lk key q) w x ss y→Go.Proofs.YtihmgigfkmofnaaGreatDoor.Way key y.1 y.2 l→Go.Proofs.YtihmgigfkmofnaaGreatDoor.Way key x.1 x.2 l
 | [],_,_,h,hw=>by
  have h:_=_:=h;subst h;exact hw
 | s::ss,x,y,⟨h1,h2,h3,h4,h5,z,h6,h7⟩,hw=>by
  have ih:=Ig h7 hw;subst h1;obtain ⟨b,n,i,⟨hh,t⟩⟩:=s;cases hh with
  | zero=>exact h6.elim
  | succ h =>
   obtain ⟨c,hc,rfl⟩:=h6;obtain ⟨_,hn,hg⟩:=h2;have hn:aT (cM d) w (h+1) n t:=hn;have hc:t.2.2[i]?=some c:=hc;have ju:t.2.1=n.lk.map (·.1):=hn.2.2.2.1;have qN:t.2.2.length=t.2.1.length+1:=by rw [← hn.1,hn.len,ju,az]
   obtain ⟨lo,hi,ho⟩:=hg.1;have oz:=jC ((fu h t lo hi).1 ho);rw [ju] at oz;obtain ⟨Re,Rb⟩:=mQ h4 oz;simp only at Re Rb;rw [← ju] at Re Rb;obtain ⟨e1,e2,el,ei⟩:=lX qN hc;exact ⟨_,_,_,c,_,e1,e2,el,Re,Rb,ih⟩
def TK(d:S.V.bq)(key:ByteArray)(r:ch)(bs:Nat)(e:Ending)(w':World):Prop :=
 (r=none∧e = .returned (.tuple #[.slice none 0 0,.nilIface])) ∨
 ∃ (x:XT) (ss:List (gz XT)) (s:gz XT) (a:Option Addr) (c:Nat) (pv lv cv:Value) (t0:Nd 0),r=some x∧e = .returned (.tuple #[.slice a (ss.length+1) c,.nilIface])∧tv w' bs (.slice a (ss.length+1) c) (ss.map gz.lk++[s.lk])∧Way (cX d) (fun n q=>B.fE n.lk key q) w' x ss ⟨0,t0⟩∧dH w' s.b s.n pv lv cv∧s.n.ps=t0.2∧fR t0.2≤4072∧ss.length≤63∧Go.Proofs.YtihmgigfkmofnaaGreatDoor.Way key x.1 x.2 t0.2
theorem TK.of{A:Nat→Addr}{d:S.V.bq}{key:ByteArray}{x:XT}{bs:Nat}{e:Ending}{w':World}(h:nC (cX d) (fun n q=>B.fE n.lk key q) A [] x bs e w'):TK d key (some x) bs e w':=by
 rcases h with ⟨hE,_⟩ | ⟨ss,s,a,c,he,ho,hw,⟨⟨pv,lv,cv,hs⟩,hn⟩,h0,rG,hl⟩
 ·exact (hE:False).elim
 ·simp only [List.length_nil,Nat.zero_add,List.nil_append] at he ho hl;obtain ⟨hn,hg⟩:=hn;obtain ⟨b,n,i,⟨hh,t⟩⟩:=s;cases hh with
  | zero=>exact .inr ⟨x,ss,⟨b,n,i,⟨0,t⟩⟩,a,c,pv,lv,cv,t,rfl,he,ho,hw,hs,hn.2,hg.2,hl,Ig hw rfl⟩
  | succ h=>exact absurd (List.length_eq_zero_iff.1 h0) hn.2.1
section
variable {base:Nat} {A:Nat→Addr} {db:Nat} {F:Nat→Prop} {d:S.V.bq} {W0:World} {r:ch}
theorem nR{w w1:World}{tb:Nat}(key:ByteArray)(hc:Ts base A db F d W0 w tb r)(hn:(aB r).length≤4611686018427387904)(hb:Below w.heap.size w w1):Calls prog 46 #[.pointer (some ⟨tb,0,none⟩),.string key] w1 fun e w'=>TK d key r w.heap.size e w'∧Dv base A db F d w'∧Mv db F w w':=by
 obtain ⟨rv,ht,hr⟩:=hc.tr;have hv:=hc.dv.below hb;have hm:Mv db F w w1:=Mv.of hb;rcases hr with ⟨rfl,rfl⟩ | ⟨p,h,t,rfl,rfl,hk⟩
 ·refine (vN tb _ key w1 (ht.below hb)).mono fun e w' ⟨he,hb⟩=>⟨.inl ⟨rfl,he⟩,hv.below hb,hm.trans (Mv.of hb)⟩
 ·refine (vM (cX d) p ⟨h,t⟩ tb key w w1 ⟨hk.cC (cP.of hb),iL hc.ok⟩ (ht.below hb) hv hm hc.dv (.inr (kT hc.ok hn))).mono fun e w' ⟨h1,h2,h3⟩=>⟨TK.of h1,h2,h3⟩
theorem Kf{w:World}{tb:Nat}(key value:ByteArray)(hc:Ts base A db F d W0 w tb r)(hn:(aB r).length≤4611686018427387904)(cL:key.size≤140737488355328)(se:value.size≤140737488355328):Calls prog 15 #[.pointer (some ⟨tb,0,none⟩),.string key,.string value] w fun e w'=>(cO (key,value)=true∧e = .returned .nilIface∧∃ r',tu key (fun l=>fl l key value) r r'∧Ts base A db F d W0 w' tb r')∨(¬ cO (key,value)=true∧e = .returned (.iface 360 (.pointer (some (A 0))))∧Ts base A db F d W0 w' tb r):=by
 have AO:=ab (qh A key value w cL se hc.dv.zf);have HC:=ab hc;have HN:=ab hn;clear hc hn;by_cases hm:cO (key,value)=true
 ·rw [if_pos hm] at AO;have hmp:=eL hm;have HM:=ab hm;clear cL se hm;go_enter func15,ntmps15;go_wp2_with fail;refine AO.out.mono ?_
  rintro e w1 ⟨rfl,aL⟩;have QI:=ab (nR key HC.out HN.out aL);clear aL AO;go_wp2_with fail;refine QI.out.mono ?_
  rintro e w2 ⟨GC,km,lq⟩;have tD:=ab km;have yp:=ab lq;have E0:=ab (HC.out.mv lq km);obtain ⟨rv,ht,VT⟩:=E0.out.tr;have AM:=ab ht;have HRF:=ab VT;rcases GC with ⟨Uu,rfl⟩ | ⟨x,ss,s,a,c,pv,lv,cv,t0,VS,rfl,ho,jf,hs,j6,b7,hl,-⟩
  ·subst Uu;have xC:rv = .nilIface:=by
    rcases HRF.out with ⟨h,_⟩ | ⟨_,_,_,_,h,_⟩
    ·exact h
    ·cases h
   subst xC;clear km lq QI ht VT;go_wp2_with fail;refine (gV w2).mono ?_
   rintro e w2' ⟨rfl,rfl⟩;go_wp2_with fail;refine (mP key w2 (by omega)).mono ?_
   rintro e w3 ⟨rfl,bT⟩;have eG:=ab bT;clear bT;go_wp2_with fail;refine (mP value w3 (by omega)).mono ?_
   rintro e w4 ⟨rfl,gj⟩;have iU:=ab (Below.next eG.out gj);clear gj;go_wp2_with fail;refine (Dw (.slice none 0 0) [] key value w4 (by simp) (gG.nil _)).mono ?_
   rintro e w5 ⟨u,rfl,hu,mj⟩;have iW:=ab (Below.next iU.out mj);have RF:=ab (BK key (fun l=>fl l key value) (vB HM.out) HC.out (yp.out.trans (Mv.of iW.out)) (tD.out.below iW.out) (AM.out.below iW.out) hu.at)
   obtain ⟨ua,uc,GF⟩:=hu.form;subst GF;clear hu mj;go_wp2_with fail;refine RF.out.mono ?_
   rintro e w6 ⟨rfl,yU⟩;have Ce:=ab yU;clear yU RF;go_wp2;go_ret;exact .inl ⟨HM.out,rfl,Ce.out⟩
  ·subst VS;have Ry:Hid (rv = .nilIface∨∃ t x,rv = .iface t x):=HRF.out.form;have HO:=ab ho;have HW:=ab jf;have sr:=ab j6;have gD:=ab b7;have HL:=ab hl;have vH:=ab (ja a ss.length c (ss.map gz.lk) s.lk s.n pv lv cv w2 (by rw [az]) (by omega) ho.1.at hs)
   have Hu:=ab hs.iy;have HPM:=ab hs.fine.1;obtain ⟨m,B5⟩ : ∃ m,m=ss.length:=⟨_,rfl⟩;have Fq:=ab B5;rw [← B5] at vH HO HL ⊢;obtain ⟨xa,xc,Bo⟩:=hs.iy.form;subst Bo;clear ho jf hs j6 b7 hl km lq QI B5 ht VT;go_wp2_with fail;refine vH.out.mono ?_
   rintro e w2' ⟨rfl,rfl⟩;go_wp2_with fail;refine (mP key w2 (by omega)).mono ?_
   rintro e w3 ⟨rfl,bT⟩;have eG:=ab bT;clear bT;go_wp2_with fail;refine (mP value w3 (by omega)).mono ?_
   rintro e w4 ⟨rfl,gj⟩;have iU:=ab (Below.next eG.out gj);clear gj;go_wp2_with fail;refine (Dw _ s.n.ps key value w4 (by have:=iw s.n.ps;have:=gD.out;rw [← sr.out] at this;omega) (Hu.out.below iU.out)).mono ?_
   rintro e w5 ⟨u,rfl,hu,mj⟩;have iW:=ab (Below.next iU.out mj);have xK:=rR (s:=s) (t0:=t0) key (fun l=>fl l key value) (vB HM.out) HC.out (yp.out.trans (Mv.of iW.out)) (tD.out.below iW.out) (AM.out.below iW.out) Ry.out (by have:=HL.out;have:=Fq.out;omega) (by rw [← Fq.out];exact HO.out.below iW.out) (HW.out.cC (cP.of iW.out)) gD.out (by rw [← sr.out];exact HPM.out) (by rw [← sr.out];exact hu.at)
   rw [← Fq.out] at xK;have RF:=ab xK;obtain ⟨ua,uc,GF⟩:=hu.form;subst GF;clear hu mj xK;go_wp2_with fail;refine RF.out.mono ?_
   rintro e w6 ⟨rfl,yU⟩;have Ce:=ab yU;clear yU RF;go_wp2;go_ret;exact .inl ⟨HM.out,rfl,Ce.out⟩
 ·rw [if_neg hm] at AO;have HM:=ab hm;clear cL se hm;go_enter func15,ntmps15;go_wp2_with fail;refine AO.out.mono ?_
  rintro e w1 ⟨rfl,aL⟩;have Ce:=ab (HC.out.below aL);clear aL AO;go_wp2;go_ret;exact .inr ⟨HM.out,rfl,Ce.out⟩
end
end T
end Go.Proofs.YtihmgigfkmofnaaGreatDoor
