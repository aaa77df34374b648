import Derived.Test.YtihmgigfkmofnaaGreatDoorG33
import Derived.Laws.EntriesVeiled
set_option maxHeartbeats 4000000
set_option maxRecDepth 100000
open Go.Proofs.Tryz
namespace Go.Proofs.YtihmgigfkmofnaaGreatDoor
namespace T
open Go.RowKit
theorem sR{base:Nat}{F F':Nat→Prop}{w w':World}(h:S.V.Step F F' w w')(hs:base≤w.heap.size)(hF:∀ k,F k→base≤k):Below base w w'∧∀ k,F' k→base≤k:=by
 refine ⟨⟨h.os,h.tape,h.output,h.size,fun k hk=>h.block k (by omega) (fun e=>by have:=hF k e;omega)⟩,fun k hk=>?_⟩
 rcases h.sub k hk with e | e
 ·exact hF k e
 ·omega
section
variable {base:Nat} {A:Nat→Addr} {db:Nat} {F:Nat→Prop} {d d2:S.V.bw} {W0:World} {r:cC}
theorem Dv.step{F':Nat→Prop}{w w':World}(hv:Dv base A db F d w)(hs:S.V.Step F F' w w')(hd:∃ d',Nr d2 d'∧S.V.cL w' db F' d')(ha:d2.dead=false):Dv base A db F' d2 w':=by
 obtain ⟨hb,hF⟩:=sR hs hv.env.errs.size hv.up;refine ⟨hd,hv.env.keep hb,⟨fun i hi=>?_,hv.errs.2⟩,hF,ha,hv.lo⟩
 obtain ⟨h1,c,t,h2⟩:=hv.errs.1 i hi;have hl:=hv.lo i hi;exact ⟨(hb.cell (p:=⟨eV i,0,none⟩) hl.1).trans h1,c,t,(hb.block _ hl.2).trans h2⟩
theorem NS{w:World}(s:S.Sh)(hv:Dv base A db F d w)(hm:S.sF s)(hx:s.pG<18446744073709551616)(eM:(s.id+1)*8≤d.size)(hp:d.aX.length≤1000000)(ha:d.eX=[]):Calls prog 62 #[.pointer (some ⟨db,0,none⟩),.agg s.cells.toArray] w fun e w'=>e = .returned .nilIface∧∃ F',Dv base A db F' (qp d s) w'∧S.V.Step F F' w w':=by
 obtain ⟨d',⟨n,rfl⟩,hd⟩:=hv.dev;refine (S.Km base A db F { d with nr:=n } s w (by rw [hm.2.2.2];decide) hx hd hv.env hv.up hp hv.alive ha).mono ?_
 rintro e w' (⟨rfl,_,F',h1,h2⟩ | ⟨fQ,_,_⟩)
 ·exact ⟨rfl,F',hv.step h2 ⟨_,⟨n,rfl⟩,h1⟩ hv.alive,h2⟩
 ·exact absurd ⟨hm,eM⟩ fQ
def nJ(d:S.V.bw):S.V.bw:={ d with eN:=S.V.gR d.eN d.aX,aX:=[],ns:=wrap64 (d.ns+1) }
theorem Sk{w:World}(hv:Dv base A db F d w)(hp:d.aX.length≤1000000)(ha:d.eX=[]):Calls prog 63 #[.pointer (some ⟨db,0,none⟩)] w fun e w'=>e = .returned .nilIface∧∃ F',Dv base A db F' (nJ d) w'∧S.V.Step F F' w w':=by
 obtain ⟨d',⟨n,rfl⟩,hd⟩:=hv.dev;have e1:({ d with nr:=n }:S.V.bw).sync=({ nJ d with nr:=n },0):=by
  obtain ⟨sz,eN,aX,eX,dead,nr,nw,ns⟩:=d;have h1:dead=false:=hv.alive;have h2:eX=[]:=ha;subst h1 h2;rfl
 refine (S.V.NQ base A db F { d with nr:=n } w hd hv.env.errs hv.up (by show d.aX.length≤_;omega) (by show S.V.ME base A db d.eX;rw [ha];exact S.V.xC base A db)).mono ?_
 rintro e w' ⟨he,F',h1,h2⟩;rw [e1] at he h1;exact ⟨he,F',hv.step h2 ⟨_,⟨n,rfl⟩,h1⟩ hv.alive,h2⟩
end
theorem ID{d:S.V.bw}(hs:∀ x ∈ d.aX,x.lx.size=512):cM (nJ d)=cM d:=by
 funext id
 refine Ap rfl ?_
 rw [o7 d hs,o7 (nJ d) (fun x hx=>by simp [nJ] at hx)]
 rfl
def eP(d:S.V.bw)(Z:List S.Sh):S.V.bw:=Z.foldl qp d
theorem qo(d:S.V.bw)(Z:List S.Sh)(s:S.Sh):eP d (Z++[s])=qp (eP d Z) s:=by simp [eP,List.foldl_append]
theorem lM{d:S.V.bw}:∀ (n:Nat) (Z:List S.Sh),Z.length=n→(eP d Z).size=d.size∧(eP d Z).eX=d.eX∧(eP d Z).dead=d.dead∧(eP d Z).aX.length=d.aX.length+8*Z.length∧(eP d Z).eN=d.eN
 | 0,Z,hl=>by
  have:Z=[]:=List.length_eq_zero_iff.1 hl;subst this;exact ⟨rfl,rfl,rfl,rfl,rfl⟩
 | n+1,Z,hl=>by
  have dH:Z≠[]:=fun e=>by rw [e] at hl;cases hl
  have e:=iB dH;have h1:Z.dropLast.length=n:=by rw [List.length_dropLast];omega
  obtain ⟨a1,a2,a3,a4,a5⟩:=lM (d:=d) n Z.dropLast h1;rw [← e,qo];refine ⟨a1,a2,a3,?_,a5⟩;show ((eP d Z.dropLast).aX++S.V.chunks _ _ 8).length=_
  rw [ae,S.V.yz,a4,ae,aQ];omega
def QU(sz:Int)(s:S.Sh):Prop:=S.sF s∧s.pG<18446744073709551616∧(s.id+1)*8≤sz
theorem Dm{d:S.V.bw}(hs:∀ x ∈ d.aX,x.lx.size=512):∀ (n:Nat) (Z:List S.Sh),Z.length=n→(∀ s ∈ Z,QU d.size s)→(Z.map (·.id)).Nodup →
  (∀ x ∈ (eP d Z).aX,x.lx.size=512)∧(∀ id,(∀ s ∈ Z,s.id≠id)→cM (eP d Z) id=cM d id)∧∀ s ∈ Z,∀ p,gF s p→cM (eP d Z) s.id=some p
 | 0,Z,hl,_,_=>by
  have:Z=[]:=List.length_eq_zero_iff.1 hl;subst this;exact ⟨hs,fun _ _=>rfl,fun s h=>by simp at h⟩
 | n+1,Z,hl,hc,hn=>by
  have dH:Z≠[]:=fun e=>by rw [e] at hl;cases hl
  have e:=iB dH;have h1:Z.dropLast.length=n:=by rw [List.length_dropLast];omega
  obtain ⟨s,pZ⟩ : ∃ s,s=Z.getLast dH:=⟨_,rfl⟩;rw [← pZ] at e;have fI:QU d.size s:=hc s (by rw [← e];simp)
  rw [← e,bz,List.nodup_append] at hn;obtain ⟨g1,g2,g3⟩:=Dm hs n Z.dropLast h1 (fun x hx=>hc x (List.dropLast_subset Z hx)) hn.1
  obtain ⟨a1,a2,a3,a4,a5⟩:=lM (d:=d) n Z.dropLast h1;have b8:(qp (eP d Z.dropLast) s).size=d.size:=a1;have Tq:=fun i=>Og (d:=eP d Z.dropLast) fI.1 g1 i
  have ZH:∀ id,id≠s.id→cM (qp (eP d Z.dropLast) s) id=cM (eP d Z.dropLast) id:=fun id hid=>Ap rfl (by rw [Tq,if_neg hid])
  rw [← e,qo];refine ⟨Dp fI.1 g1,fun id hid=>?_,fun x hx p hp=>?_⟩
  ·rw [ZH id (fun e=>hid s (by simp) e.symm)]
   exact g2 id fun x hx=>hid x (by simp [hx])
  ·rcases List.mem_append.1 hx with hx | hx
   ·have BP:x.id≠s.id:=hn.2.2 _ (jR hx) _ (by simp)
    rw [ZH _ BP];exact g3 x hx p hp
   ·have hxs:x=s:=by simpa using hx
    subst hxs;refine SI ⟨fI.1,fI.2.1,rfl,by rw [b8];exact fI.2.2,?_⟩ hp
    rw [Tq,if_pos rfl]
theorem N3{tx id:Nat}{p:PD}(hp:V3 p):gF (gK tx (id,p)) p:=by
 cases p with
 | leaf l =>
  have h:=TU (l:=l) hp;refine .inl ⟨rfl,?_,?_⟩
  ·show mR ((l.length:Int).toNat) (tG l).data.toList
   rw [aW];simpa [tG] using h.1
  ·show PD.leaf l = .leaf (B1 ((l.length:Int).toNat) (tG l).data.toList)
   rw [aW];have:B1 l.length (tG l).data.toList=l:=by simpa [tG] using h.2
   rw [this]
 | br f lk =>
  have h:=B.Qt (f:=f) (l:=lk) hp;refine .inr ⟨rfl,?_,?_⟩
  ·show B.vB (((lk.length:Int)+1).toNat) (B.pQ f lk).data.toList
   rw [show ((lk.length:Int)+1).toNat=lk.length+1 by omega]
   simpa [B.pQ] using h.1
  ·show PD.br f lk = .br (B.FN (bY (B.pQ f lk).data.toList ((lk.length:Int)+1).toNat)) (B.B6 (bY (B.pQ f lk).data.toList ((lk.length:Int)+1).toNat))
   rw [show ((lk.length:Int)+1).toNat=lk.length+1 by omega]
   have h2:B.FN (bY (B.pQ f lk).data.toList (lk.length+1))=f:=by simpa [B.pQ] using h.2.1
   have h3:B.B6 (bY (B.pQ f lk).data.toList (lk.length+1))=lk:=by simpa [B.pQ] using h.2.2
   rw [h2,h3]
theorem D6{α β γ:Type}(g:α→Nat→β × List γ):∀ (cs:List α) (k:Nat) (x:γ),x ∈ (bZ g cs k).2→∃ (i:Nat) (c:α) (ki:Nat),cs[i]?=some c∧x ∈ (g c ki).2∧(bZ g cs k).1[i]?=some (g c ki).1
 | [],_,x,h=>by simp [bZ] at h
 | c::cs,k,x,h=>by
  rcases List.mem_append.1 h with h | h
  ·exact ⟨0,c,k,rfl,h,rfl⟩
  ·obtain ⟨i,c',ki,h1,h2,h3⟩:=D6 g cs _ x h;exact ⟨i+1,c',ki,h1,h2,h3⟩
theorem Je{PG:Int→Option PD}{w:World}{P:Nat→Nat}(hP:∀ j,2≤P j∧P j<1048576):∀ (h:Nat) {p:C.Ch} {t:Nd h} (k:Nat),ew PG w h p t→Re h t→(dG h (aV P h t k).1).Nodup→∀ x ∈ (aV P h t k).2,V3 x.2
 | 0,p,t,k,hk,ho,hn,x,hx=>by
  by_cases h0:t.1=0
  ·have e1:aV P 0 t k=((P k,t.2),[(P k,.leaf t.2)]):=if_pos h0;rw [e1] at hx;have hx:x=(P k,.leaf t.2):=by simpa using hx
   subst hx;exact DG ho
  ·have e1:aV P 0 t k=(t,[]):=if_neg h0;rw [e1] at hx;simp at hx
 | h+1,p,t,k,hk,ho,hn,x,hx=>by
  by_cases h0:t.1=0
  ·obtain ⟨R,hR⟩ : ∃ R,R=bZ (aV P h) t.2.2 k:=⟨_,rfl⟩;have e1:aV P (h+1) t k=((P (k+R.2.length),t.2.1,R.1),R.2++[(P (k+R.2.length),.br (l6 R.1) (qv t.2.1 R.1))]):=by rw [hR];exact if_pos h0
   rw [e1] at hx hn;have ZT:(R.1.flatMap (dG h)).Nodup:=by
    have h9:(cY (P (k+R.2.length))++R.1.flatMap (dG h)).Nodup:=hn;exact h9.sublist (dD _ _)
   cases p with
   | pg id =>
    have hk:gE PG (h+1) id t:=hk;exact absurd h0 (by have:=hk.1;have:=hk.2.1;omega)
   | nd b =>
    obtain ⟨_,n,xv,lv,cv,ye,jw⟩:=hk;have MW:n.us.length=t.2.2.length:=jw.1;rcases List.mem_append.1 hx with hx | hx
    ·rw [hR] at hx;obtain ⟨i,c,ki,h1,h2,h3⟩:=D6 (aV P h) t.2.2 k x hx;rw [← hR] at h3;obtain ⟨q,hq⟩ : ∃ q,n.us[i]?=some q:=⟨_,af (by have:=(List.getElem?_eq_some_iff.1 h1).1;omega)⟩
     exact Je hP h ki (jw.qT hq h1) (vH ho h1) (xF ZT h3) x h2
    ·have hx:x=(P (k+R.2.length),.br (l6 R.1) (qv t.2.1 R.1)):=by simpa using hx
     subst hx;obtain ⟨⟨pJ,mz,cO⟩,b8,ke⟩:=ho;have Tv:=(fA h t pJ mz).1 cO;have Tu:gY (kW h) pJ mz t.2.1 R.1:=by
      rw [hR];exact vP (fun t k lo hi hf=>⟨qy h t k lo hi hf.1,by unfold Full;rw [BH];exact hf.2⟩) t.2.2 t.2.1 k pJ mz Tv
     refine QW Tu b8 ke (fun c' uC=>?_) ZT
     obtain ⟨i,hi,hv⟩:=aO uC;have PV:i<t.2.2.length:=by rw [hR,iw] at hi;exact hi
     have Lu:t.2.2[i]?=some t.2.2[i]:=af PV;obtain ⟨ki,g1,_⟩:=rJ (aV P h) t.2.2 k i _ Lu;rw [← hR,af hi,hv] at g1;cases g1;obtain ⟨q,hq⟩ : ∃ q,n.us[i]?=some q:=⟨_,af (by omega)⟩
     exact AD hP (jw.qT hq Lu) ki
  ·have e1:aV P (h+1) t k=(t,[]):=if_neg h0;rw [e1] at hx;simp at hx
theorem Qs{l:List Pr}(h:fY l≤4072):(tG l).size=4072:=by
 have h1:=rI (l.map ft) (by rw [ql];exact h)
 show (jy (l.map ft)).toArray.size=4072
 simpa using h1
theorem LV{f:Int}{l:List B.Lk}(h:B.jT l≤4072):(B.pQ f l).size=4072:=by
 have h1:=rI (B.dz f l) (by rw [B.oh];exact h)
 show (jy (B.dz f l)).toArray.size=4072
 simpa using h1
theorem IC:∀ l:List B.Lk,l.length≤B.jT l
 | []=>by simp
 | p::l=>by
  have:=IC l;have e:B.jT (p::l)=B.yT p+B.jT l:=by simp [B.jT];omega
  have:1≤B.yT p:=by unfold B.yT;omega
  rw [List.length_cons];omega
theorem VU{tx id:Nat}{p:PD}(hp:V3 p)(h1:2≤id)(h2:id<1048576):S.sF (gK tx (id,p)):=by
 cases p with
 | leaf l =>
  have hc:=sd hp;have hl:=iE l;exact ⟨.inr rfl,⟨by show (0:Int)≤(l.length:Int);omega,by show (l.length:Int)≤65535;omega⟩,⟨by show (2:Int)≤(id:Int);omega,by show (id:Int)<1048576;omega⟩,Qs hc.2.2.1⟩
 | br f lk =>
  have hc:=B.kV hp;have hl:=IC lk;exact ⟨.inl rfl,⟨by show (0:Int)≤(lk.length:Int)+1;omega,by show (lk.length:Int)+1≤65535;omega⟩,⟨by show (2:Int)≤(id:Int);omega,by show (id:Int)<1048576;omega⟩,LV hc.2.2.2.2.2.1⟩
theorem IL{tx:Nat}(x:Nat × PD):(gK tx x).id=(x.1:Int)∧(gK tx x).pG=tx:=by
 obtain ⟨i,p⟩:=x;cases p <;> exact ⟨rfl,rfl⟩
theorem C4{d:S.V.bw}{r:cC}{w:World}{rv:Value}{T:Nat→Bool}{PP tx:Nat}(hr:fK (cM d) w rv r)(cO:fc r)(hk:Q.kn PP T)(hn:dO r≤(Q.dU T PP).length)(jw:(eJ r).Nodup)(FG:∀ i ∈ eJ r,T i=true)(hs:∀ x ∈ d.aX,x.lx.size=512)(b8:d.size=8*(PP:Int))(RE:tx<18446744073709551616):(∀ s ∈ (fH (eB (Q.eT T PP (dO r))) r).2.map (gK tx),QU d.size s)∧(∀ x ∈ (eP d ((fH (eB (Q.eT T PP (dO r))) r).2.map (gK tx))).aX,x.lx.size=512)∧∀ w',fK (cM (nJ (eP d ((fH (eB (Q.eT T PP (dO r))) r).2.map (gK tx))))) w' (kH (fH (eB (Q.eT T PP (dO r))) r).1) (fH (eB (Q.eT T PP (dO r))) r).1:=by
 obtain ⟨vi,FL⟩:=qz hk hn jw FG;have M8:=fun j=>np (n:=dO r) hk j
 obtain ⟨L,hL⟩ : ∃ L,L=Q.eT T PP (dO r):=⟨_,rfl⟩;have hLt:∀ i ∈ L,i<PP∧T i=false:=fun i hi=>by rw [hL] at hi;exact Q.rE hi
 have Jv:L.Nodup:=by rw [hL];exact xM _ _ _
 rw [← hL] at vi FL M8 ⊢;rcases hr with ⟨rfl,rfl⟩ | ⟨p,h,t,rfl,rfl,p8⟩
 ·exact ⟨fun s hx=>by simp [fH] at hx,hs,fun w'=>.inl ⟨rfl,rfl⟩⟩
 ·have PW:(aV (eB L) h t 0).2.map (·.1)=L:=by
   have:=vO (P:=eB L) h t 0;rw [this,nu,show jc h t=L.length from FL.symm,yb]
  have WC:∀ x ∈ (aV (eB L) h t 0).2,x.1 ∈ L:=fun x hx=>by rw [← PW];exact jR hx
  have aaq:=Je M8 h 0 p8 (DF cO) vi;have He:∀ i ∈ L,2≤i:=fun i hi=>by
   obtain ⟨j,hj,rfl⟩:=aO hi;have:=(M8 j).1;unfold eB at this;rw [aE,af hj] at this;exact this
  have Qa:∀ s ∈ (aV (eB L) h t 0).2.map (gK tx),QU d.size s:=fun s hx=>by
   obtain ⟨x,sw,rfl⟩:=List.mem_map.1 hx;have h1:=hLt _ (WC x sw);have h2:=He _ (WC x sw);have h3:=hk.hi;have h4:=IL (tx:=tx) x;refine ⟨?_,by rw [h4.2];exact RE,by rw [h4.1,b8];omega⟩
   obtain ⟨i,q⟩:=x;exact VU (aaq _ sw) h2 (by have:i<PP:=h1.1;omega)
  have adE:(((aV (eB L) h t 0).2.map (gK tx)).map (·.id)).Nodup:=by
   have e:((aV (eB L) h t 0).2.map (gK tx)).map (·.id)=L.map fun n:Nat=>(n:Int):=by
    have e2:L.map (fun n:Nat=>(n:Int))=((aV (eB L) h t 0).2.map (·.1)).map fun n:Nat=>(n:Int):=by rw [PW]
    rw [e2,eO,eO];apply gO
    intro x _;exact (IL x).1
   rw [e];exact List.Pairwise.map _ (fun a b Cv e=>Cv (by omega)) Jv
  obtain ⟨g1,g2,g3⟩:=Dm hs _ _ rfl Qa adE;refine ⟨Qa,g1,fun w'=>.inr ⟨.pg (fy h (aV (eB L) h t 0).1:Int),h,(aV (eB L) h t 0).1,rfl,rfl,?_⟩⟩
  show gE _ h _ _
  refine xR M8 h 0 p8 ⟨none,none,cO.1⟩ (fun i hi=>?_) fun x hx=>?_
  ·show cM (nJ (eP d ((aV (eB L) h t 0).2.map (gK tx)))) _=_
   rw [ID g1];refine g2 _ fun s hx e=>?_
   obtain ⟨x,sw,rfl⟩:=List.mem_map.1 hx;rw [(IL x).1] at e;have h1:=(hLt _ (WC x sw)).2;have h2:=FG i hi;have e':x.1=i:=by omega
   rw [e',h2] at h1;cases h1
  ·show cM (nJ (eP d ((aV (eB L) h t 0).2.map (gK tx)))) _=_
   rw [ID g1,← (IL (tx:=tx) x).1];refine g3 _ (jR hx) x.2 ?_
   obtain ⟨i,q⟩:=x;exact N3 (aaq _ hx)
attribute [local go_sem ↓] Go.wp_at_zero Go.wp_at_succ
theorem tv(w W:World)(a b c e:Value)(TA TB TC TE:TypeId)(hW:(((w.alloc (.cells #[a] TA)).alloc (.cells #[b] TB)).alloc (.cells #[c] TC)).alloc (.cells #[e] TE)=W):Below w.heap.size w W∧W.heap.size=w.heap.size+1+1+1+1∧B.au W w.heap.size #[a] TA∧B.au W (w.heap.size+1) #[b] TB∧B.au W (w.heap.size+1+1) #[c] TC∧B.au W (w.heap.size+1+1+1) #[e] TE:=by
 obtain ⟨W1,h1⟩ : ∃ W1,W1=w.alloc (.cells #[a] TA):=⟨_,rfl⟩;obtain ⟨W2,h2⟩ : ∃ W2,W2=W1.alloc (.cells #[b] TB):=⟨_,rfl⟩;obtain ⟨W3,h3⟩ : ∃ W3,W3=W2.alloc (.cells #[c] TC):=⟨_,rfl⟩;rw [← h1,← h2,← h3] at hW;have s1:W1.heap.size=w.heap.size+1:=by rw [h1];simp
 have s2:W2.heap.size=w.heap.size+1+1:=by rw [h2,← s1];simp
 have s3:W3.heap.size=w.heap.size+1+1+1:=by rw [h3,← s2];simp
 have b1:Below w.heap.size w W1:=h1▸ai w _;have b2:Below W1.heap.size W1 W2:=h2▸ai W1 _;have b3:Below W2.heap.size W2 W3:=h3▸ai W2 _;have b4:Below W3.heap.size W3 W:=hW▸ai W3 _;have r1:B.au W1 w.heap.size #[a] TA:=h1▸B.au.new w _ _;have r2:B.au W2 W1.heap.size #[b] TB:=h2▸B.au.new W1 _ _;have r3:B.au W3 W2.heap.size #[c] TC:=h3▸B.au.new W2 _ _;have r4:B.au W W3.heap.size #[e] TE:=hW▸B.au.new W3 _ _;rw [s1] at r2;rw [s2] at r3;rw [s3] at r4;exact ⟨Below.next (Below.next (Below.next b1 b2) b3) b4,by rw [← hW,← s3];simp,((r1.below b2).below b3).below b4,(r2.below b3).below b4,r3.below b4,r4⟩
theorem LK(w W:World)(a b c e:Value)(TA TB TC TE:TypeId)(hW:((((w.alloc (.cells #[a] TA)).alloc (.cells #[b] TB)).alloc (.map #[] 0)).alloc (.cells #[c] TC)).alloc (.cells #[e] TE)=W):Below w.heap.size w W∧W.heap.size=w.heap.size+1+1+1+1+1∧B.au W w.heap.size #[a] TA∧B.au W (w.heap.size+1) #[b] TB∧W.heap[w.heap.size+1+1]?=some (.map #[] 0)∧B.au W (w.heap.size+1+1+1) #[c] TC∧B.au W (w.heap.size+1+1+1+1) #[e] TE:=by
 obtain ⟨W1,h1⟩ : ∃ W1,W1=w.alloc (.cells #[a] TA):=⟨_,rfl⟩;obtain ⟨W2,h2⟩ : ∃ W2,W2=W1.alloc (.cells #[b] TB):=⟨_,rfl⟩;obtain ⟨W3,h3⟩ : ∃ W3,W3=W2.alloc (.map #[] 0):=⟨_,rfl⟩;obtain ⟨W4,h4⟩ : ∃ W4,W4=W3.alloc (.cells #[c] TC):=⟨_,rfl⟩;rw [← h1,← h2,← h3,← h4] at hW;have s1:W1.heap.size=w.heap.size+1:=by rw [h1];simp
 have s2:W2.heap.size=w.heap.size+1+1:=by rw [h2,← s1];simp
 have s3:W3.heap.size=w.heap.size+1+1+1:=by rw [h3,← s2];simp
 have s4:W4.heap.size=w.heap.size+1+1+1+1:=by rw [h4,← s3];simp
 have b1:Below w.heap.size w W1:=h1▸ai w _;have b2:Below W1.heap.size W1 W2:=h2▸ai W1 _;have b3:Below W2.heap.size W2 W3:=h3▸ai W2 _;have b4:Below W3.heap.size W3 W4:=h4▸ai W3 _;have b5:Below W4.heap.size W4 W:=hW▸ai W4 _;have r1:B.au W1 w.heap.size #[a] TA:=h1▸B.au.new w _ _;have r2:B.au W2 W1.heap.size #[b] TB:=h2▸B.au.new W1 _ _;have r3:W3.heap[W2.heap.size]?=some (.map #[] 0):=h3▸heap_alloc_new W2 _;have r4:B.au W4 W3.heap.size #[c] TC:=h4▸B.au.new W3 _ _;have r5:B.au W W4.heap.size #[e] TE:=hW▸B.au.new W4 _ _;have e3:W.heap[W2.heap.size]?=some (.map #[] 0):=(b5.block _ (by omega)).trans ((b4.block _ (by omega)).trans r3)
 rw [s1] at r2;rw [s2] at e3;rw [s3] at r4;rw [s4] at r5;exact ⟨Below.next (Below.next (Below.next (Below.next b1 b2) b3) b4) b5,by rw [← hW,← s4];simp,(((r1.below b2).below b3).below b4).below b5,((r2.below b3).below b4).below b5,e3,r4.below b5,r5⟩
theorem yL.lower{w:World}{lo pJ:Nat}{v:Value}{l:List Pr}(h:yL w lo v l)(hl:pJ≤lo):yL w pJ v l:=by
 refine ⟨⟨h.1.1,?_⟩,h.2⟩;rcases h.1.2 with h' | ⟨g,cap,cur,h',h1,h2⟩
 ·exact .inl h'
 ·exact .inr ⟨g,cap,cur,h',ar hl h1,h2⟩
theorem Met.made{w:World}{b:Nat}(h:w.heap[b]?=some (.map #[] 0)):Met w b []:=by
 obtain ⟨es,clock,h1,h2⟩:=World.ownsMap_made w prog 3 (unitElem (H:=Unit));have h3:(w.alloc (.map #[] 0)).heap[w.heap.size]?=some (.map #[] 0):=heap_alloc_new w _;rw [h3] at h1;cases h1;exact ⟨fun i hi=>by simp at hi,⟨#[],0,h,h2⟩⟩
section
variable {base:Nat} {A:Nat→Addr} {db:Nat} {F:Nat→Prop} {d:S.V.bw} {w0:World} {tb:Nat} {x:Bx} {fr en:ByteArray} {lim lo:Nat} {W0:World} {r:cC}
theorem yq{rv:Value}(iL:Dv base A db F d w0)(G0:B.au w0 tb #[.pointer (some ⟨db,0,none⟩),rv] 100)(U7:lim≤9223372036854775807):∀ h,JU base A db F d w0 tb x fr en lim lo h
 | 0=>fun p t dp w v acc M hk nK hg P3 eh _ lX nx=>EE iL G0 p t dp w v acc M hk nK hg (by omega) U7 eh lX nx
 | h+1=>zF (yq iL G0 U7 h) iL G0
theorem xu{w:World}(hc:Ts base A db F d W0 w tb r)(hn:(aD r).length*32≤140737488355328)(jw:(eJ r).Nodup)(zB:(eJ r).length<1099511627776)(U7:lim≤9223372036854775807):Calls prog 59 #[.pointer (some ⟨tb,0,none⟩),.string fr,.string en,.int .i64 (lim:Int)] w fun e w'=>(∃ v,e = .returned (.tuple #[v,.nilIface])∧yL w' w.heap.size v (((aD r).filter (jk fr en)).take lim))∧Dv base A db F d w'∧Mv db F w w':=by
 have Cp:=@run_makeMap prog;obtain ⟨rv,ht,hr⟩:=hc.tr;have c1:=ht.c1;have nR:¬ (lim:Int)<0:=by omega
 rcases hr with ⟨rfl,rfl⟩ | ⟨p,h,t,rfl,rfl,hk⟩
 ·obtain ⟨W4,RS⟩ : ∃ W4,(((w.alloc (.cells #[.pointer (some ⟨tb,0,none⟩)] 38)).alloc (.cells #[.string fr] 9)).alloc (.cells #[.string en] 9)).alloc (.cells #[.int .i64 (lim:Int)] 3)=W4:=⟨_,rfl⟩;obtain ⟨fW,s4,r0,r1,r2,r3⟩:=tv w W4 _ _ _ _ _ _ _ _ RS;obtain ⟨H,hH⟩ : ∃ H,H=w.heap.size:=⟨_,rfl⟩;rw [← hH] at s4 r0 r1 r2 r3;have q0:=r0.cell 0 (by simp)
  have q3:=r3.cell 0 (by simp)
  have q4:W4.cell? ⟨tb,1,none⟩=some .nilIface:=(fW.cell (p:=⟨tb,1,none⟩) (World.block_lt_of_cell? w _ c1)).trans c1;have iY:=ab fW;have HC:=ab hc;have hHs:=hH.symm;clear hc ht c1 r0 r1 r2 r3 fW hH;go_enter func59,ntmps59;go_wp2;go_ret2;exact ⟨⟨_,rfl,by show yL _ _ _ (List.take lim []);rw [List.take_nil];exact yL.nil _ _⟩,HC.out.dv.below iY.out,Mv.of iY.out⟩
 ·have cO:fc (some ⟨h,t⟩):=hc.ok;have gU:(flat h t).length*32≤140737488355328:=hn;have AP:(dG h t).Nodup:=jw;have RG:(dG h t).length<1099511627776:=zB;obtain ⟨H,hH⟩ : ∃ H,H=w.heap.size:=⟨_,rfl⟩;obtain ⟨W4,RS⟩ : ∃ W4,(((w.alloc (.cells #[.pointer (some ⟨tb,0,none⟩)] 38)).alloc (.cells #[.string fr] 9)).alloc (.cells #[.string en] 9)).alloc (.cells #[.int .i64 (lim:Int)] 3)=W4:=⟨_,rfl⟩;obtain ⟨fW,s4,r0,r1,r2,r3⟩:=tv w W4 _ _ _ _ _ _ _ _ RS;rw [← hH] at s4 r0 r1 r2 r3;obtain ⟨W9,hW9⟩ : ∃ W9,((((W4.alloc (.cells #[.slice none 0 0] 63)).alloc (.cells #[.nilIface] 32)).alloc (.map #[] 0)).alloc (.cells #[.map (some (H+1+1+1+1+1+1))] 166)).alloc (.cells #[.nilFunc] 167)=W9:=⟨_,rfl⟩;obtain ⟨Js,s9,r4,r5,r6,r7,r8⟩:=LK W4 W9 _ _ _ _ _ _ _ _ hW9;rw [s4] at s9 r4 r5 r6 r7 r8;have q0:=r0.cell 0 (by simp)
  have q3:=r3.cell 0 (by simp)
  obtain ⟨vt,vx,iV⟩:=bP p;have q4:W4.cell? ⟨tb,1,none⟩=some (.iface vt vx):=(fW.cell (p:=⟨tb,1,none⟩) (World.block_lt_of_cell? w _ c1)).trans (by rw [← iV];exact c1)
  have q8:=r8.cell 0 (by simp)
  have f8:W9.frozen? ⟨H+1+1+1+1+1+1+1+1,0,none⟩=false:=by unfold B.au at r8;simp [World.frozen?,r8]
  obtain ⟨W,hW⟩ : ∃ W,W9.setCell ⟨H+1+1+1+1+1+1+1+1,0,none⟩ (.func (.func 90) #[] #[.pointer (some ⟨H+1+1+1+1+1+1+1,0,none⟩),.pointer (some ⟨H+1+1+1+1+1,0,none⟩),.pointer (some ⟨H,0,none⟩),.pointer (some ⟨H+1,0,none⟩),.pointer (some ⟨H+1+1,0,none⟩),.pointer (some ⟨H+1+1+1+1,0,none⟩),.pointer (some ⟨H+1+1+1,0,none⟩),.pointer (some ⟨H+1+1+1+1+1+1+1+1,0,none⟩)])=W:=⟨_,rfl⟩;have dE:=bJ.set (H+1+1+1+1+1+1+1+1) 0 W9 (.func (.func 90) #[] #[.pointer (some ⟨H+1+1+1+1+1+1+1,0,none⟩),.pointer (some ⟨H+1+1+1+1+1,0,none⟩),.pointer (some ⟨H,0,none⟩),.pointer (some ⟨H+1,0,none⟩),.pointer (some ⟨H+1+1,0,none⟩),.pointer (some ⟨H+1+1+1+1,0,none⟩),.pointer (some ⟨H+1+1+1,0,none⟩),.pointer (some ⟨H+1+1+1+1+1+1+1+1,0,none⟩)]);rw [hW] at dE;have hb:Below w.heap.size w W9:=Below.next fW Js;have Jr:Below w.heap.size w W:=⟨dE.os.trans hb.os,dE.tape.trans hb.tape,dE.output.trans hb.output,ar hb.size dE.size,fun k hk=>(dE.block k (by have:=hb.size;omega) (by omega)).trans (hb.block k hk)⟩
  have bE:∀ {k:Nat} {cs:Array Value} {T:TypeId},k<H+1+1+1+1+1+1+1+1→B.au W9 k cs T→B.au W k cs T:=fun {k cs T} hk hr=>(dE.block k (by omega) (by omega)).trans hr
  have u0:=bE (by omega) (r0.below Js)
  have u1:=bE (by omega) (r1.below Js)
  have u2:=bE (by omega) (r2.below Js)
  have u3:=bE (by omega) (r3.below Js)
  have u4:=bE (by omega) r4
  have u5:=bE (by omega) r5
  have u6:W.heap[H+1+1+1+1+1+1]?=some (.map #[] 0):=(dE.block _ (by omega) (by omega)).trans r6
  have u7:=bE (by omega) r7
  have u8:B.au W (H+1+1+1+1+1+1+1+1) #[(.func (.func 90) #[] #[.pointer (some ⟨H+1+1+1+1+1+1+1,0,none⟩),.pointer (some ⟨H+1+1+1+1+1,0,none⟩),.pointer (some ⟨H,0,none⟩),.pointer (some ⟨H+1,0,none⟩),.pointer (some ⟨H+1+1,0,none⟩),.pointer (some ⟨H+1+1+1+1,0,none⟩),.pointer (some ⟨H+1+1+1,0,none⟩),.pointer (some ⟨H+1+1+1+1+1+1+1+1,0,none⟩)])] 167:=hW▸rj r8 _;have hGS:Gs base A db F d w tb ⟨H+1+1+1+1+1+1+1,H+1+1+1+1+1+1,H,H+1+1+1+1+1,H+1,H+1+1,H+1+1+1+1,H+1+1+1,H+1+1+1+1+1+1+1+1⟩ fr en lim (H+1+1+1+1+1+1+1+1+1) W (.slice none 0 0) [] []:=by
   have jB:db<w.heap.size:=by
    obtain ⟨d',_,mb,nb,Kz,av,Dn,hb⟩:=hc.dv.dev;exact (Array.getElem?_eq_some_iff.1 hb.dF).1
   refine ⟨hc.dv.below Jr,Mv.of Jr,u7.cell 0 (by simp),u0.cell 0 (by simp),u5.cell 0 (by simp),u1.cell 0 (by simp),u2.cell 0 (by simp),u3.cell 0 (by simp),u8.cell 0 (by simp),u4,yL.nil _ _,aB _,Met.made u6,by simp,?_,?_,jB,?_⟩
   ·intro b hb;simp only [dP,dA,or_false] at hb;omega
   ·intro b hb;simp only [dP,dA,or_false] at hb;show b≠H+1+1+1+1
    omega
   ·have:=dE.size;omega
  have vl:=ld cO (by omega)
  have XJ:Hid (∀ W',Below W.heap.size W W'→Calls prog 90 #[p.val,.int .i64 ((1:Nat):Int),.pointer (some ⟨H+1+1+1+1+1+1+1,0,none⟩),.pointer (some ⟨H+1+1+1+1+1,0,none⟩),.pointer (some ⟨H,0,none⟩),.pointer (some ⟨H+1,0,none⟩),.pointer (some ⟨H+1+1,0,none⟩),.pointer (some ⟨H+1+1+1+1,0,none⟩),.pointer (some ⟨H+1+1+1,0,none⟩),.pointer (some ⟨H+1+1+1+1+1+1+1+1,0,none⟩)] W' (FA base A db F d w tb ⟨H+1+1+1+1+1+1+1,H+1+1+1+1+1+1,H,H+1+1+1+1+1,H+1,H+1+1,H+1+1+1+1,H+1+1+1,H+1+1+1+1+1+1+1+1⟩ fr en lim (H+1+1+1+1+1+1+1+1+1) W' (.slice none 0 0) [] (dG h t) (fw fr en lim h t []))):=fun W' Yb=>yq hc.dv ht U7 h p t 1 W' _ [] [] hk (jI cO) (hGS.below Yb) (by omega) (by simpa using gU) AP (fun _ _ h=>by simp at h) (by simpa using RG)
  have Ba:Hid (∀ W',Mv db F w W'→W'.cell? ⟨tb,1,none⟩=some p.val):=fun W' hm=>(ed (hm.cH hc.dv) ht).c1
  rw [iV,show ((1:Nat):Int)=1 from rfl] at XJ
  rw [iV] at Ba;have m0:W.cell? ⟨H,0,none⟩=some (.pointer (some ⟨tb,0,none⟩)):=u0.cell 0 (by simp)
  have m8:W.cell? ⟨H+1+1+1+1+1+1+1+1,0,none⟩=some (.func (.func 90) #[] #[.pointer (some ⟨H+1+1+1+1+1+1+1,0,none⟩),.pointer (some ⟨H+1+1+1+1+1,0,none⟩),.pointer (some ⟨H,0,none⟩),.pointer (some ⟨H+1,0,none⟩),.pointer (some ⟨H+1+1,0,none⟩),.pointer (some ⟨H+1+1+1+1,0,none⟩),.pointer (some ⟨H+1+1+1,0,none⟩),.pointer (some ⟨H+1+1+1+1+1+1+1+1,0,none⟩)]):=u8.cell 0 (by simp)
  have m4:W.cell? ⟨tb,1,none⟩=some (.iface vt vx):=(Jr.cell (p:=⟨tb,1,none⟩) (World.block_lt_of_cell? w _ c1)).trans (by rw [← iV];exact c1)
  have pF:=ab cO;have hHs:=hH.symm;clear fW Js hc ht hk c1 r0 r1 r2 r3 r4 r5 r6 r7 r8 u0 u1 u2 u3 u4 u5 u6 u7 u8 bE dE hb Jr hGS vl cO AP RG gU hn jw zB iV hH;go_enter func59,ntmps59;go_wp2_with fail;go_region_held3 (fun w'=>w'.cell? ⟨H,0,none⟩=some (.pointer (some ⟨tb,0,none⟩))∧w'.cell? ⟨H+1+1+1+1+1+1+1+1,0,none⟩=some (.func (.func 90) #[] #[.pointer (some ⟨H+1+1+1+1+1+1+1,0,none⟩),.pointer (some ⟨H+1+1+1+1+1,0,none⟩),.pointer (some ⟨H,0,none⟩),.pointer (some ⟨H+1,0,none⟩),.pointer (some ⟨H+1+1,0,none⟩),.pointer (some ⟨H+1+1+1+1,0,none⟩),.pointer (some ⟨H+1+1+1,0,none⟩),.pointer (some ⟨H+1+1+1+1+1+1+1+1,0,none⟩)])∧w'.cell? ⟨tb,1,none⟩=some (.iface vt vx)) (go_keep)
   (first
    | (go_at_call 90;refine (XJ.out _ (by first | exact Below.refl _ _ | exact B.aK (Below.refl _ _))).mono ?_;rintro e w2 ⟨v',M',rfl,pO,Vd,-,-⟩;have Ru:=ab pO;have n0:w2.cell? ⟨H,0,none⟩=some (.pointer (some ⟨tb,0,none⟩)):=pO.ct;have n8:w2.cell? ⟨H+1+1+1+1+1+1+1+1,0,none⟩=some (.func (.func 90) #[] #[.pointer (some ⟨H+1+1+1+1+1+1+1,0,none⟩),.pointer (some ⟨H+1+1+1+1+1,0,none⟩),.pointer (some ⟨H,0,none⟩),.pointer (some ⟨H+1,0,none⟩),.pointer (some ⟨H+1+1,0,none⟩),.pointer (some ⟨H+1+1+1+1,0,none⟩),.pointer (some ⟨H+1+1+1,0,none⟩),.pointer (some ⟨H+1+1+1+1+1+1+1+1,0,none⟩)]):=pO.cg;have n4:=Ba.out _ pO.mv;have kf:w2.cell? ⟨H+1+1+1+1+1,0,none⟩=some .nilIface:=pO.cf;have kp:w2.cell? ⟨H+1+1+1+1,0,none⟩=some v':=pO.row.cell 0 (by simp);clear pO Vd))
  obtain ⟨va,vn,vc,kq⟩ : ∃ a n c,v' = .slice a n c:=by
   obtain ⟨a,c,h⟩:=Ru.out.ps.1.form;exact ⟨a,_,c,h⟩
  subst kq;have me:Hid (yL w2 w.heap.size (.slice va vn vc) (((flat h t).filter (jk fr en)).take lim)∧Dv base A db F d w2∧Mv db F w w2):=by
   have h1:=Ru.out.ps;rw [LD pF.out.1] at h1;exact ⟨h1.lower (by omega),Ru.out.dv,Ru.out.mv⟩
  clear Ru XJ n0 n8 n4 m0 m8 m4 Ba pF hW hW9 RS q0 q3 q4 q8 f8;go_wp2;go_ret2;exact ⟨⟨_,rfl,me.out.1⟩,me.out.2⟩
theorem KJ{w:World}(hc:Ts base A db F d W0 w tb r)(k:Int)(hk:k<0):Calls prog 59 #[.pointer (some ⟨tb,0,none⟩),.string fr,.string en,.int .i64 k] w fun e w'=>e = .returned (.tuple #[.slice none 0 0,.iface 360 (.pointer (some (A 0)))])∧Below w.heap.size w w':=by
 obtain ⟨W4,RS⟩ : ∃ W4,(((w.alloc (.cells #[.pointer (some ⟨tb,0,none⟩)] 38)).alloc (.cells #[.string fr] 9)).alloc (.cells #[.string en] 9)).alloc (.cells #[.int .i64 k] 3)=W4:=⟨_,rfl⟩;obtain ⟨fW,s4,r0,r1,r2,r3⟩:=tv w W4 _ _ _ _ _ _ _ _ RS;obtain ⟨H,hH⟩ : ∃ H,H=w.heap.size:=⟨_,rfl⟩;rw [← hH] at s4 r0 r1 r2 r3;have q3:W4.cell? ⟨H+1+1+1,0,none⟩=some (.int .i64 k):=r3.cell 0 (by simp)
 have iY:=ab fW;have e0:W4.cell? ⟨0,0,none⟩=some (.iface 360 (.pointer (some (A 0)))):=(hc.dv.below fW).g 0 (by decide)
 have hHs:=hH.symm;clear hc r0 r1 r2 r3 fW hH;go_enter func59,ntmps59;go_wp2_with fail;go_quiet (fail)
 go_wp2;go_ret2;exact ⟨rfl,aA iY.out _⟩
end
attribute [local go_sem ↓] Go.wp_at_zero Go.wp_at_succ
section
variable {base:Nat} {A:Nat→Addr} {db:Nat} {F:Nat→Prop} {d:S.V.bw} {w0:World} {tb:Nat} {x:Bv} {lo:Nat}
def Ra(base:Nat)(A:Nat→Addr)(db:Nat)(F:Nat→Prop)(d:S.V.bw)(w0:World)(tb:Nat)(x:Bv)(lo:Nat)(h:Nat):Prop :=
 ∀ (p:C.Ch) (t:Nd h) (s:ByteArray) (w:World) (v:Value) (acc M:List Nat),ew (cM d) w0 h p t→jF ⟨h,t⟩→Vs base A db F d w0 tb x lo w v acc M→(dG h t).Nodup→(∀ i ∈ dG h t,i ∉ M)→M.length+(dG h t).length<1099511627776→acc.length+(dG h t).length<1099511627776 →
  Calls prog 103 #[p.val,.string s,.int .i64 ((h:Int)+1),.pointer (some ⟨x.m,0,none⟩),.pointer (some ⟨x.f,0,none⟩),.pointer (some ⟨x.e,0,none⟩),.pointer (some ⟨x.t,0,none⟩),.pointer (some ⟨x.v,0,none⟩)] w
   fun e w'=>e = .returned (.bool true)∧(∃ v',Vs base A db F d w0 tb x lo w' v' (acc++dG h t) (M++dG h t))∧cW w w'
theorem F5(iL:Dv base A db F d w0):Ra base A db F d w0 tb x lo 0:=by
 intro p t s w v acc M hk nK hg jw lX nx FK;have Iq:=ab (hg.again iL hk lX nx);have Xo:Hid (∀ W,Vs base A db F d w0 tb x lo W v acc (M++cY (fy 0 t))→Calls prog 66 #[p.val,.string s,.int .i64 1,.pointer (some ⟨x.p,0,none⟩)] W fun e w'=>e = .returned (.tuple #[])∧(∃ v',Vs base A db F d w0 tb x lo w' v' (acc++cY (fy 0 t)) (M++cY (fy 0 t)))∧cW W w'):=fun W hW=>CX p (fy 0 t) (xU hk).1 s 1 hW iL (by omega)
 obtain ⟨pt,px,iV⟩:=bP p;rw [iV] at Iq Xo ⊢;have k0:=hg.cm;clear hg hk nK iL iV jw lX nx FK;rw [show ((0:Nat):Int)+1=1 from rfl]
 go_enter func103,ntmps103;go_wp2_with fail;refine Iq.out.mono ?_
 rintro e wa ⟨rfl,zD,Jk⟩;have k1:=zD.ce;have HTF:=ab (Xo.out wa zD);have HA1:=ab Jk;clear zD Jk Xo Iq k0;go_wp2_with fail;refine HTF.out.mono ?_
 rintro e wb ⟨rfl,hvb,Cv⟩;have HE:Hid ((∃ v',Vs base A db F d w0 tb x lo wb v' (acc++dG 0 t) (M++dG 0 t))∧cW w wb):=⟨hvb,HA1.out.trans Cv⟩;clear hvb Cv HTF;go_wp2;go_ret;exact ⟨rfl,HE.out⟩
def u9{h:Nat}(t:Nd (h+1))(k:Nat):List Nat:=cY t.1++(t.2.2.take k).flatMap (dG h)
theorem KC{h:Nat}(t:Nd (h+1)):u9 t 0=cY t.1:=by simp [u9]
theorem KD{h:Nat}{t:Nd (h+1)}{k:Nat}{c:Nd h}(hc:t.2.2[k]?=some c):u9 t (k+1)=u9 t k++dG h c:=by
 unfold u9;rw [xo hc,ay]
theorem Oj{h:Nat}{t:Nd (h+1)}{k:Nat}(hk:t.2.2.length≤k):u9 t k=dG (h+1) t:=by
 unfold u9;rw [al hk];rfl
theorem Dt{h:Nat}{t:Nd (h+1)}(k:Nat):(u9 t k).Sublist (dG (h+1) t):=ru k
structure Vq(base:Nat)(A:Nat→Addr)(db:Nat)(F:Nat→Prop)(d:S.V.bw)(w0:World)(tb:Nat)(x:Bv)(lo:Nat){h:Nat}(t:Nd (h+1))(w:World)(acc M:List Nat)(b:Nat)(n:SN)(pv lv cv:Value)(k:Nat)(wr:World):Prop where
 vs:∃ v,Vs base A db F d w0 tb x lo wr v (acc++u9 t k) (M++u9 t k)
 aw:cW w wr
 sn:dQ wr b n pv lv cv
theorem Vq.qT{h:Nat}{t:Nd (h+1)}{w:World}{acc M:List Nat}{b:Nat}{n:SN}{pv lv cv:Value}{k:Nat}{wr:World}{c:Nd h}{p:C.Ch}(IH:Ra base A db F d w0 tb x lo h)(nK:jF ⟨h+1,t⟩)(hl:Vq base A db F d w0 tb x lo t w acc M b n pv lv cv k wr)(hc:t.2.2[k]?=some c)(hk:ew (cM d) w0 h p c)(jw:(dG (h+1) t).Nodup)(lX:∀ i ∈ dG (h+1) t,i ∉ M)(nx:M.length+(dG (h+1) t).length<1099511627776)(FK:acc.length+(dG (h+1) t).length<1099511627776)(s:ByteArray):Calls prog 103 #[p.val,.string s,.int .i64 ((h:Int)+1),.pointer (some ⟨x.m,0,none⟩),.pointer (some ⟨x.f,0,none⟩),.pointer (some ⟨x.e,0,none⟩),.pointer (some ⟨x.t,0,none⟩),.pointer (some ⟨x.v,0,none⟩)] wr fun e w'=>e = .returned (.bool true)∧Vq base A db F d w0 tb x lo t w acc M b n pv lv cv (k+1) w':=by
 obtain ⟨v,hvs⟩:=hl.vs;obtain ⟨vj,G7⟩:=IX hc jw;have kt:=KD hc;have oD:=(Dt (t:=t) (k+1)).length_le;rw [kt,ae] at oD;refine (IH p c s wr v _ _ hk (mB nK hc) hvs vj (fun i hi hm=>?_) (by rw [ae];omega) (by rw [ae];omega)).mono ?_
 ·rcases List.mem_append.1 hm with h1 | h1
  ·exact lX i ((Dt (k+1)).subset (by rw [kt];simp [hi])) h1
  ·unfold u9 at h1;rcases List.mem_append.1 h1 with h2 | h2
   ·exact (G7 i hi).1 h2
   ·exact (G7 i hi).2 h2
 ·rintro e w' ⟨rfl,⟨v',h1⟩,h2⟩;rw [ay,ay,← kt] at h1;exact ⟨rfl,⟨v',h1⟩,hl.aw.trans h2,hl.sn.cH h2⟩
theorem Bh{rv:Value}{h:Nat}(hh:h≤1000)(IH:Ra base A db F d w0 tb x lo h)(iL:Dv base A db F d w0)(G0:B.au w0 tb #[.pointer (some ⟨db,0,none⟩),rv] 100):Ra base A db F d w0 tb x lo (h+1):=by
 intro p t s w v acc M hk nK hg jw lX nx FK;have hlv:((h+1:Nat):Int)+1=(h:Int)+2:=by omega
 rw [hlv];have Iq:=ab (hg.again iL hk lX nx);have Xo:Hid (∀ W,Vs base A db F d w0 tb x lo W v acc (M++cY (fy (h+1) t))→Calls prog 66 #[p.val,.string s,.int .i64 ((h:Int)+2),.pointer (some ⟨x.p,0,none⟩)] W fun e w'=>e = .returned (.tuple #[])∧(∃ v',Vs base A db F d w0 tb x lo w' v' (acc++cY (fy (h+1) t)) (M++cY (fy (h+1) t)))∧cW W w'):=fun W hW=>CX p (fy (h+1) t) (xU hk).1 s _ hW iL (by omega)
 have wg:Hid (∀ W v',Vs base A db F d w0 tb x lo W v' (acc++cY (fy (h+1) t)) (M++cY (fy (h+1) t))→Calls prog 104 #[.pointer (some ⟨tb,0,none⟩),p.val] W fun e w'=>lV (oX d w0) A ⟨h+1,t⟩ e w'∧Dv base A db F d w'∧Mv db F W w'):=fun W v' hW=>by
  have aw:=hW.mv.cH iL;exact oZ (oX d w0) p ⟨h+1,t⟩ tb rv W ⟨⟨hk,nK⟩,.inl aw⟩ (ed aw G0) hW.dv
 have Nk:Hid (∀ (k:Nat) (wr:World) (b:Nat) (n:SN) (pv lv cv:Value) (c:Nd h) (q:C.Ch) (s:ByteArray),Vq base A db F d w0 tb x lo t w acc M b n pv lv cv k wr→t.2.2[k]?=some c→ew (cM d) w0 h q c→Calls prog 103 #[q.val,.string s,.int .i64 ((h:Int)+1),.pointer (some ⟨x.m,0,none⟩),.pointer (some ⟨x.f,0,none⟩),.pointer (some ⟨x.e,0,none⟩),.pointer (some ⟨x.t,0,none⟩),.pointer (some ⟨x.v,0,none⟩)] wr fun e w'=>e = .returned (.bool true)∧Vq base A db F d w0 tb x lo t w acc M b n pv lv cv (k+1) w'):=fun k wr b n pv lv cv c q s hl hc Z9=>hl.qT IH nK hc Z9 jw lX nx FK s
 obtain ⟨pt,px,iV⟩:=bP p;rw [iV] at Iq Xo wg ⊢;have k0:=hg.cm;have Ri:=ab iL;have Xs:Hid (cY (fy (h+1) t)=u9 t 0):=by show cY t.1=_;rw [KC]
 have aio:¬ (h:Int)+2=1:=by omega
 clear hg hk nK iL iV jw lX nx FK hlv G0 IH;go_enter func103,ntmps103;go_wp2_with fail;refine Iq.out.mono ?_
 rintro e wa ⟨rfl,zD,Jk⟩;have k1:=zD.ce;have HTF:=ab (Xo.out wa zD);have HA1:=ab Jk;clear zD Jk Xo Iq k0;go_wp2_with fail;refine HTF.out.mono ?_
 rintro e wb ⟨rfl,⟨vb,hvb⟩,Cv⟩;have HA2:=ab (HA1.out.trans Cv);have k2:=hvb.ct;have CA:=ab (wg.out wb vb hvb);have HVB:=ab hvb;clear hvb Cv HTF wg k1;go_wp2_with fail;refine CA.out.mono ?_
 rintro e w1 ⟨Ei,fP,fs⟩;rcases Ei with ⟨hE,_⟩ | ⟨b,n,pv,lv,cv,rfl,hs,hn⟩
 ·exact (hE:False).elim
 ·have Th:=HVB.out.go fs fP;have aaA:=HA2.out.trans (fs.cH HVB.out.dv);obtain ⟨Tg,WX⟩:=Th.nil Ri.out;have jv:=hs.cH WX;have vj:aU (cM d) w0 (h+1) n t:=hn.1.1;have MW:n.us.length=t.2.2.length:=vj.1;have h0:¬ n.us.length=0:=fun e=>vj.2.1 (List.length_eq_zero_iff.1 e)
  have gT:n.us.length=n.lk.length+1:=by
   rcases vj.2.2.1 with h9 | h9
   ·exact absurd h9 h0
   ·exact h9
  have ic:=hs.fine;have zP:Hid (Vq base A db F d w0 tb x lo t w acc M b n pv lv cv 0 (w1.setCell ⟨x.f,0,none⟩ .nilIface)):=⟨⟨_,by rw [← Xs.out];exact Tg⟩,aaA.trans WX,jv⟩
  have Nj:Hid (∀ (k:Nat) (q:C.Ch) (c:Nd h),n.us[k]?=some q→t.2.2[k]?=some c→ew (cM d) w0 h q c):=fun k q c h1 h2=>vj.qT h1 h2
  have kf:w1.cell? ⟨x.f,0,none⟩=some .nilIface:=Th.cf.cell 0 (by simp)
  have kz:w1.frozen? ⟨x.f,0,none⟩=false:=by have hr:=Th.cf;unfold B.au at hr;simp [World.frozen?,hr]
  obtain ⟨W,hW⟩ : ∃ W,w1.setCell ⟨x.f,0,none⟩ .nilIface=W:=⟨_,rfl⟩;rw [hW] at zP jv Tg;have kf2:W.cell? ⟨x.f,0,none⟩=some .nilIface:=Tg.cf.cell 0 (by simp)
  have p3:=jv.c3;obtain ⟨la,lc,pN⟩:=hs.bh.form;obtain ⟨ca,cc,sC⟩:=hs.kids.form;obtain ⟨N,hN⟩ : ∃ N,N=n.us.length:=⟨_,rfl⟩;obtain ⟨L,hL⟩ : ∃ L,L=n.lk.length:=⟨_,rfl⟩;rw [← hN] at sC;rw [← hL] at pN;subst pN sC;have HN:Hid (N=n.us.length∧N=t.2.2.length∧N=n.lk.length+1∧L=n.lk.length∧L≤4000):=⟨hN,by omega,by omega,hL,by have:=ic.2.2.2.1;omega⟩
  clear fP fs CA hs hn h0 vj MW ic gT k2 Th hN hL aaA WX Tg jv HVB;go_wp2_with fail;go_loopw [39,1] (fun i u wr=>∃ (k:Nat) (s':ByteArray),i = .int .i64 (k:Int)∧u = .string s'∧k≤N∧Vq base A db F d w0 tb x lo t w acc M b n pv (.slice la L lc) (.slice ca N cc) k wr)
   (fun i _ _=>N - (intOf i).toNat)
  case atStart=>exact ⟨0,s,rfl,rfl,aB _,zP.out⟩
  case round =>
   obtain ⟨k,s',rfl,rfl,hkN,hl⟩:=hrel;obtain ⟨Ju,Jt,Qf,hN4,hN5⟩:=HN.out;by_cases bK:k<N
   ·obtain ⟨u,hu⟩ : ∃ u,n.us[k]?=some u:=⟨_,af (by omega)⟩
    obtain ⟨c,hc⟩ : ∃ c,t.2.2[k]?=some c:=⟨_,af (by omega)⟩
    obtain ⟨g,o,rfl,P8⟩:=hl.sn.br.qT hu;obtain ⟨ut,ux,GZ⟩:=bP u;rw [GZ] at P8;have R7:Hid (∀ s,Calls prog 103 #[.iface ut ux,.string s,.int .i64 ((h:Int)+1),.pointer (some ⟨x.m,0,none⟩),.pointer (some ⟨x.f,0,none⟩),.pointer (some ⟨x.e,0,none⟩),.pointer (some ⟨x.t,0,none⟩),.pointer (some ⟨x.v,0,none⟩)] wr fun e w'=>e = .returned (.bool true)∧Vq base A db F d w0 tb x lo t w acc M b n pv (.slice la L lc) (.slice (some ⟨g,o,none⟩) N cc) (k+1) w'):=fun s=>by
     rw [← GZ];exact Nk.out k wr b n _ _ _ c u s hl hc (Nj.out k u c hu hc)
    have kv:wr.cell? ⟨x.v,0,none⟩=some (.func (.func 103) #[] #[.pointer (some ⟨x.m,0,none⟩),.pointer (some ⟨x.f,0,none⟩),.pointer (some ⟨x.e,0,none⟩),.pointer (some ⟨x.t,0,none⟩),.pointer (some ⟨x.v,0,none⟩)]):=by
     obtain ⟨v',Tk⟩:=hl.vs;exact Tk.cv
    have p2:=hl.sn.c2;have RO:(0:Int)≤(k:Int):=by omega
    have jx:(k:Int)<(N:Int):=by omega
    have UU:IntKind.i64.wrap ((k:Int)+1)=(k:Int)+1:=by rw [IntKind.wrap_i64];omega
    have hwd:IntKind.i64.wrap ((h:Int)+2 - 1)=(h:Int)+1:=by rw [IntKind.wrap_i64];omega
    have Uz:Hid (k+1≤N):=bK;cases k with
    | zero =>
     clear hl hu hc GZ Nk Nj bK hkN zP Ju Jt Qf hN4 hN5 p2;rw [show o+0=o from rfl] at P8
     rw [show ((0:Nat):Int)=0 from rfl] at *
     go_wp2_with fail;refine (R7.out _).mono ?_
     rintro e w4 ⟨rfl,FI⟩;have XE:=ab FI;clear FI R7;go_wp2;go_roundw
     case rel=>exact ⟨1,s',by rfl,rfl,Uz.out,XE.out⟩
     case measure=>simp [intOf];have:=Uz.out;omega
    | succ j =>
     have hj:j<n.lk.length:=by omega
     obtain ⟨la',lc',he,_,_,Cq⟩:=hl.sn.bh;obtain ⟨lg,lof,Cr,Va,_⟩:=Cq j hj;cases he;subst Cr;have Lp:(0:Int)≤(j:Int):=by omega
     have hj1:(j:Int)<(n.lk.length:Int):=by omega
     have hj4:(j:Int)<4000:=by omega
     have p9:(0:Int)≤(j:Int)+1:=by omega
     have X7:(j:Int)+1<(N:Int):=by omega
     have ac0:IntKind.i64.wrap ((j:Int)+1+1)=(j:Int)+1+1:=by rw [IntKind.wrap_i64];omega
     obtain ⟨ks,jo⟩ : ∃ ks,ks=n.lk[j].1:=⟨_,rfl⟩;rw [← jo] at Va;clear hl hu hc GZ Nk Nj bK hkN zP Ju Jt Qf hN4 hN5 Cq jo RO jx UU;go_wp2_with fail;refine (R7.out _).mono ?_
     rintro e w4 ⟨rfl,FI⟩;have XE:=ab FI;clear FI R7;go_wp2;go_roundw
     case rel=>exact ⟨j+1+1,ks,by simp [Int.natCast_add],rfl,Uz.out,XE.out⟩
     case measure=>simp [intOf];have:=Uz.out;omega
   ·have:k=N:=by omega
    subst this;have HE:Hid ((∃ v',Vs base A db F d w0 tb x lo wr v' (acc++dG (h+1) t) (M++dG (h+1) t))∧cW w wr):=by
     have:=hl.vs;rw [Oj (by omega)] at this
     exact ⟨this,hl.aw⟩
    clear hl Nk Nj HN zP Ju Jt Qf hN4 hN5;go_wp2;go_ret;exact ⟨rfl,HE.out⟩
end
end T
end Go.Proofs.YtihmgigfkmofnaaGreatDoor
