import Derived.Test.YtihmgigfkmofnaaGreatDoorG34
import Derived.Laws.EntriesVeiled
set_option maxHeartbeats 4000000
set_option maxRecDepth 100000
open Go.Proofs.Tryz
namespace Go.Proofs.YtihmgigfkmofnaaGreatDoor
namespace T
open Go.RowKit
theorem td{base:Nat}{F F':Nat→Prop}{w w':World}(h:S.V.Step F F' w w')(hs:base≤w.heap.size)(hF:∀ k,F k→base≤k):Below base w w'∧∀ k,F' k→base≤k:=by
 refine ⟨⟨h.os,h.tape,h.output,h.size,fun k hk=>h.block k (by omega) (fun e=>by have:=hF k e;omega)⟩,fun k hk=>?_⟩
 rcases h.sub k hk with e | e
 ·exact hF k e
 ·omega
section
variable {base:Nat} {A:Nat→Addr} {db:Nat} {F:Nat→Prop} {d d2:S.V.bD} {W0:World} {r:cT}
theorem Dv.step{F':Nat→Prop}{w w':World}(hv:Dv base A db F d w)(hs:S.V.Step F F' w w')(hd:∃ d',Nr d2 d'∧S.V.cM w' db F' d')(ha:d2.dead=false):Dv base A db F' d2 w':=by
 obtain ⟨hb,hF⟩:=td hs hv.env.errs.size hv.up;refine ⟨hd,hv.env.keep hb,⟨fun i hi=>?_,hv.errs.2⟩,hF,ha,hv.lo⟩
 obtain ⟨h1,c,t,h2⟩:=hv.errs.1 i hi;have hl:=hv.lo i hi;exact ⟨(hb.cell (p:=⟨fl i,0,none⟩) hl.1).trans h1,c,t,(hb.block _ hl.2).trans h2⟩
theorem Nk{w:World}(s:S.Sh)(hv:Dv base A db F d w)(hm:S.sS s)(hx:s.s7<18446744073709551616)(eE:(s.id+1)*8≤d.size)(hp:d.aS.length≤1000000)(ha:d.eQ=[]):Calls prog 62 #[.pointer (some ⟨db,0,none⟩),.agg s.cells.toArray] w fun e w'=>e = .returned .nilIface∧∃ F',Dv base A db F' (qp d s) w'∧S.V.Step F F' w w':=by
 obtain ⟨d',⟨n,rfl⟩,hd⟩:=hv.dev;refine (S.J7 base A db F { d with nr:=n } s w (by rw [hm.2.2.2];decide) hx hd hv.env hv.up hp hv.alive ha).mono ?_
 rintro e w' (⟨rfl,_,F',h1,h2⟩ | ⟨fy,_,_⟩)
 ·exact ⟨rfl,F',hv.step h2 ⟨_,⟨n,rfl⟩,h1⟩ hv.alive,h2⟩
 ·exact absurd ⟨hm,eE⟩ fy
def nu(d:S.V.bD):S.V.bD:={ d with eF:=S.V.gO d.eF d.aS,aS:=[],ns:=wrap64 (d.ns+1) }
theorem Ru{w:World}(hv:Dv base A db F d w)(hp:d.aS.length≤1000000)(ha:d.eQ=[]):Calls prog 63 #[.pointer (some ⟨db,0,none⟩)] w fun e w'=>e = .returned .nilIface∧∃ F',Dv base A db F' (nu d) w'∧S.V.Step F F' w w':=by
 obtain ⟨d',⟨n,rfl⟩,hd⟩:=hv.dev;have e1:({ d with nr:=n }:S.V.bD).sync=({ nu d with nr:=n },0):=by
  obtain ⟨sz,eF,aS,eQ,dead,nr,nw,ns⟩:=d;have h1:dead=false:=hv.alive;have h2:eQ=[]:=ha;subst h1 h2;rfl
 refine (S.V.Ni base A db F { d with nr:=n } w hd hv.env.errs hv.up (by show d.aS.length≤_;omega) (by show S.V.L6 base A db d.eQ;rw [ha];exact S.V.xq base A db)).mono ?_
 rintro e w' ⟨he,F',h1,h2⟩;rw [e1] at he h1;exact ⟨he,F',hv.step h2 ⟨_,⟨n,rfl⟩,h1⟩ hv.alive,h2⟩
end
theorem Iu{d:S.V.bD}(hs:∀ x ∈ d.aS,x.kS.size=512):cU (nu d)=cU d:=by
 funext id
 refine Ak rfl ?_
 rw [o9 d hs,o9 (nu d) (fun x hx=>by simp [nu] at hx)]
 rfl
def eI(d:S.V.bD)(Z:List S.Sh):S.V.bD:=Z.foldl qp d
theorem qo(d:S.V.bD)(Z:List S.Sh)(s:S.Sh):eI d (Z++[s])=qp (eI d Z) s:=by simp [eI,List.foldl_append]
theorem kZ{d:S.V.bD}:∀ (n:Nat) (Z:List S.Sh),Z.length=n→(eI d Z).size=d.size∧(eI d Z).eQ=d.eQ∧(eI d Z).dead=d.dead∧(eI d Z).aS.length=d.aS.length+8*Z.length∧(eI d Z).eF=d.eF
 | 0,Z,hl=>by
  have:Z=[]:=List.length_eq_zero_iff.1 hl;subst this;exact ⟨rfl,rfl,rfl,rfl,rfl⟩
 | n+1,Z,hl=>by
  have ey:Z≠[]:=fun e=>by rw [e] at hl;cases hl
  have e:=iu ey;have h1:Z.dropLast.length=n:=by rw [List.length_dropLast];omega
  obtain ⟨a1,a2,a3,a4,a5⟩:=kZ (d:=d) n Z.dropLast h1;rw [← e,qo];refine ⟨a1,a2,a3,?_,a5⟩;show ((eI d Z.dropLast).aS++S.V.chunks _ _ 8).length=_
  rw [ae,S.V.yw,a4,ae,aO];omega
def Qg(sz:Int)(s:S.Sh):Prop:=S.sS s∧s.s7<18446744073709551616∧(s.id+1)*8≤sz
theorem Dj{d:S.V.bD}(hs:∀ x ∈ d.aS,x.kS.size=512):∀ (n:Nat) (Z:List S.Sh),Z.length=n→(∀ s ∈ Z,Qg d.size s)→(Z.map (·.id)).Nodup →
  (∀ x ∈ (eI d Z).aS,x.kS.size=512)∧(∀ id,(∀ s ∈ Z,s.id≠id)→cU (eI d Z) id=cU d id)∧∀ s ∈ Z,∀ p,gE s p→cU (eI d Z) s.id=some p
 | 0,Z,hl,_,_=>by
  have:Z=[]:=List.length_eq_zero_iff.1 hl;subst this;exact ⟨hs,fun _ _=>rfl,fun s h=>by simp at h⟩
 | n+1,Z,hl,hc,hn=>by
  have ey:Z≠[]:=fun e=>by rw [e] at hl;cases hl
  have e:=iu ey;have h1:Z.dropLast.length=n:=by rw [List.length_dropLast];omega
  obtain ⟨s,qE⟩ : ∃ s,s=Z.getLast ey:=⟨_,rfl⟩;rw [← qE] at e;have fG:Qg d.size s:=hc s (by rw [← e];simp)
  rw [← e,aW,List.nodup_append] at hn;obtain ⟨g1,g2,g3⟩:=Dj hs n Z.dropLast h1 (fun x hx=>hc x (List.dropLast_subset Z hx)) hn.1
  obtain ⟨a1,a2,a3,a4,a5⟩:=kZ (d:=d) n Z.dropLast h1;have cp:(qp (eI d Z.dropLast) s).size=d.size:=a1;have Ss:=fun i=>NF (d:=eI d Z.dropLast) fG.1 g1 i
  have Ys:∀ id,id≠s.id→cU (qp (eI d Z.dropLast) s) id=cU (eI d Z.dropLast) id:=fun id hid=>Ak rfl (by rw [Ss,if_neg hid])
  rw [← e,qo];refine ⟨Dk fG.1 g1,fun id hid=>?_,fun x hx p hp=>?_⟩
  ·rw [Ys id (fun e=>hid s (by simp) e.symm)]
   exact g2 id fun x hx=>hid x (by simp [hx])
  ·rcases List.mem_append.1 hx with hx | hx
   ·have BQ:x.id≠s.id:=hn.2.2 _ (gK hx) _ (by simp)
    rw [Ys _ BQ];exact g3 x hx p hp
   ·have hxs:x=s:=by simpa using hx
    subst hxs;refine RR ⟨fG.1,fG.2.1,rfl,by rw [cp];exact fG.2.2,?_⟩ hp
    rw [Ss,if_pos rfl]
theorem Ns{tx id:Nat}{p:PD}(hp:U0 p):gE (jM tx (id,p)) p:=by
 cases p with
 | leaf l =>
  have h:=SZ (l:=l) hp;refine .inl ⟨rfl,?_,?_⟩
  ·show mx ((l.length:Int).toNat) (tQ l).data.toList
   rw [bn];simpa [tQ] using h.1
  ·show PD.leaf l = .leaf (B2 ((l.length:Int).toNat) (tQ l).data.toList)
   rw [bn];have:B2 l.length (tQ l).data.toList=l:=by simpa [tQ] using h.2
   rw [this]
 | br f lk =>
  have h:=B.PO (f:=f) (l:=lk) hp;refine .inr ⟨rfl,?_,?_⟩
  ·show B.vz (((lk.length:Int)+1).toNat) (B.pP f lk).data.toList
   rw [show ((lk.length:Int)+1).toNat=lk.length+1 by omega]
   simpa [B.pP] using h.1
  ·show PD.br f lk = .br (B.FG (bT (B.pP f lk).data.toList ((lk.length:Int)+1).toNat)) (B.B7 (bT (B.pP f lk).data.toList ((lk.length:Int)+1).toNat))
   rw [show ((lk.length:Int)+1).toNat=lk.length+1 by omega]
   have h2:B.FG (bT (B.pP f lk).data.toList (lk.length+1))=f:=by simpa [B.pP] using h.2.1
   have h3:B.B7 (bT (B.pP f lk).data.toList (lk.length+1))=lk:=by simpa [B.pP] using h.2.2
   rw [h2,h3]
theorem D0{α β γ:Type}(g:α→Nat→β × List γ):∀ (cs:List α) (k:Nat) (x:γ),x ∈ (bU g cs k).2→∃ (i:Nat) (c:α) (ki:Nat),cs[i]?=some c∧x ∈ (g c ki).2∧(bU g cs k).1[i]?=some (g c ki).1
 | [],_,x,h=>by simp [bU] at h
 | c::cs,k,x,h=>by
  rcases List.mem_append.1 h with h | h
  ·exact ⟨0,c,k,rfl,h,rfl⟩
  ·obtain ⟨i,c',ki,h1,h2,h3⟩:=D0 g cs _ x h;exact ⟨i+1,c',ki,h1,h2,h3⟩
theorem I5{PG:Int→Option PD}{w:World}{P:Nat→Nat}(hP:∀ j,2≤P j∧P j<1048576):∀ (h:Nat) {p:C.Ch} {t:Nd h} (k:Nat),eo PG w h p t→MC h t→(cD h (aT P h t k).1).Nodup→∀ x ∈ (aT P h t k).2,U0 x.2
 | 0,p,t,k,hk,ho,hn,x,hx=>by
  by_cases h0:t.1=0
  ·have e1:aT P 0 t k=((P k,t.2),[(P k,.leaf t.2)]):=if_pos h0;rw [e1] at hx;have hx:x=(P k,.leaf t.2):=by simpa using hx
   subst hx;exact Dz ho
  ·have e1:aT P 0 t k=(t,[]):=if_neg h0;rw [e1] at hx;simp at hx
 | h+1,p,t,k,hk,ho,hn,x,hx=>by
  by_cases h0:t.1=0
  ·obtain ⟨R,hR⟩ : ∃ R,R=bU (aT P h) t.2.2 k:=⟨_,rfl⟩;have e1:aT P (h+1) t k=((P (k+R.2.length),t.2.1,R.1),R.2++[(P (k+R.2.length),.br (lz R.1) (qv t.2.1 R.1))]):=by rw [hR];exact if_pos h0
   rw [e1] at hx hn;have hn':(R.1.flatMap (cD h)).Nodup:=by
    have h9:(cJ (P (k+R.2.length))++R.1.flatMap (cD h)).Nodup:=hn;exact h9.sublist (dA _ _)
   cases p with
   | pg id =>
    have hk:gC PG (h+1) id t:=hk;exact absurd h0 (by have:=hk.1;have:=hk.2.1;omega)
   | nd b =>
    obtain ⟨_,n,xv,lv,cv,xT,ji⟩:=hk;have Ms:n.us.length=t.2.2.length:=ji.1;rcases List.mem_append.1 hx with hx | hx
    ·rw [hR] at hx;obtain ⟨i,c,ki,h1,h2,h3⟩:=D0 (aT P h) t.2.2 k x hx;rw [← hR] at h3;obtain ⟨q,hq⟩ : ∃ q,n.us[i]?=some q:=⟨_,af (by have:=(List.getElem?_eq_some_iff.1 h1).1;omega)⟩
     exact I5 hP h ki (ji.rh hq h1) (rO ho h1) (xz hn' h3) x h2
    ·have hx:x=(P (k+R.2.length),.br (lz R.1) (qv t.2.1 R.1)):=by simpa using hx
     subst hx;obtain ⟨⟨tn,oE,cC⟩,cp,jT⟩:=ho;have Xb:=(iA h t tn oE).1 cC;have Sw:ig (mF h) tn oE t.2.1 R.1:=by
      rw [hR];exact vR (fun t k lo hi hf=>⟨qy h t k lo hi hf.1,by unfold Full;rw [BH];exact hf.2⟩) t.2.2 t.2.1 k tn oE Xb
     refine Qi Sw cp jT (fun c' uK=>?_) hn'
     obtain ⟨i,hi,hv⟩:=aI uK;have Mw:i<t.2.2.length:=by rw [hR,ir] at hi;exact hi
     have KY:t.2.2[i]?=some t.2.2[i]:=af Mw;obtain ⟨ki,g1,_⟩:=r9 (aT P h) t.2.2 k i _ KY;rw [← hR,af hi,hv] at g1;cases g1;obtain ⟨q,hq⟩ : ∃ q,n.us[i]?=some q:=⟨_,af (by omega)⟩
     exact Ax hP (ji.rh hq KY) ki
  ·have e1:aT P (h+1) t k=(t,[]):=if_neg h0;rw [e1] at hx;simp at hx
theorem PN{l:List Pr}(h:fQ l≤4072):(tQ l).size=4072:=by
 have h1:=rY (l.map fs) (by rw [qm];exact h)
 show (jl (l.map fs)).toArray.size=4072
 simpa using h1
theorem Lp{f:Int}{l:List B.Lk}(h:B.jw l≤4072):(B.pP f l).size=4072:=by
 have h1:=rY (B.dw f l) (by rw [B.oc];exact h)
 show (jl (B.dw f l)).toArray.size=4072
 simpa using h1
theorem It:∀ l:List B.Lk,l.length≤B.jw l
 | []=>by simp
 | p::l=>by
  have:=It l;have e:B.jw (p::l)=B.yZ p+B.jw l:=by simp [B.jw];omega
  have:1≤B.yZ p:=by unfold B.yZ;omega
  rw [List.length_cons];omega
theorem US{tx id:Nat}{p:PD}(hp:U0 p)(h1:2≤id)(h2:id<1048576):S.sS (jM tx (id,p)):=by
 cases p with
 | leaf l =>
  have hc:=sD hp;have hl:=ko l;exact ⟨.inr rfl,⟨by show (0:Int)≤(l.length:Int);omega,by show (l.length:Int)≤65535;omega⟩,⟨by show (2:Int)≤(id:Int);omega,by show (id:Int)<1048576;omega⟩,PN hc.2.2.1⟩
 | br f lk =>
  have hc:=B.kD hp;have hl:=It lk;exact ⟨.inl rfl,⟨by show (0:Int)≤(lk.length:Int)+1;omega,by show (lk.length:Int)+1≤65535;omega⟩,⟨by show (2:Int)≤(id:Int);omega,by show (id:Int)<1048576;omega⟩,Lp hc.2.2.2.2.2.1⟩
theorem IC{tx:Nat}(x:Nat × PD):(jM tx x).id=(x.1:Int)∧(jM tx x).s7=tx:=by
 obtain ⟨i,p⟩:=x;cases p <;> exact ⟨rfl,rfl⟩
theorem CZ{d:S.V.bD}{r:cT}{w:World}{rv:Value}{T:Nat→Bool}{PP tx:Nat}(hr:gA (cU d) w rv r)(cC:dU r)(hk:Q.qc PP T)(hn:bY r≤(Q.fY T PP).length)(ji:(bz r).Nodup)(Fz:∀ i ∈ bz r,T i=true)(hs:∀ x ∈ d.aS,x.kS.size=512)(cp:d.size=8*(PP:Int))(QV:tx<18446744073709551616):(∀ s ∈ (jk (fi (Q.fj T PP (bY r))) r).2.map (jM tx),Qg d.size s)∧(∀ x ∈ (eI d ((jk (fi (Q.fj T PP (bY r))) r).2.map (jM tx))).aS,x.kS.size=512)∧∀ w',gA (cU (nu (eI d ((jk (fi (Q.fj T PP (bY r))) r).2.map (jM tx))))) w' (lL (jk (fi (Q.fj T PP (bY r))) r).1) (jk (fi (Q.fj T PP (bY r))) r).1:=by
 obtain ⟨vp,K4⟩:=qz hk hn ji Fz;have MA:=fun j=>mP (n:=bY r) hk j
 obtain ⟨L,hL⟩ : ∃ L,L=Q.fj T PP (bY r):=⟨_,rfl⟩;have hLt:∀ i ∈ L,i<PP∧T i=false:=fun i hi=>by rw [hL] at hi;exact Q.rT hi
 have Jl:L.Nodup:=by rw [hL];exact xD _ _ _
 rw [← hL] at vp K4 MA ⊢;rcases hr with ⟨rfl,rfl⟩ | ⟨p,h,t,rfl,rfl,ri⟩
 ·exact ⟨fun s hx=>by simp [jk] at hx,hs,fun w'=>.inl ⟨rfl,rfl⟩⟩
 ·have YU:(aT (fi L) h t 0).2.map (·.1)=L:=by
   have:=BI (P:=fi L) h t 0;rw [this,pz,show fA h t=L.length from K4.symm,D7]
  have Vr:∀ x ∈ (aT (fi L) h t 0).2,x.1 ∈ L:=fun x hx=>by rw [← YU];exact gK hx
  have Y5:=I5 MA h 0 ri (Dy cC) vp;have hL2:∀ i ∈ L,2≤i:=fun i hi=>by
   obtain ⟨j,hj,rfl⟩:=aI hi;have:=(MA j).1;unfold fi at this;rw [aJ,af hj] at this;exact this
  have Pq:∀ s ∈ (aT (fi L) h t 0).2.map (jM tx),Qg d.size s:=fun s hx=>by
   obtain ⟨x,sM,rfl⟩:=List.mem_map.1 hx;have h1:=hLt _ (Vr x sM);have h2:=hL2 _ (Vr x sM);have h3:=hk.hi;have h4:=IC (tx:=tx) x;refine ⟨?_,by rw [h4.2];exact QV,by rw [h4.1,cp];omega⟩
   obtain ⟨i,q⟩:=x;exact US (Y5 _ sM) h2 (by have:i<PP:=h1.1;omega)
  have ach:(((aT (fi L) h t 0).2.map (jM tx)).map (·.id)).Nodup:=by
   have e:((aT (fi L) h t 0).2.map (jM tx)).map (·.id)=L.map fun n:Nat=>(n:Int):=by
    have e2:L.map (fun n:Nat=>(n:Int))=((aT (fi L) h t 0).2.map (·.1)).map fun n:Nat=>(n:Int):=by rw [YU]
    rw [e2,eG,eG];apply gL
    intro x _;exact (IC x).1
   rw [e];exact List.Pairwise.map _ (fun a b zh e=>zh (by omega)) Jl
  obtain ⟨g1,g2,g3⟩:=Dj hs _ _ rfl Pq ach;refine ⟨Pq,g1,fun w'=>.inr ⟨.pg (eX h (aT (fi L) h t 0).1:Int),h,(aT (fi L) h t 0).1,rfl,rfl,?_⟩⟩
  show gC _ h _ _
  refine xH MA h 0 ri ⟨none,none,cC.1⟩ (fun i hi=>?_) fun x hx=>?_
  ·show cU (nu (eI d ((aT (fi L) h t 0).2.map (jM tx)))) _=_
   rw [Iu g1];refine g2 _ fun s hx e=>?_
   obtain ⟨x,sM,rfl⟩:=List.mem_map.1 hx;rw [(IC x).1] at e;have h1:=(hLt _ (Vr x sM)).2;have h2:=Fz i hi;have e':x.1=i:=by omega
   rw [e',h2] at h1;cases h1
  ·show cU (nu (eI d ((aT (fi L) h t 0).2.map (jM tx)))) _=_
   rw [Iu g1,← (IC (tx:=tx) x).1];refine g3 _ (gK hx) x.2 ?_
   obtain ⟨i,q⟩:=x;exact Ns (Y5 _ hx)
attribute [local go_sem ↓] Go.wp_at_zero Go.wp_at_succ
theorem AR(w W:World)(a b c e:Value)(TA TB TC TE:TypeId)(hW:(((w.alloc (.cells #[a] TA)).alloc (.cells #[b] TB)).alloc (.cells #[c] TC)).alloc (.cells #[e] TE)=W):Below w.heap.size w W∧W.heap.size=w.heap.size+1+1+1+1∧B.au W w.heap.size #[a] TA∧B.au W (w.heap.size+1) #[b] TB∧B.au W (w.heap.size+1+1) #[c] TC∧B.au W (w.heap.size+1+1+1) #[e] TE:=by
 obtain ⟨W1,h1⟩ : ∃ W1,W1=w.alloc (.cells #[a] TA):=⟨_,rfl⟩;obtain ⟨W2,h2⟩ : ∃ W2,W2=W1.alloc (.cells #[b] TB):=⟨_,rfl⟩;obtain ⟨W3,h3⟩ : ∃ W3,W3=W2.alloc (.cells #[c] TC):=⟨_,rfl⟩;rw [← h1,← h2,← h3] at hW;have s1:W1.heap.size=w.heap.size+1:=by rw [h1];simp
 have s2:W2.heap.size=w.heap.size+1+1:=by rw [h2,← s1];simp
 have s3:W3.heap.size=w.heap.size+1+1+1:=by rw [h3,← s2];simp
 have b1:Below w.heap.size w W1:=h1▸ai w _;have b2:Below W1.heap.size W1 W2:=h2▸ai W1 _;have b3:Below W2.heap.size W2 W3:=h3▸ai W2 _;have b4:Below W3.heap.size W3 W:=hW▸ai W3 _;have r1:B.au W1 w.heap.size #[a] TA:=h1▸B.au.new w _ _;have r2:B.au W2 W1.heap.size #[b] TB:=h2▸B.au.new W1 _ _;have r3:B.au W3 W2.heap.size #[c] TC:=h3▸B.au.new W2 _ _;have r4:B.au W W3.heap.size #[e] TE:=hW▸B.au.new W3 _ _;rw [s1] at r2;rw [s2] at r3;rw [s3] at r4;exact ⟨Below.next (Below.next (Below.next b1 b2) b3) b4,by rw [← hW,← s3];simp,((r1.below b2).below b3).below b4,(r2.below b3).below b4,r3.below b4,r4⟩
theorem Le(w W:World)(a b c e:Value)(TA TB TC TE:TypeId)(hW:((((w.alloc (.cells #[a] TA)).alloc (.cells #[b] TB)).alloc (.map #[] 0)).alloc (.cells #[c] TC)).alloc (.cells #[e] TE)=W):Below w.heap.size w W∧W.heap.size=w.heap.size+1+1+1+1+1∧B.au W w.heap.size #[a] TA∧B.au W (w.heap.size+1) #[b] TB∧W.heap[w.heap.size+1+1]?=some (.map #[] 0)∧B.au W (w.heap.size+1+1+1) #[c] TC∧B.au W (w.heap.size+1+1+1+1) #[e] TE:=by
 obtain ⟨W1,h1⟩ : ∃ W1,W1=w.alloc (.cells #[a] TA):=⟨_,rfl⟩;obtain ⟨W2,h2⟩ : ∃ W2,W2=W1.alloc (.cells #[b] TB):=⟨_,rfl⟩;obtain ⟨W3,h3⟩ : ∃ W3,W3=W2.alloc (.map #[] 0):=⟨_,rfl⟩;obtain ⟨W4,h4⟩ : ∃ W4,W4=W3.alloc (.cells #[c] TC):=⟨_,rfl⟩;rw [← h1,← h2,← h3,← h4] at hW;have s1:W1.heap.size=w.heap.size+1:=by rw [h1];simp
 have s2:W2.heap.size=w.heap.size+1+1:=by rw [h2,← s1];simp
 have s3:W3.heap.size=w.heap.size+1+1+1:=by rw [h3,← s2];simp
 have s4:W4.heap.size=w.heap.size+1+1+1+1:=by rw [h4,← s3];simp
 have b1:Below w.heap.size w W1:=h1▸ai w _;have b2:Below W1.heap.size W1 W2:=h2▸ai W1 _;have b3:Below W2.heap.size W2 W3:=h3▸ai W2 _;have b4:Below W3.heap.size W3 W4:=h4▸ai W3 _;have b5:Below W4.heap.size W4 W:=hW▸ai W4 _;have r1:B.au W1 w.heap.size #[a] TA:=h1▸B.au.new w _ _;have r2:B.au W2 W1.heap.size #[b] TB:=h2▸B.au.new W1 _ _;have r3:W3.heap[W2.heap.size]?=some (.map #[] 0):=h3▸heap_alloc_new W2 _;have r4:B.au W4 W3.heap.size #[c] TC:=h4▸B.au.new W3 _ _;have r5:B.au W W4.heap.size #[e] TE:=hW▸B.au.new W4 _ _;have e3:W.heap[W2.heap.size]?=some (.map #[] 0):=(b5.block _ (by omega)).trans ((b4.block _ (by omega)).trans r3)
 rw [s1] at r2;rw [s2] at e3;rw [s3] at r4;rw [s4] at r5;exact ⟨Below.next (Below.next (Below.next (Below.next b1 b2) b3) b4) b5,by rw [← hW,← s4];simp,(((r1.below b2).below b3).below b4).below b5,((r2.below b3).below b4).below b5,e3,r4.below b5,r5⟩
theorem yJ.lower{w:World}{lo tn:Nat}{v:Value}{l:List Pr}(h:yJ w lo v l)(hl:tn≤lo):yJ w tn v l:=by
 refine ⟨⟨h.1.1,?_⟩,h.2⟩;rcases h.1.2 with h' | ⟨g,cap,cur,h',h1,h2⟩
 ·exact .inl h'
 ·exact .inr ⟨g,cap,cur,h',aq hl h1,h2⟩
theorem Met.made{w:World}{b:Nat}(h:w.heap[b]?=some (.map #[] 0)):Met w b []:=by
 obtain ⟨es,clock,h1,h2⟩:=World.ownsMap_made w prog 3 (unitElem (H:=Unit));have h3:(w.alloc (.map #[] 0)).heap[w.heap.size]?=some (.map #[] 0):=heap_alloc_new w _;rw [h3] at h1;cases h1;exact ⟨fun i hi=>by simp at hi,⟨#[],0,h,h2⟩⟩
section
variable {base:Nat} {A:Nat→Addr} {db:Nat} {F:Nat→Prop} {d:S.V.bD} {w0:World} {tb:Nat} {x:Bx} {fr en:ByteArray} {lim lo:Nat} {W0:World} {r:cT}
theorem ym{rv:Value}(il:Dv base A db F d w0)(GQ:B.au w0 tb #[.pointer (some ⟨db,0,none⟩),rv] 100)(Ud:lim≤9223372036854775807):∀ h,JI base A db F d w0 tb x fr en lim lo h
 | 0=>fun p t dp w v acc M hk nQ hg Pl dV _ lx mS=>Ev il GQ p t dp w v acc M hk nQ hg (by omega) Ud dV lx mS
 | h+1=>zM (ym il GQ Ud h) il GQ
theorem Gk{w:World}(hc:Ts base A db F d W0 w tb r)(hn:(aP r).length*32≤140737488355328)(ji:(bz r).Nodup)(FA:(bz r).length<1099511627776)(Ud:lim≤9223372036854775807):Calls prog 59 #[.pointer (some ⟨tb,0,none⟩),.string fr,.string en,.int .i64 (lim:Int)] w fun e w'=>(∃ v,e = .returned (.tuple #[v,.nilIface])∧yJ w' w.heap.size v (((aP r).filter (nE fr en)).take lim))∧Dv base A db F d w'∧Mv db F w w':=by
 have O5:=@run_makeMap prog;obtain ⟨rv,ht,hr⟩:=hc.tr;have c1:=ht.c1;have ly:¬ (lim:Int)<0:=by omega
 rcases hr with ⟨rfl,rfl⟩ | ⟨p,h,t,rfl,rfl,hk⟩
 ·obtain ⟨W4,Up⟩ : ∃ W4,(((w.alloc (.cells #[.pointer (some ⟨tb,0,none⟩)] 38)).alloc (.cells #[.string fr] 9)).alloc (.cells #[.string en] 9)).alloc (.cells #[.int .i64 (lim:Int)] 3)=W4:=⟨_,rfl⟩;obtain ⟨gH,s4,r0,r1,r2,r3⟩:=AR w W4 _ _ _ _ _ _ _ _ Up;obtain ⟨H,hH⟩ : ∃ H,H=w.heap.size:=⟨_,rfl⟩;rw [← hH] at s4 r0 r1 r2 r3;have q0:=r0.cell 0 (by simp)
  have q3:=r3.cell 0 (by simp)
  have q4:W4.cell? ⟨tb,1,none⟩=some .nilIface:=(gH.cell (p:=⟨tb,1,none⟩) (World.block_lt_of_cell? w _ c1)).trans c1;have gY:=ab gH;have HC:=ab hc;have hHs:=hH.symm;clear hc ht c1 r0 r1 r2 r3 gH hH;go_enter func59,ntmps59;go_wp2;go_ret2;exact ⟨⟨_,rfl,by show yJ _ _ _ (List.take lim []);rw [List.take_nil];exact yJ.nil _ _⟩,HC.out.dv.below gY.out,Mv.of gY.out⟩
 ·have cC:dU (some ⟨h,t⟩):=hc.ok;have kU:(flat h t).length*32≤140737488355328:=hn;have AH:(cD h t).Nodup:=ji;have QW:(cD h t).length<1099511627776:=FA;obtain ⟨H,hH⟩ : ∃ H,H=w.heap.size:=⟨_,rfl⟩;obtain ⟨W4,Up⟩ : ∃ W4,(((w.alloc (.cells #[.pointer (some ⟨tb,0,none⟩)] 38)).alloc (.cells #[.string fr] 9)).alloc (.cells #[.string en] 9)).alloc (.cells #[.int .i64 (lim:Int)] 3)=W4:=⟨_,rfl⟩;obtain ⟨gH,s4,r0,r1,r2,r3⟩:=AR w W4 _ _ _ _ _ _ _ _ Up;rw [← hH] at s4 r0 r1 r2 r3;obtain ⟨W9,Zm⟩ : ∃ W9,((((W4.alloc (.cells #[.slice none 0 0] 63)).alloc (.cells #[.nilIface] 32)).alloc (.map #[] 0)).alloc (.cells #[.map (some (H+1+1+1+1+1+1))] 166)).alloc (.cells #[.nilFunc] 167)=W9:=⟨_,rfl⟩;obtain ⟨Ji,s9,r4,r5,r6,r7,r8⟩:=Le W4 W9 _ _ _ _ _ _ _ _ Zm;rw [s4] at s9 r4 r5 r6 r7 r8;have q0:=r0.cell 0 (by simp)
  have q3:=r3.cell 0 (by simp)
  obtain ⟨vt,vx,iB⟩:=bJ p;have q4:W4.cell? ⟨tb,1,none⟩=some (.iface vt vx):=(gH.cell (p:=⟨tb,1,none⟩) (World.block_lt_of_cell? w _ c1)).trans (by rw [← iB];exact c1)
  have q8:=r8.cell 0 (by simp)
  have f8:W9.frozen? ⟨H+1+1+1+1+1+1+1+1,0,none⟩=false:=by unfold B.au at r8;simp [World.frozen?,r8]
  obtain ⟨W,hW⟩ : ∃ W,W9.setCell ⟨H+1+1+1+1+1+1+1+1,0,none⟩ (.func (.func 90) #[] #[.pointer (some ⟨H+1+1+1+1+1+1+1,0,none⟩),.pointer (some ⟨H+1+1+1+1+1,0,none⟩),.pointer (some ⟨H,0,none⟩),.pointer (some ⟨H+1,0,none⟩),.pointer (some ⟨H+1+1,0,none⟩),.pointer (some ⟨H+1+1+1+1,0,none⟩),.pointer (some ⟨H+1+1+1,0,none⟩),.pointer (some ⟨H+1+1+1+1+1+1+1+1,0,none⟩)])=W:=⟨_,rfl⟩;have dB:=bK.set (H+1+1+1+1+1+1+1+1) 0 W9 (.func (.func 90) #[] #[.pointer (some ⟨H+1+1+1+1+1+1+1,0,none⟩),.pointer (some ⟨H+1+1+1+1+1,0,none⟩),.pointer (some ⟨H,0,none⟩),.pointer (some ⟨H+1,0,none⟩),.pointer (some ⟨H+1+1,0,none⟩),.pointer (some ⟨H+1+1+1+1,0,none⟩),.pointer (some ⟨H+1+1+1,0,none⟩),.pointer (some ⟨H+1+1+1+1+1+1+1+1,0,none⟩)]);rw [hW] at dB;have hb:Below w.heap.size w W9:=Below.next gH Ji;have Jh:Below w.heap.size w W:=⟨dB.os.trans hb.os,dB.tape.trans hb.tape,dB.output.trans hb.output,aq hb.size dB.size,fun k hk=>(dB.block k (by have:=hb.size;omega) (by omega)).trans (hb.block k hk)⟩
  have bV:∀ {k:Nat} {cs:Array Value} {T:TypeId},k<H+1+1+1+1+1+1+1+1→B.au W9 k cs T→B.au W k cs T:=fun {k cs T} hk hr=>(dB.block k (by omega) (by omega)).trans hr
  have u0:=bV (by omega) (r0.below Ji)
  have u1:=bV (by omega) (r1.below Ji)
  have u2:=bV (by omega) (r2.below Ji)
  have u3:=bV (by omega) (r3.below Ji)
  have u4:=bV (by omega) r4
  have u5:=bV (by omega) r5
  have u6:W.heap[H+1+1+1+1+1+1]?=some (.map #[] 0):=(dB.block _ (by omega) (by omega)).trans r6
  have u7:=bV (by omega) r7
  have u8:B.au W (H+1+1+1+1+1+1+1+1) #[(.func (.func 90) #[] #[.pointer (some ⟨H+1+1+1+1+1+1+1,0,none⟩),.pointer (some ⟨H+1+1+1+1+1,0,none⟩),.pointer (some ⟨H,0,none⟩),.pointer (some ⟨H+1,0,none⟩),.pointer (some ⟨H+1+1,0,none⟩),.pointer (some ⟨H+1+1+1+1,0,none⟩),.pointer (some ⟨H+1+1+1,0,none⟩),.pointer (some ⟨H+1+1+1+1+1+1+1+1,0,none⟩)])] 167:=hW▸rz r8 _;have hGS:Gs base A db F d w tb ⟨H+1+1+1+1+1+1+1,H+1+1+1+1+1+1,H,H+1+1+1+1+1,H+1,H+1+1,H+1+1+1+1,H+1+1+1,H+1+1+1+1+1+1+1+1⟩ fr en lim (H+1+1+1+1+1+1+1+1+1) W (.slice none 0 0) [] []:=by
   have jq:db<w.heap.size:=by
    obtain ⟨d',_,mb,nb,QS,av,Dn,hb⟩:=hc.dv.dev;exact (Array.getElem?_eq_some_iff.1 hb.dy).1
   refine ⟨hc.dv.below Jh,Mv.of Jh,u7.cell 0 (by simp),u0.cell 0 (by simp),u5.cell 0 (by simp),u1.cell 0 (by simp),u2.cell 0 (by simp),u3.cell 0 (by simp),u8.cell 0 (by simp),u4,yJ.nil _ _,aC _,Met.made u6,by simp,?_,?_,jq,?_⟩
   ·intro b hb;simp only [dG,dx,or_false] at hb;omega
   ·intro b hb;simp only [dG,dx,or_false] at hb;show b≠H+1+1+1+1
    omega
   ·have:=dB.size;omega
  have El:=og cC (by omega)
  have Wy:Hid (∀ W',Below W.heap.size W W'→Calls prog 90 #[p.val,.int .i64 ((1:Nat):Int),.pointer (some ⟨H+1+1+1+1+1+1+1,0,none⟩),.pointer (some ⟨H+1+1+1+1+1,0,none⟩),.pointer (some ⟨H,0,none⟩),.pointer (some ⟨H+1,0,none⟩),.pointer (some ⟨H+1+1,0,none⟩),.pointer (some ⟨H+1+1+1+1,0,none⟩),.pointer (some ⟨H+1+1+1,0,none⟩),.pointer (some ⟨H+1+1+1+1+1+1+1+1,0,none⟩)] W' (Fo base A db F d w tb ⟨H+1+1+1+1+1+1+1,H+1+1+1+1+1+1,H,H+1+1+1+1+1,H+1,H+1+1,H+1+1+1+1,H+1+1+1,H+1+1+1+1+1+1+1+1⟩ fr en lim (H+1+1+1+1+1+1+1+1+1) W' (.slice none 0 0) [] (cD h t) (ft fr en lim h t []))):=fun W' Xg=>ym hc.dv ht Ud h p t 1 W' _ [] [] hk (lK cC) (hGS.below Xg) (by omega) (by simpa using kU) AH (fun _ _ h=>by simp at h) (by simpa using QW)
  have Ba:Hid (∀ W',Mv db F w W'→W'.cell? ⟨tb,1,none⟩=some p.val):=fun W' hm=>(dz (hm.cx hc.dv) ht).c1
  rw [iB,show ((1:Nat):Int)=1 from rfl] at Wy
  rw [iB] at Ba;have m0:W.cell? ⟨H,0,none⟩=some (.pointer (some ⟨tb,0,none⟩)):=u0.cell 0 (by simp)
  have m8:W.cell? ⟨H+1+1+1+1+1+1+1+1,0,none⟩=some (.func (.func 90) #[] #[.pointer (some ⟨H+1+1+1+1+1+1+1,0,none⟩),.pointer (some ⟨H+1+1+1+1+1,0,none⟩),.pointer (some ⟨H,0,none⟩),.pointer (some ⟨H+1,0,none⟩),.pointer (some ⟨H+1+1,0,none⟩),.pointer (some ⟨H+1+1+1+1,0,none⟩),.pointer (some ⟨H+1+1+1,0,none⟩),.pointer (some ⟨H+1+1+1+1+1+1+1+1,0,none⟩)]):=u8.cell 0 (by simp)
  have m4:W.cell? ⟨tb,1,none⟩=some (.iface vt vx):=(Jh.cell (p:=⟨tb,1,none⟩) (World.block_lt_of_cell? w _ c1)).trans (by rw [← iB];exact c1)
  have qZ:=ab cC;have hHs:=hH.symm;clear gH Ji hc ht hk c1 r0 r1 r2 r3 r4 r5 r6 r7 r8 u0 u1 u2 u3 u4 u5 u6 u7 u8 bV dB hb Jh hGS El cC AH QW kU hn ji FA iB hH;go_enter func59,ntmps59;go_wp2_with fail;go_region_held3 (fun w'=>w'.cell? ⟨H,0,none⟩=some (.pointer (some ⟨tb,0,none⟩))∧w'.cell? ⟨H+1+1+1+1+1+1+1+1,0,none⟩=some (.func (.func 90) #[] #[.pointer (some ⟨H+1+1+1+1+1+1+1,0,none⟩),.pointer (some ⟨H+1+1+1+1+1,0,none⟩),.pointer (some ⟨H,0,none⟩),.pointer (some ⟨H+1,0,none⟩),.pointer (some ⟨H+1+1,0,none⟩),.pointer (some ⟨H+1+1+1+1,0,none⟩),.pointer (some ⟨H+1+1+1,0,none⟩),.pointer (some ⟨H+1+1+1+1+1+1+1+1,0,none⟩)])∧w'.cell? ⟨tb,1,none⟩=some (.iface vt vx)) (go_keep)
   (first
    | (go_at_call 90;refine (Wy.out _ (by first | exact Below.refl _ _ | exact B.aR (Below.refl _ _))).mono ?_;rintro e w2 ⟨v',M',rfl,pN,Xd,-,-⟩;have QM:=ab pN;have n0:w2.cell? ⟨H,0,none⟩=some (.pointer (some ⟨tb,0,none⟩)):=pN.ct;have n8:w2.cell? ⟨H+1+1+1+1+1+1+1+1,0,none⟩=some (.func (.func 90) #[] #[.pointer (some ⟨H+1+1+1+1+1+1+1,0,none⟩),.pointer (some ⟨H+1+1+1+1+1,0,none⟩),.pointer (some ⟨H,0,none⟩),.pointer (some ⟨H+1,0,none⟩),.pointer (some ⟨H+1+1,0,none⟩),.pointer (some ⟨H+1+1+1+1,0,none⟩),.pointer (some ⟨H+1+1+1,0,none⟩),.pointer (some ⟨H+1+1+1+1+1+1+1+1,0,none⟩)]):=pN.cg;have n4:=Ba.out _ pN.mv;have kf:w2.cell? ⟨H+1+1+1+1+1,0,none⟩=some .nilIface:=pN.cf;have kp:w2.cell? ⟨H+1+1+1+1,0,none⟩=some v':=pN.row.cell 0 (by simp);clear pN Xd))
  obtain ⟨va,vn,vc,mQ⟩ : ∃ a n c,v' = .slice a n c:=by
   obtain ⟨a,c,h⟩:=QM.out.ps.1.form;exact ⟨a,_,c,h⟩
  subst mQ;have nM:Hid (yJ w2 w.heap.size (.slice va vn vc) (((flat h t).filter (nE fr en)).take lim)∧Dv base A db F d w2∧Mv db F w w2):=by
   have h1:=QM.out.ps;rw [K6 qZ.out.1] at h1;exact ⟨h1.lower (by omega),QM.out.dv,QM.out.mv⟩
  clear QM Wy n0 n8 n4 m0 m8 m4 Ba qZ hW Zm Up q0 q3 q4 q8 f8;go_wp2;go_ret2;exact ⟨⟨_,rfl,nM.out.1⟩,nM.out.2⟩
end
attribute [local go_sem ↓] Go.wp_at_zero Go.wp_at_succ
section
variable {base:Nat} {A:Nat→Addr} {db:Nat} {F:Nat→Prop} {d:S.V.bD} {w0:World} {tb:Nat} {x:Bv} {lo:Nat}
def Qt(base:Nat)(A:Nat→Addr)(db:Nat)(F:Nat→Prop)(d:S.V.bD)(w0:World)(tb:Nat)(x:Bv)(lo:Nat)(h:Nat):Prop :=
 ∀ (p:C.Ch) (t:Nd h) (s:ByteArray) (w:World) (v:Value) (acc M:List Nat),eo (cU d) w0 h p t→jt ⟨h,t⟩→Vs base A db F d w0 tb x lo w v acc M→(cD h t).Nodup→(∀ i ∈ cD h t,i ∉ M)→M.length+(cD h t).length<1099511627776→acc.length+(cD h t).length<1099511627776 →
  Calls prog 103 #[p.val,.string s,.int .i64 ((h:Int)+1),.pointer (some ⟨x.m,0,none⟩),.pointer (some ⟨x.f,0,none⟩),.pointer (some ⟨x.e,0,none⟩),.pointer (some ⟨x.t,0,none⟩),.pointer (some ⟨x.v,0,none⟩)] w
   fun e w'=>e = .returned (.bool true)∧(∃ v',Vs base A db F d w0 tb x lo w' v' (acc++cD h t) (M++cD h t))∧dd w w'
theorem FR(il:Dv base A db F d w0):Qt base A db F d w0 tb x lo 0:=by
 intro p t s w v acc M hk nQ hg ji lx mS FF;have Ig:=ab (hg.again il hk lx mS);have Wf:Hid (∀ W,Vs base A db F d w0 tb x lo W v acc (M++cJ (eX 0 t))→Calls prog 66 #[p.val,.string s,.int .i64 1,.pointer (some ⟨x.p,0,none⟩)] W fun e w'=>e = .returned (.tuple #[])∧(∃ v',Vs base A db F d w0 tb x lo w' v' (acc++cJ (eX 0 t)) (M++cJ (eX 0 t)))∧dd W w'):=fun W hW=>CU p (eX 0 t) (xK hk).1 s 1 hW il (by omega)
 obtain ⟨pt,px,iB⟩:=bJ p;rw [iB] at Ig Wf ⊢;have k0:=hg.cm;clear hg hk nQ il iB ji lx mS FF;rw [show ((0:Nat):Int)+1=1 from rfl]
 go_enter func103,ntmps103;go_wp2_with fail;refine Ig.out.mono ?_
 rintro e wa ⟨rfl,hga,OO⟩;have k1:=hga.ce;have ZO:=ab (Wf.out wa hga);have HA1:=ab OO;clear hga OO Wf Ig k0;go_wp2_with fail;refine ZO.out.mono ?_
 rintro e wb ⟨rfl,hvb,zh⟩;have HE:Hid ((∃ v',Vs base A db F d w0 tb x lo wb v' (acc++cD 0 t) (M++cD 0 t))∧dd w wb):=⟨hvb,HA1.out.trans zh⟩;clear hvb zh ZO;go_wp2;go_ret;exact ⟨rfl,HE.out⟩
def vi{h:Nat}(t:Nd (h+1))(k:Nat):List Nat:=cJ t.1++(t.2.2.take k).flatMap (cD h)
theorem Kl{h:Nat}(t:Nd (h+1)):vi t 0=cJ t.1:=by simp [vi]
theorem Km{h:Nat}{t:Nd (h+1)}{k:Nat}{c:Nd h}(hc:t.2.2[k]?=some c):vi t (k+1)=vi t k++cD h c:=by
 unfold vi;rw [xg hc,ax]
theorem NJ{h:Nat}{t:Nd (h+1)}{k:Nat}(hk:t.2.2.length≤k):vi t k=cD (h+1) t:=by
 unfold vi;rw [ar hk];rfl
theorem Dp{h:Nat}{t:Nd (h+1)}(k:Nat):(vi t k).Sublist (cD (h+1) t):=rF k
structure Uw(base:Nat)(A:Nat→Addr)(db:Nat)(F:Nat→Prop)(d:S.V.bD)(w0:World)(tb:Nat)(x:Bv)(lo:Nat){h:Nat}(t:Nd (h+1))(w:World)(acc M:List Nat)(b:Nat)(n:SN)(pv lv cv:Value)(k:Nat)(wr:World):Prop where
 vs:∃ v,Vs base A db F d w0 tb x lo wr v (acc++vi t k) (M++vi t k)
 aw:dd w wr
 sn:dM wr b n pv lv cv
theorem Uw.rh{h:Nat}{t:Nd (h+1)}{w:World}{acc M:List Nat}{b:Nat}{n:SN}{pv lv cv:Value}{k:Nat}{wr:World}{c:Nd h}{p:C.Ch}(IH:Qt base A db F d w0 tb x lo h)(nQ:jt ⟨h+1,t⟩)(hl:Uw base A db F d w0 tb x lo t w acc M b n pv lv cv k wr)(hc:t.2.2[k]?=some c)(hk:eo (cU d) w0 h p c)(ji:(cD (h+1) t).Nodup)(lx:∀ i ∈ cD (h+1) t,i ∉ M)(mS:M.length+(cD (h+1) t).length<1099511627776)(FF:acc.length+(cD (h+1) t).length<1099511627776)(s:ByteArray):Calls prog 103 #[p.val,.string s,.int .i64 ((h:Int)+1),.pointer (some ⟨x.m,0,none⟩),.pointer (some ⟨x.f,0,none⟩),.pointer (some ⟨x.e,0,none⟩),.pointer (some ⟨x.t,0,none⟩),.pointer (some ⟨x.v,0,none⟩)] wr fun e w'=>e = .returned (.bool true)∧Uw base A db F d w0 tb x lo t w acc M b n pv lv cv (k+1) w':=by
 obtain ⟨v,hvs⟩:=hl.vs;obtain ⟨AK,O4⟩:=IN hc ji;have nG:=Km hc;have mR:=(Dp (t:=t) (k+1)).length_le;rw [nG,ae] at mR;refine (IH p c s wr v _ _ hk (lZ nQ hc) hvs AK (fun i hi hm=>?_) (by rw [ae];omega) (by rw [ae];omega)).mono ?_
 ·rcases List.mem_append.1 hm with h1 | h1
  ·exact lx i ((Dp (k+1)).subset (by rw [nG];simp [hi])) h1
  ·unfold vi at h1;rcases List.mem_append.1 h1 with h2 | h2
   ·exact (O4 i hi).1 h2
   ·exact (O4 i hi).2 h2
 ·rintro e w' ⟨rfl,⟨v',h1⟩,h2⟩;rw [ax,ax,← nG] at h1;exact ⟨rfl,⟨v',h1⟩,hl.aw.trans h2,hl.sn.cx h2⟩
theorem Bf{rv:Value}{h:Nat}(hh:h≤1000)(IH:Qt base A db F d w0 tb x lo h)(il:Dv base A db F d w0)(GQ:B.au w0 tb #[.pointer (some ⟨db,0,none⟩),rv] 100):Qt base A db F d w0 tb x lo (h+1):=by
 intro p t s w v acc M hk nQ hg ji lx mS FF;have hlv:((h+1:Nat):Int)+1=(h:Int)+2:=by omega
 rw [hlv];have Ig:=ab (hg.again il hk lx mS);have Wf:Hid (∀ W,Vs base A db F d w0 tb x lo W v acc (M++cJ (eX (h+1) t))→Calls prog 66 #[p.val,.string s,.int .i64 ((h:Int)+2),.pointer (some ⟨x.p,0,none⟩)] W fun e w'=>e = .returned (.tuple #[])∧(∃ v',Vs base A db F d w0 tb x lo w' v' (acc++cJ (eX (h+1) t)) (M++cJ (eX (h+1) t)))∧dd W w'):=fun W hW=>CU p (eX (h+1) t) (xK hk).1 s _ hW il (by omega)
 have rj:Hid (∀ W v',Vs base A db F d w0 tb x lo W v' (acc++cJ (eX (h+1) t)) (M++cJ (eX (h+1) t))→Calls prog 104 #[.pointer (some ⟨tb,0,none⟩),p.val] W fun e w'=>lu (oZ d w0) A ⟨h+1,t⟩ e w'∧Dv base A db F d w'∧Mv db F W w'):=fun W v' hW=>by
  have aw:=hW.mv.cx il;exact o8 (oZ d w0) p ⟨h+1,t⟩ tb rv W ⟨⟨hk,nQ⟩,.inl aw⟩ (dz aw GQ) hW.dv
 have MG:Hid (∀ (k:Nat) (wr:World) (b:Nat) (n:SN) (pv lv cv:Value) (c:Nd h) (q:C.Ch) (s:ByteArray),Uw base A db F d w0 tb x lo t w acc M b n pv lv cv k wr→t.2.2[k]?=some c→eo (cU d) w0 h q c→Calls prog 103 #[q.val,.string s,.int .i64 ((h:Int)+1),.pointer (some ⟨x.m,0,none⟩),.pointer (some ⟨x.f,0,none⟩),.pointer (some ⟨x.e,0,none⟩),.pointer (some ⟨x.t,0,none⟩),.pointer (some ⟨x.v,0,none⟩)] wr fun e w'=>e = .returned (.bool true)∧Uw base A db F d w0 tb x lo t w acc M b n pv lv cv (k+1) w'):=fun k wr b n pv lv cv c q s hl hc YQ=>hl.rh IH nQ hc YQ ji lx mS FF s
 obtain ⟨pt,px,iB⟩:=bJ p;rw [iB] at Ig Wf rj ⊢;have k0:=hg.cm;have MD:=ab il;have Wn:Hid (cJ (eX (h+1) t)=vi t 0):=by show cJ t.1=_;rw [Kl]
 have agC:¬ (h:Int)+2=1:=by omega
 clear hg hk nQ il iB ji lx mS FF hlv GQ IH;go_enter func103,ntmps103;go_wp2_with fail;refine Ig.out.mono ?_
 rintro e wa ⟨rfl,hga,OO⟩;have k1:=hga.ce;have ZO:=ab (Wf.out wa hga);have HA1:=ab OO;clear hga OO Wf Ig k0;go_wp2_with fail;refine ZO.out.mono ?_
 rintro e wb ⟨rfl,⟨vb,hvb⟩,zh⟩;have HA2:=ab (HA1.out.trans zh);have k2:=hvb.ct;have CD:=ab (rj.out wb vb hvb);have HVB:=ab hvb;clear hvb zh ZO rj k1;go_wp2_with fail;refine CD.out.mono ?_
 rintro e w1 ⟨BO,eH,fI⟩;rcases BO with ⟨hE,_⟩ | ⟨b,n,pv,lv,cv,rfl,hs,hn⟩
 ·exact (hE:False).elim
 ·have Sl:=HVB.out.go fI eH;have Zh:=HA2.out.trans (fI.cx HVB.out.dv);obtain ⟨Sk,VO⟩:=Sl.nil MD.out;have j8:=hs.cx VO;have AK:aU (cU d) w0 (h+1) n t:=hn.1.1;have Ms:n.us.length=t.2.2.length:=AK.1;have h0:¬ n.us.length=0:=fun e=>AK.2.1 (List.length_eq_zero_iff.1 e)
  have gR:n.us.length=n.lk.length+1:=by
   rcases AK.2.2.1 with h9 | h9
   ·exact absurd h9 h0
   ·exact h9
  have ic:=hs.fine;have CE:Hid (Uw base A db F d w0 tb x lo t w acc M b n pv lv cv 0 (w1.setCell ⟨x.f,0,none⟩ .nilIface)):=⟨⟨_,by rw [← Wn.out];exact Sk⟩,Zh.trans VO,j8⟩
  have MF:Hid (∀ (k:Nat) (q:C.Ch) (c:Nd h),n.us[k]?=some q→t.2.2[k]?=some c→eo (cU d) w0 h q c):=fun k q c h1 h2=>AK.rh h1 h2
  have kf:w1.cell? ⟨x.f,0,none⟩=some .nilIface:=Sl.cf.cell 0 (by simp)
  have kz:w1.frozen? ⟨x.f,0,none⟩=false:=by have hr:=Sl.cf;unfold B.au at hr;simp [World.frozen?,hr]
  obtain ⟨W,hW⟩ : ∃ W,w1.setCell ⟨x.f,0,none⟩ .nilIface=W:=⟨_,rfl⟩;rw [hW] at CE j8 Sk;have kf2:W.cell? ⟨x.f,0,none⟩=some .nilIface:=Sk.cf.cell 0 (by simp)
  have p3:=j8.c3;obtain ⟨la,lc,tH⟩:=hs.bg.form;obtain ⟨ca,cc,vq⟩:=hs.kids.form;obtain ⟨N,hN⟩ : ∃ N,N=n.us.length:=⟨_,rfl⟩;obtain ⟨L,hL⟩ : ∃ L,L=n.lk.length:=⟨_,rfl⟩;rw [← hN] at vq;rw [← hL] at tH;subst tH vq;have HN:Hid (N=n.us.length∧N=t.2.2.length∧N=n.lk.length+1∧L=n.lk.length∧L≤4000):=⟨hN,by omega,by omega,hL,by have:=ic.2.2.2.1;omega⟩
  clear eH fI CD hs hn h0 AK Ms ic gR k2 Sl hN hL Zh VO Sk j8 HVB;go_wp2_with fail;go_loopw [39,1] (fun i u wr=>∃ (k:Nat) (s':ByteArray),i = .int .i64 (k:Int)∧u = .string s'∧k≤N∧Uw base A db F d w0 tb x lo t w acc M b n pv (.slice la L lc) (.slice ca N cc) k wr)
   (fun i _ _=>N - (intOf i).toNat)
  case atStart=>exact ⟨0,s,rfl,rfl,aC _,CE.out⟩
  case round =>
   obtain ⟨k,s',rfl,rfl,hkN,hl⟩:=hrel;obtain ⟨Jk,Jj,Px,hN4,hN5⟩:=HN.out;by_cases bX:k<N
   ·obtain ⟨u,hu⟩ : ∃ u,n.us[k]?=some u:=⟨_,af (by omega)⟩
    obtain ⟨c,hc⟩ : ∃ c,t.2.2[k]?=some c:=⟨_,af (by omega)⟩
    obtain ⟨g,o,rfl,Pp⟩:=hl.sn.br.rh hu;obtain ⟨ut,ux,GP⟩:=bJ u;rw [GP] at Pp;have Rg:Hid (∀ s,Calls prog 103 #[.iface ut ux,.string s,.int .i64 ((h:Int)+1),.pointer (some ⟨x.m,0,none⟩),.pointer (some ⟨x.f,0,none⟩),.pointer (some ⟨x.e,0,none⟩),.pointer (some ⟨x.t,0,none⟩),.pointer (some ⟨x.v,0,none⟩)] wr fun e w'=>e = .returned (.bool true)∧Uw base A db F d w0 tb x lo t w acc M b n pv (.slice la L lc) (.slice (some ⟨g,o,none⟩) N cc) (k+1) w'):=fun s=>by
     rw [← GP];exact MG.out k wr b n _ _ _ c u s hl hc (MF.out k u c hu hc)
    have kv:wr.cell? ⟨x.v,0,none⟩=some (.func (.func 103) #[] #[.pointer (some ⟨x.m,0,none⟩),.pointer (some ⟨x.f,0,none⟩),.pointer (some ⟨x.e,0,none⟩),.pointer (some ⟨x.t,0,none⟩),.pointer (some ⟨x.v,0,none⟩)]):=by
     obtain ⟨v',Sn⟩:=hl.vs;exact Sn.cv
    have p2:=hl.sn.c2;have SD:(0:Int)≤(k:Int):=by omega
    have jm:(k:Int)<(N:Int):=by omega
    have TW:IntKind.i64.wrap ((k:Int)+1)=(k:Int)+1:=by rw [IntKind.wrap_i64];omega
    have hwd:IntKind.i64.wrap ((h:Int)+2 - 1)=(h:Int)+1:=by rw [IntKind.wrap_i64];omega
    have Tx:Hid (k+1≤N):=bX;cases k with
    | zero =>
     clear hl hu hc GP MG MF bX hkN CE Jk Jj Px hN4 hN5 p2;rw [show o+0=o from rfl] at Pp
     rw [show ((0:Nat):Int)=0 from rfl] at *
     go_wp2_with fail;refine (Rg.out _).mono ?_
     rintro e w4 ⟨rfl,FD⟩;have Wt:=ab FD;clear FD Rg;go_wp2;go_roundw
     case rel=>exact ⟨1,s',by rfl,rfl,Tx.out,Wt.out⟩
     case measure=>simp [intOf];have:=Tx.out;omega
    | succ j =>
     have hj:j<n.lk.length:=by omega
     obtain ⟨la',lc',he,_,_,Ct⟩:=hl.sn.bg;obtain ⟨lg,lof,hla,Vx,_⟩:=Ct j hj;cases he;subst hla;have Mu:(0:Int)≤(j:Int):=by omega
     have hj1:(j:Int)<(n.lk.length:Int):=by omega
     have hj4:(j:Int)<4000:=by omega
     have pC:(0:Int)≤(j:Int)+1:=by omega
     have Vz:(j:Int)+1<(N:Int):=by omega
     have abB:IntKind.i64.wrap ((j:Int)+1+1)=(j:Int)+1+1:=by rw [IntKind.wrap_i64];omega
     obtain ⟨ks,ny⟩ : ∃ ks,ks=n.lk[j].1:=⟨_,rfl⟩;rw [← ny] at Vx;clear hl hu hc GP MG MF bX hkN CE Jk Jj Px hN4 hN5 Ct ny SD jm TW;go_wp2_with fail;refine (Rg.out _).mono ?_
     rintro e w4 ⟨rfl,FD⟩;have Wt:=ab FD;clear FD Rg;go_wp2;go_roundw
     case rel=>exact ⟨j+1+1,ks,by simp [Int.natCast_add],rfl,Tx.out,Wt.out⟩
     case measure=>simp [intOf];have:=Tx.out;omega
   ·have:k=N:=by omega
    subst this;have HE:Hid ((∃ v',Vs base A db F d w0 tb x lo wr v' (acc++cD (h+1) t) (M++cD (h+1) t))∧dd w wr):=by
     have:=hl.vs;rw [NJ (by omega)] at this
     exact ⟨this,hl.aw⟩
    clear hl MG MF HN CE Jk Jj Px hN4 hN5;go_wp2;go_ret;exact ⟨rfl,HE.out⟩
end
end T
end Go.Proofs.YtihmgigfkmofnaaGreatDoor
