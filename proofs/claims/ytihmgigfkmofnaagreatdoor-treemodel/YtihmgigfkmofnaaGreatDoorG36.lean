import Derived.Test.YtihmgigfkmofnaaGreatDoorG35
import Derived.Laws.EntriesVeiled
set_option maxHeartbeats 4000000
set_option maxRecDepth 100000
open Go.Proofs.Tryz
namespace Go.Proofs.YtihmgigfkmofnaaGreatDoor
namespace T
open Go.RowKit
theorem tj{base:Nat}{F F':Nat→Prop}{w w':World}(h:S.V.Step F F' w w')(hs:base≤w.heap.size)(hF:∀ k,F k→base≤k):Below base w w'∧∀ k,F' k→base≤k:=by
 refine ⟨⟨h.os,h.tape,h.output,h.size,fun k hk=>h.block k (by omega) (fun e=>by have:=hF k e;omega)⟩,fun k hk=>?_⟩
 rcases h.sub k hk with e | e
 ·exact hF k e
 ·omega
section
variable {base:Nat} {A:Nat→Addr} {db:Nat} {F:Nat→Prop} {d d2:S.V.bq} {W0:World} {r:cQ}
theorem Dv.step{F':Nat→Prop}{w w':World}(hv:Dv base A db F d w)(hs:S.V.Step F F' w w')(hd:∃ d',Nr d2 d'∧S.V.cO w' db F' d')(ha:d2.dead=false):Dv base A db F' d2 w':=by
 obtain ⟨hb,hF⟩:=tj hs hv.env.errs.size hv.up;refine ⟨hd,hv.env.keep hb,⟨fun i hi=>?_,hv.errs.2⟩,hF,ha,hv.lo⟩
 obtain ⟨h1,c,t,h2⟩:=hv.errs.1 i hi;have hl:=hv.lo i hi;exact ⟨(hb.cell (p:=⟨fl i,0,none⟩) hl.1).trans h1,c,t,(hb.block _ hl.2).trans h2⟩
theorem NG{w:World}(s:S.Sh)(hv:Dv base A db F d w)(hm:S.sV s)(hx:s.te<18446744073709551616)(eE:(s.id+1)*8≤d.size)(hp:d.aV.length≤1000000)(ha:d.eR=[]):Calls prog 62 #[.pointer (some ⟨db,0,none⟩),.agg s.cells.toArray] w fun e w'=>e = .returned .nilIface∧∃ F',Dv base A db F' (qC d s) w'∧S.V.Step F F' w w':=by
 obtain ⟨d',⟨n,rfl⟩,hd⟩:=hv.dev;refine (S.Ke base A db F { d with nr:=n } s w (by rw [hm.2.2.2];decide) hx hd hv.env hv.up hp hv.alive ha).mono ?_
 rintro e w' (⟨rfl,_,F',h1,h2⟩ | ⟨fM,_,_⟩)
 ·exact ⟨rfl,F',hv.step h2 ⟨_,⟨n,rfl⟩,h1⟩ hv.alive,h2⟩
 ·exact absurd ⟨hm,eE⟩ fM
def nL(d:S.V.bq):S.V.bq:={ d with eF:=S.V.gN d.eF d.aV,aV:=[],ns:=wrap64 (d.ns+1) }
theorem RZ{w:World}(hv:Dv base A db F d w)(hp:d.aV.length≤1000000)(ha:d.eR=[]):Calls prog 63 #[.pointer (some ⟨db,0,none⟩)] w fun e w'=>e = .returned .nilIface∧∃ F',Dv base A db F' (nL d) w'∧S.V.Step F F' w w':=by
 obtain ⟨d',⟨n,rfl⟩,hd⟩:=hv.dev;have e1:({ d with nr:=n }:S.V.bq).sync=({ nL d with nr:=n },0):=by
  obtain ⟨sz,eF,aV,eR,dead,nr,nw,ns⟩:=d;have h1:dead=false:=hv.alive;have h2:eR=[]:=ha;subst h1 h2;rfl
 refine (S.V.ND base A db F { d with nr:=n } w hd hv.env.errs hv.up (by show d.aV.length≤_;omega) (by show S.V.Mt base A db d.eR;rw [ha];exact S.V.xw base A db)).mono ?_
 rintro e w' ⟨he,F',h1,h2⟩;rw [e1] at he h1;exact ⟨he,F',hv.step h2 ⟨_,⟨n,rfl⟩,h1⟩ hv.alive,h2⟩
end
theorem Ix{d:S.V.bq}(hs:∀ x ∈ d.aV,x.lE.size=512):cJ (nL d)=cJ d:=by
 funext id
 refine Am rfl ?_
 rw [py d hs,py (nL d) (fun x hx=>by simp [nL] at hx)]
 rfl
def eI(d:S.V.bq)(Z:List S.Sh):S.V.bq:=Z.foldl qC d
theorem qB(d:S.V.bq)(Z:List S.Sh)(s:S.Sh):eI d (Z++[s])=qC (eI d Z) s:=by simp [eI,List.foldl_append]
theorem lN{d:S.V.bq}:∀ (n:Nat) (Z:List S.Sh),Z.length=n→(eI d Z).size=d.size∧(eI d Z).eR=d.eR∧(eI d Z).dead=d.dead∧(eI d Z).aV.length=d.aV.length+8*Z.length∧(eI d Z).eF=d.eF
 | 0,Z,hl=>by
  have:Z=[]:=List.length_eq_zero_iff.1 hl;subst this;exact ⟨rfl,rfl,rfl,rfl,rfl⟩
 | n+1,Z,hl=>by
  have dK:Z≠[]:=fun e=>by rw [e] at hl;cases hl
  have e:=iI dK;have h1:Z.dropLast.length=n:=by rw [List.length_dropLast];omega
  obtain ⟨a1,a2,a3,a4,a5⟩:=lN (d:=d) n Z.dropLast h1;rw [← e,qB];refine ⟨a1,a2,a3,?_,a5⟩;show ((eI d Z.dropLast).aV++S.V.chunks _ _ 8).length=_
  rw [ae,S.V.yr,a4,ae,aS];omega
def QD(sz:Int)(s:S.Sh):Prop:=S.sV s∧s.te<18446744073709551616∧(s.id+1)*8≤sz
theorem Di{d:S.V.bq}(hs:∀ x ∈ d.aV,x.lE.size=512):∀ (n:Nat) (Z:List S.Sh),Z.length=n→(∀ s ∈ Z,QD d.size s)→(Z.map (·.id)).Nodup →
  (∀ x ∈ (eI d Z).aV,x.lE.size=512)∧(∀ id,(∀ s ∈ Z,s.id≠id)→cJ (eI d Z) id=cJ d id)∧∀ s ∈ Z,∀ p,gF s p→cJ (eI d Z) s.id=some p
 | 0,Z,hl,_,_=>by
  have:Z=[]:=List.length_eq_zero_iff.1 hl;subst this;exact ⟨hs,fun _ _=>rfl,fun s h=>by simp at h⟩
 | n+1,Z,hl,hc,hn=>by
  have dK:Z≠[]:=fun e=>by rw [e] at hl;cases hl
  have e:=iI dK;have h1:Z.dropLast.length=n:=by rw [List.length_dropLast];omega
  obtain ⟨s,qM⟩ : ∃ s,s=Z.getLast dK:=⟨_,rfl⟩;rw [← qM] at e;have fs:QD d.size s:=hc s (by rw [← e];simp)
  rw [← e,bn,List.nodup_append] at hn;obtain ⟨g1,g2,g3⟩:=Di hs n Z.dropLast h1 (fun x hx=>hc x (List.dropLast_subset Z hx)) hn.1
  obtain ⟨a1,a2,a3,a4,a5⟩:=lN (d:=d) n Z.dropLast h1;have cx:(qC (eI d Z.dropLast) s).size=d.size:=a1;have S0:=fun i=>NY (d:=eI d Z.dropLast) fs.1 g1 i
  have YR:∀ id,id≠s.id→cJ (qC (eI d Z.dropLast) s) id=cJ (eI d Z.dropLast) id:=fun id hid=>Am rfl (by rw [S0,if_neg hid])
  rw [← e,qB];refine ⟨Dj fs.1 g1,fun id hid=>?_,fun x hx p hp=>?_⟩
  ·rw [YR id (fun e=>hid s (by simp) e.symm)]
   exact g2 id fun x hx=>hid x (by simp [hx])
  ·rcases List.mem_append.1 hx with hx | hx
   ·have BL:x.id≠s.id:=hn.2.2 _ (j6 hx) _ (by simp)
    rw [YR _ BL];exact g3 x hx p hp
   ·have hxs:x=s:=by simpa using hx
    subst hxs;refine Sq ⟨fs.1,fs.2.1,rfl,by rw [cx];exact fs.2.2,?_⟩ hp
    rw [S0,if_pos rfl]
theorem NM{tx id:Nat}{p:PD}(hp:Vv p):gF (kj tx (id,p)) p:=by
 cases p with
 | leaf l =>
  have h:=Tt (l:=l) hp;refine .inl ⟨rfl,?_,?_⟩
  ·show mT ((l.length:Int).toNat) (tV l).data.toList
   rw [bo];simpa [tV] using h.1
  ·show PD.leaf l = .leaf (BY ((l.length:Int).toNat) (tV l).data.toList)
   rw [bo];have:BY l.length (tV l).data.toList=l:=by simpa [tV] using h.2
   rw [this]
 | br f lk =>
  have h:=B.Qd (f:=f) (l:=lk) hp;refine .inr ⟨rfl,?_,?_⟩
  ·show B.vE (((lk.length:Int)+1).toNat) (B.pX f lk).data.toList
   rw [show ((lk.length:Int)+1).toNat=lk.length+1 by omega]
   simpa [B.pX] using h.1
  ·show PD.br f lk = .br (B.FL (b8 (B.pX f lk).data.toList ((lk.length:Int)+1).toNat)) (B.A4 (b8 (B.pX f lk).data.toList ((lk.length:Int)+1).toNat))
   rw [show ((lk.length:Int)+1).toNat=lk.length+1 by omega]
   have h2:B.FL (b8 (B.pX f lk).data.toList (lk.length+1))=f:=by simpa [B.pX] using h.2.1
   have h3:B.A4 (b8 (B.pX f lk).data.toList (lk.length+1))=lk:=by simpa [B.pX] using h.2.2
   rw [h2,h3]
theorem D5{α β γ:Type}(g:α→Nat→β × List γ):∀ (cs:List α) (k:Nat) (x:γ),x ∈ (b9 g cs k).2→∃ (i:Nat) (c:α) (ki:Nat),cs[i]?=some c∧x ∈ (g c ki).2∧(b9 g cs k).1[i]?=some (g c ki).1
 | [],_,x,h=>by simp [b9] at h
 | c::cs,k,x,h=>by
  rcases List.mem_append.1 h with h | h
  ·exact ⟨0,c,k,rfl,h,rfl⟩
  ·obtain ⟨i,c',ki,h1,h2,h3⟩:=D5 g cs _ x h;exact ⟨i+1,c',ki,h1,h2,h3⟩
theorem I8{PG:Int→Option PD}{w:World}{P:Nat→Nat}(hP:∀ j,2≤P j∧P j<1048576):∀ (h:Nat) {p:C.Ch} {t:Nd h} (k:Nat),eu PG w h p t→QT h t→(dE h (aW P h t k).1).Nodup→∀ x ∈ (aW P h t k).2,Vv x.2
 | 0,p,t,k,hk,ho,hn,x,hx=>by
  by_cases h0:t.1=0
  ·have e1:aW P 0 t k=((P k,t.2),[(P k,.leaf t.2)]):=if_pos h0;rw [e1] at hx;have hx:x=(P k,.leaf t.2):=by simpa using hx
   subst hx;exact DC ho
  ·have e1:aW P 0 t k=(t,[]):=if_neg h0;rw [e1] at hx;simp at hx
 | h+1,p,t,k,hk,ho,hn,x,hx=>by
  by_cases h0:t.1=0
  ·obtain ⟨R,hR⟩ : ∃ R,R=b9 (aW P h) t.2.2 k:=⟨_,rfl⟩;have e1:aW P (h+1) t k=((P (k+R.2.length),t.2.1,R.1),R.2++[(P (k+R.2.length),.br (l7 R.1) (qF t.2.1 R.1))]):=by rw [hR];exact if_pos h0
   rw [e1] at hx hn;have Y5:(R.1.flatMap (dE h)).Nodup:=by
    have h9:(df (P (k+R.2.length))++R.1.flatMap (dE h)).Nodup:=hn;exact h9.sublist (dC _ _)
   cases p with
   | pg id =>
    have hk:gE PG (h+1) id t:=hk;exact absurd h0 (by have:=hk.1;have:=hk.2.1;omega)
   | nd b =>
    obtain ⟨_,n,xv,lv,cv,xT,jz⟩:=hk;have ML:n.us.length=t.2.2.length:=jz.1;rcases List.mem_append.1 hx with hx | hx
    ·rw [hR] at hx;obtain ⟨i,c,ki,h1,h2,h3⟩:=D5 (aW P h) t.2.2 k x hx;rw [← hR] at h3;obtain ⟨q,hq⟩ : ∃ q,n.us[i]?=some q:=⟨_,af (by have:=(List.getElem?_eq_some_iff.1 h1).1;omega)⟩
     exact I8 hP h ki (jz.pS hq h1) (vJ ho h1) (xA Y5 h3) x h2
    ·have hx:x=(P (k+R.2.length),.br (l7 R.1) (qF t.2.1 R.1)):=by simpa using hx
     subst hx;obtain ⟨⟨pQ,mz,cT⟩,cx,jk⟩:=ho;have S4:=(fy h t pQ mz).1 cT;have S3:gX (ld h) pQ mz t.2.1 R.1:=by
      rw [hR];exact vQ (fun t k lo hi hf=>⟨qH h t k lo hi hf.1,by unfold Full;rw [BE];exact hf.2⟩) t.2.2 t.2.1 k pQ mz S4
     refine QF S3 cx jk (fun c' uM=>?_) Y5
     obtain ⟨i,hi,hv⟩:=aQ uM;have Pz:i<t.2.2.length:=by rw [hR,iE] at hi;exact hi
     have Lm:t.2.2[i]?=some t.2.2[i]:=af Pz;obtain ⟨ki,g1,_⟩:=rY (aW P h) t.2.2 k i _ Lm;rw [← hR,af hi,hv] at g1;cases g1;obtain ⟨q,hq⟩ : ∃ q,n.us[i]?=some q:=⟨_,af (by omega)⟩
     exact AA hP (jz.pS hq Lm) ki
  ·have e1:aW P (h+1) t k=(t,[]):=if_neg h0;rw [e1] at hx;simp at hx
theorem Qc{l:List Pr}(h:fL l≤4072):(tV l).size=4072:=by
 have h1:=rX (l.map ft) (by rw [qz];exact h)
 show (jC (l.map ft)).toArray.size=4072
 simpa using h1
theorem LJ{f:Int}{l:List B.Lk}(h:B.jL l≤4072):(B.pX f l).size=4072:=by
 have h1:=rX (B.dz f l) (by rw [B.ox];exact h)
 show (jC (B.dz f l)).toArray.size=4072
 simpa using h1
theorem Iw:∀ l:List B.Lk,l.length≤B.jL l
 | []=>by simp
 | p::l=>by
  have:=Iw l;have e:B.jL (p::l)=B.yQ p+B.jL l:=by simp [B.jL];omega
  have:1≤B.yQ p:=by unfold B.yQ;omega
  rw [List.length_cons];omega
theorem Vl{tx id:Nat}{p:PD}(hp:Vv p)(h1:2≤id)(h2:id<1048576):S.sV (kj tx (id,p)):=by
 cases p with
 | leaf l =>
  have hc:=oU hp;have hl:=iM l;exact ⟨.inr rfl,⟨by show (0:Int)≤(l.length:Int);omega,by show (l.length:Int)≤65535;omega⟩,⟨by show (2:Int)≤(id:Int);omega,by show (id:Int)<1048576;omega⟩,Qc hc.2.2.1⟩
 | br f lk =>
  have hc:=B.jV hp;have hl:=Iw lk;exact ⟨.inl rfl,⟨by show (0:Int)≤(lk.length:Int)+1;omega,by show (lk.length:Int)+1≤65535;omega⟩,⟨by show (2:Int)≤(id:Int);omega,by show (id:Int)<1048576;omega⟩,LJ hc.2.2.2.2.2.1⟩
theorem IE{tx:Nat}(x:Nat × PD):(kj tx x).id=(x.1:Int)∧(kj tx x).te=tx:=by
 obtain ⟨i,p⟩:=x;cases p <;> exact ⟨rfl,rfl⟩
theorem CY{d:S.V.bq}{r:cQ}{w:World}{rv:Value}{T:Nat→Bool}{PP tx:Nat}(hr:fH (cJ d) w rv r)(cT:eW r)(hk:Q.qk PP T)(hn:eG r≤(Q.gx T PP).length)(jz:(eD r).Nodup)(FE:∀ i ∈ eD r,T i=true)(hs:∀ x ∈ d.aV,x.lE.size=512)(cx:d.size=8*(PP:Int))(Rj:tx<18446744073709551616):(∀ s ∈ (jB (fj (Q.fk T PP (eG r))) r).2.map (kj tx),QD d.size s)∧(∀ x ∈ (eI d ((jB (fj (Q.fk T PP (eG r))) r).2.map (kj tx))).aV,x.lE.size=512)∧∀ w',fH (cJ (nL (eI d ((jB (fj (Q.fk T PP (eG r))) r).2.map (kj tx))))) w' (kL (jB (fj (Q.fk T PP (eG r))) r).1) (jB (fj (Q.fk T PP (eG r))) r).1:=by
 obtain ⟨vu,Lp⟩:=qI hk hn jz FE;have MS:=fun j=>nx (n:=eG r) hk j
 obtain ⟨L,hL⟩ : ∃ L,L=Q.fk T PP (eG r):=⟨_,rfl⟩;have hLt:∀ i ∈ L,i<PP∧T i=false:=fun i hi=>by rw [hL] at hi;exact Q.rT hi
 have Jn:L.Nodup:=by rw [hL];exact xE _ _ _
 rw [← hL] at vu Lp MS ⊢;rcases hr with ⟨rfl,rfl⟩ | ⟨p,h,t,rfl,rfl,vw⟩
 ·exact ⟨fun s hx=>by simp [jB] at hx,hs,fun w'=>.inl ⟨rfl,rfl⟩⟩
 ·have Zq:(aW (fj L) h t 0).2.map (·.1)=L:=by
   have:=BF (P:=fj L) h t 0;rw [this,pE,show jl h t=L.length from Lp.symm,Ee]
  have VX:∀ x ∈ (aW (fj L) h t 0).2,x.1 ∈ L:=fun x hx=>by rw [← Zq];exact j6 hx
  have ZD:=I8 MS h 0 vw (DB cT) vu;have Hd:∀ i ∈ L,2≤i:=fun i hi=>by
   obtain ⟨j,hj,rfl⟩:=aQ hi;have:=(MS j).1;unfold fj at this;rw [aK,af hj] at this;exact this
  have PQ:∀ s ∈ (aW (fj L) h t 0).2.map (kj tx),QD d.size s:=fun s hx=>by
   obtain ⟨x,sN,rfl⟩:=List.mem_map.1 hx;have h1:=hLt _ (VX x sN);have h2:=Hd _ (VX x sN);have h3:=hk.hi;have h4:=IE (tx:=tx) x;refine ⟨?_,by rw [h4.2];exact Rj,by rw [h4.1,cx];omega⟩
   obtain ⟨i,q⟩:=x;exact Vl (ZD _ sN) h2 (by have:i<PP:=h1.1;omega)
  have acM:(((aW (fj L) h t 0).2.map (kj tx)).map (·.id)).Nodup:=by
   have e:((aW (fj L) h t 0).2.map (kj tx)).map (·.id)=L.map fun n:Nat=>(n:Int):=by
    have e2:L.map (fun n:Nat=>(n:Int))=((aW (fj L) h t 0).2.map (·.1)).map fun n:Nat=>(n:Int):=by rw [Zq]
    rw [e2,eH,eH];apply gM
    intro x _;exact (IE x).1
   rw [e];exact List.Pairwise.map _ (fun a b Cu e=>Cu (by omega)) Jn
  obtain ⟨g1,g2,g3⟩:=Di hs _ _ rfl PQ acM;refine ⟨PQ,g1,fun w'=>.inr ⟨.pg (fx h (aW (fj L) h t 0).1:Int),h,(aW (fj L) h t 0).1,rfl,rfl,?_⟩⟩
  show gE _ h _ _
  refine xI MS h 0 vw ⟨none,none,cT.1⟩ (fun i hi=>?_) fun x hx=>?_
  ·show cJ (nL (eI d ((aW (fj L) h t 0).2.map (kj tx)))) _=_
   rw [Ix g1];refine g2 _ fun s hx e=>?_
   obtain ⟨x,sN,rfl⟩:=List.mem_map.1 hx;rw [(IE x).1] at e;have h1:=(hLt _ (VX x sN)).2;have h2:=FE i hi;have e':x.1=i:=by omega
   rw [e',h2] at h1;cases h1
  ·show cJ (nL (eI d ((aW (fj L) h t 0).2.map (kj tx)))) _=_
   rw [Ix g1,← (IE (tx:=tx) x).1];refine g3 _ (j6 hx) x.2 ?_
   obtain ⟨i,q⟩:=x;exact NM (ZD _ hx)
attribute [local go_sem ↓] Go.wp_at_zero Go.wp_at_succ
theorem tP(w W:World)(a b c e:Value)(TA TB TC TE:TypeId)(hW:(((w.alloc (.cells #[a] TA)).alloc (.cells #[b] TB)).alloc (.cells #[c] TC)).alloc (.cells #[e] TE)=W):Below w.heap.size w W∧W.heap.size=w.heap.size+1+1+1+1∧B.ax W w.heap.size #[a] TA∧B.ax W (w.heap.size+1) #[b] TB∧B.ax W (w.heap.size+1+1) #[c] TC∧B.ax W (w.heap.size+1+1+1) #[e] TE:=by
 obtain ⟨W1,h1⟩ : ∃ W1,W1=w.alloc (.cells #[a] TA):=⟨_,rfl⟩;obtain ⟨W2,h2⟩ : ∃ W2,W2=W1.alloc (.cells #[b] TB):=⟨_,rfl⟩;obtain ⟨W3,h3⟩ : ∃ W3,W3=W2.alloc (.cells #[c] TC):=⟨_,rfl⟩;rw [← h1,← h2,← h3] at hW;have s1:W1.heap.size=w.heap.size+1:=by rw [h1];simp
 have s2:W2.heap.size=w.heap.size+1+1:=by rw [h2,← s1];simp
 have s3:W3.heap.size=w.heap.size+1+1+1:=by rw [h3,← s2];simp
 have b1:Below w.heap.size w W1:=h1▸ai w _;have b2:Below W1.heap.size W1 W2:=h2▸ai W1 _;have b3:Below W2.heap.size W2 W3:=h3▸ai W2 _;have b4:Below W3.heap.size W3 W:=hW▸ai W3 _;have r1:B.ax W1 w.heap.size #[a] TA:=h1▸B.ax.new w _ _;have r2:B.ax W2 W1.heap.size #[b] TB:=h2▸B.ax.new W1 _ _;have r3:B.ax W3 W2.heap.size #[c] TC:=h3▸B.ax.new W2 _ _;have r4:B.ax W W3.heap.size #[e] TE:=hW▸B.ax.new W3 _ _;rw [s1] at r2;rw [s2] at r3;rw [s3] at r4;exact ⟨Below.next (Below.next (Below.next b1 b2) b3) b4,by rw [← hW,← s3];simp,((r1.below b2).below b3).below b4,(r2.below b3).below b4,r3.below b4,r4⟩
theorem LA(w W:World)(a b c e:Value)(TA TB TC TE:TypeId)(hW:((((w.alloc (.cells #[a] TA)).alloc (.cells #[b] TB)).alloc (.map #[] 0)).alloc (.cells #[c] TC)).alloc (.cells #[e] TE)=W):Below w.heap.size w W∧W.heap.size=w.heap.size+1+1+1+1+1∧B.ax W w.heap.size #[a] TA∧B.ax W (w.heap.size+1) #[b] TB∧W.heap[w.heap.size+1+1]?=some (.map #[] 0)∧B.ax W (w.heap.size+1+1+1) #[c] TC∧B.ax W (w.heap.size+1+1+1+1) #[e] TE:=by
 obtain ⟨W1,h1⟩ : ∃ W1,W1=w.alloc (.cells #[a] TA):=⟨_,rfl⟩;obtain ⟨W2,h2⟩ : ∃ W2,W2=W1.alloc (.cells #[b] TB):=⟨_,rfl⟩;obtain ⟨W3,h3⟩ : ∃ W3,W3=W2.alloc (.map #[] 0):=⟨_,rfl⟩;obtain ⟨W4,h4⟩ : ∃ W4,W4=W3.alloc (.cells #[c] TC):=⟨_,rfl⟩;rw [← h1,← h2,← h3,← h4] at hW;have s1:W1.heap.size=w.heap.size+1:=by rw [h1];simp
 have s2:W2.heap.size=w.heap.size+1+1:=by rw [h2,← s1];simp
 have s3:W3.heap.size=w.heap.size+1+1+1:=by rw [h3,← s2];simp
 have s4:W4.heap.size=w.heap.size+1+1+1+1:=by rw [h4,← s3];simp
 have b1:Below w.heap.size w W1:=h1▸ai w _;have b2:Below W1.heap.size W1 W2:=h2▸ai W1 _;have b3:Below W2.heap.size W2 W3:=h3▸ai W2 _;have b4:Below W3.heap.size W3 W4:=h4▸ai W3 _;have b5:Below W4.heap.size W4 W:=hW▸ai W4 _;have r1:B.ax W1 w.heap.size #[a] TA:=h1▸B.ax.new w _ _;have r2:B.ax W2 W1.heap.size #[b] TB:=h2▸B.ax.new W1 _ _;have r3:W3.heap[W2.heap.size]?=some (.map #[] 0):=h3▸heap_alloc_new W2 _;have r4:B.ax W4 W3.heap.size #[c] TC:=h4▸B.ax.new W3 _ _;have r5:B.ax W W4.heap.size #[e] TE:=hW▸B.ax.new W4 _ _;have e3:W.heap[W2.heap.size]?=some (.map #[] 0):=(b5.block _ (by omega)).trans ((b4.block _ (by omega)).trans r3)
 rw [s1] at r2;rw [s2] at e3;rw [s3] at r4;rw [s4] at r5;exact ⟨Below.next (Below.next (Below.next (Below.next b1 b2) b3) b4) b5,by rw [← hW,← s4];simp,(((r1.below b2).below b3).below b4).below b5,((r2.below b3).below b4).below b5,e3,r4.below b5,r5⟩
theorem yE.lower{w:World}{lo pQ:Nat}{v:Value}{l:List Pr}(h:yE w lo v l)(hl:pQ≤lo):yE w pQ v l:=by
 refine ⟨⟨h.1.1,?_⟩,h.2⟩;rcases h.1.2 with h' | ⟨g,cap,cur,h',h1,h2⟩
 ·exact .inl h'
 ·exact .inr ⟨g,cap,cur,h',al hl h1,h2⟩
theorem Met.made{w:World}{b:Nat}(h:w.heap[b]?=some (.map #[] 0)):Met w b []:=by
 obtain ⟨es,clock,h1,h2⟩:=World.ownsMap_made w prog 3 (unitElem (H:=Unit));have h3:(w.alloc (.map #[] 0)).heap[w.heap.size]?=some (.map #[] 0):=heap_alloc_new w _;rw [h3] at h1;cases h1;exact ⟨fun i hi=>by simp at hi,⟨#[],0,h,h2⟩⟩
section
variable {base:Nat} {A:Nat→Addr} {db:Nat} {F:Nat→Prop} {d:S.V.bq} {w0:World} {tb:Nat} {x:Bx} {fr en:ByteArray} {lim lo:Nat} {W0:World} {r:cQ}
theorem yi{rv:Value}(gi:Dv base A db F d w0)(GW:B.ax w0 tb #[.pointer (some ⟨db,0,none⟩),rv] 100)(UB:lim≤9223372036854775807):∀ h,JM base A db F d w0 tb x fr en lim lo h
 | 0=>fun p t dp w v acc M hk nM hg PJ dZ _ lZ ny=>EB gi GW p t dp w v acc M hk nM hg (by omega) UB dZ lZ ny
 | h+1=>zI (yi gi GW UB h) gi GW
theorem xj{w:World}(hc:Ts base A db F d W0 w tb r)(hn:(aC r).length*32≤140737488355328)(jz:(eD r).Nodup)(FF:(eD r).length<1099511627776)(UB:lim≤9223372036854775807):Calls prog 59 #[.pointer (some ⟨tb,0,none⟩),.string fr,.string en,.int .i64 (lim:Int)] w fun e w'=>(∃ v,e = .returned (.tuple #[v,.nilIface])∧yE w' w.heap.size v (((aC r).filter (jt fr en)).take lim))∧Dv base A db F d w'∧Mv db F w w':=by
 have Co:=@run_makeMap prog;obtain ⟨rv,ht,hr⟩:=hc.tr;have c1:=ht.c1;have iH:¬ (lim:Int)<0:=by omega
 rcases hr with ⟨rfl,rfl⟩ | ⟨p,h,t,rfl,rfl,hk⟩
 ·obtain ⟨W4,Ry⟩ : ∃ W4,(((w.alloc (.cells #[.pointer (some ⟨tb,0,none⟩)] 38)).alloc (.cells #[.string fr] 9)).alloc (.cells #[.string en] 9)).alloc (.cells #[.int .i64 (lim:Int)] 3)=W4:=⟨_,rfl⟩;obtain ⟨eO,s4,r0,r1,r2,r3⟩:=tP w W4 _ _ _ _ _ _ _ _ Ry;obtain ⟨H,hH⟩ : ∃ H,H=w.heap.size:=⟨_,rfl⟩;rw [← hH] at s4 r0 r1 r2 r3;have q0:=r0.cell 0 (by simp)
  have q3:=r3.cell 0 (by simp)
  have q4:W4.cell? ⟨tb,1,none⟩=some .nilIface:=(eO.cell (p:=⟨tb,1,none⟩) (World.block_lt_of_cell? w _ c1)).trans c1;have gr:=ab eO;have HC:=ab hc;have hHs:=hH.symm;clear hc ht c1 r0 r1 r2 r3 eO hH;go_enter func59,ntmps59;go_wp2;go_ret2;exact ⟨⟨_,rfl,by show yE _ _ _ (List.take lim []);rw [List.take_nil];exact yE.nil _ _⟩,HC.out.dv.below gr.out,Mv.of gr.out⟩
 ·have cT:eW (some ⟨h,t⟩):=hc.ok;have iB:(flat h t).length*32≤140737488355328:=hn;have AL:(dE h t).Nodup:=jz;have Rk:(dE h t).length<1099511627776:=FF;obtain ⟨H,hH⟩ : ∃ H,H=w.heap.size:=⟨_,rfl⟩;obtain ⟨W4,Ry⟩ : ∃ W4,(((w.alloc (.cells #[.pointer (some ⟨tb,0,none⟩)] 38)).alloc (.cells #[.string fr] 9)).alloc (.cells #[.string en] 9)).alloc (.cells #[.int .i64 (lim:Int)] 3)=W4:=⟨_,rfl⟩;obtain ⟨eO,s4,r0,r1,r2,r3⟩:=tP w W4 _ _ _ _ _ _ _ _ Ry;rw [← hH] at s4 r0 r1 r2 r3;obtain ⟨W9,ZR⟩ : ∃ W9,((((W4.alloc (.cells #[.slice none 0 0] 63)).alloc (.cells #[.nilIface] 32)).alloc (.map #[] 0)).alloc (.cells #[.map (some (H+1+1+1+1+1+1))] 166)).alloc (.cells #[.nilFunc] 167)=W9:=⟨_,rfl⟩;obtain ⟨Ct,s9,r4,r5,r6,r7,r8⟩:=LA W4 W9 _ _ _ _ _ _ _ _ ZR;rw [s4] at s9 r4 r5 r6 r7 r8;have q0:=r0.cell 0 (by simp)
  have q3:=r3.cell 0 (by simp)
  obtain ⟨vt,vx,gw⟩:=bz p;have q4:W4.cell? ⟨tb,1,none⟩=some (.iface vt vx):=(eO.cell (p:=⟨tb,1,none⟩) (World.block_lt_of_cell? w _ c1)).trans (by rw [← gw];exact c1)
  have q8:=r8.cell 0 (by simp)
  have f8:W9.frozen? ⟨H+1+1+1+1+1+1+1+1,0,none⟩=false:=by unfold B.ax at r8;simp [World.frozen?,r8]
  obtain ⟨W,hW⟩ : ∃ W,W9.setCell ⟨H+1+1+1+1+1+1+1+1,0,none⟩ (.func (.func 90) #[] #[.pointer (some ⟨H+1+1+1+1+1+1+1,0,none⟩),.pointer (some ⟨H+1+1+1+1+1,0,none⟩),.pointer (some ⟨H,0,none⟩),.pointer (some ⟨H+1,0,none⟩),.pointer (some ⟨H+1+1,0,none⟩),.pointer (some ⟨H+1+1+1+1,0,none⟩),.pointer (some ⟨H+1+1+1,0,none⟩),.pointer (some ⟨H+1+1+1+1+1+1+1+1,0,none⟩)])=W:=⟨_,rfl⟩;have dF:=bL.set (H+1+1+1+1+1+1+1+1) 0 W9 (.func (.func 90) #[] #[.pointer (some ⟨H+1+1+1+1+1+1+1,0,none⟩),.pointer (some ⟨H+1+1+1+1+1,0,none⟩),.pointer (some ⟨H,0,none⟩),.pointer (some ⟨H+1,0,none⟩),.pointer (some ⟨H+1+1,0,none⟩),.pointer (some ⟨H+1+1+1+1,0,none⟩),.pointer (some ⟨H+1+1+1,0,none⟩),.pointer (some ⟨H+1+1+1+1+1+1+1+1,0,none⟩)]);rw [hW] at dF;have hb:Below w.heap.size w W9:=Below.next eO Ct;have Jj:Below w.heap.size w W:=⟨dF.os.trans hb.os,dF.tape.trans hb.tape,dF.output.trans hb.output,al hb.size dF.size,fun k hk=>(dF.block k (by have:=hb.size;omega) (by omega)).trans (hb.block k hk)⟩
  have bG:∀ {k:Nat} {cs:Array Value} {T:TypeId},k<H+1+1+1+1+1+1+1+1→B.ax W9 k cs T→B.ax W k cs T:=fun {k cs T} hk hr=>(dF.block k (by omega) (by omega)).trans hr
  have u0:=bG (by omega) (r0.below Ct)
  have u1:=bG (by omega) (r1.below Ct)
  have u2:=bG (by omega) (r2.below Ct)
  have u3:=bG (by omega) (r3.below Ct)
  have u4:=bG (by omega) r4
  have u5:=bG (by omega) r5
  have u6:W.heap[H+1+1+1+1+1+1]?=some (.map #[] 0):=(dF.block _ (by omega) (by omega)).trans r6
  have u7:=bG (by omega) r7
  have u8:B.ax W (H+1+1+1+1+1+1+1+1) #[(.func (.func 90) #[] #[.pointer (some ⟨H+1+1+1+1+1+1+1,0,none⟩),.pointer (some ⟨H+1+1+1+1+1,0,none⟩),.pointer (some ⟨H,0,none⟩),.pointer (some ⟨H+1,0,none⟩),.pointer (some ⟨H+1+1,0,none⟩),.pointer (some ⟨H+1+1+1+1,0,none⟩),.pointer (some ⟨H+1+1+1,0,none⟩),.pointer (some ⟨H+1+1+1+1+1+1+1+1,0,none⟩)])] 167:=hW▸rC r8 _;have hGS:Gs base A db F d w tb ⟨H+1+1+1+1+1+1+1,H+1+1+1+1+1+1,H,H+1+1+1+1+1,H+1,H+1+1,H+1+1+1+1,H+1+1+1,H+1+1+1+1+1+1+1+1⟩ fr en lim (H+1+1+1+1+1+1+1+1+1) W (.slice none 0 0) [] []:=by
   have jF:db<w.heap.size:=by
    obtain ⟨d',_,mb,nb,Ku,av,Dn,hb⟩:=hc.dv.dev;exact (Array.getElem?_eq_some_iff.1 hb.dn).1
   refine ⟨hc.dv.below Jj,Mv.of Jj,u7.cell 0 (by simp),u0.cell 0 (by simp),u5.cell 0 (by simp),u1.cell 0 (by simp),u2.cell 0 (by simp),u3.cell 0 (by simp),u8.cell 0 (by simp),u4,yE.nil _ _,aD _,Met.made u6,by simp,?_,?_,jF,?_⟩
   ·intro b hb;simp only [dN,dA,or_false] at hb;omega
   ·intro b hb;simp only [dN,dA,or_false] at hb;show b≠H+1+1+1+1
    omega
   ·have:=dF.size;omega
  have BM:=lu cT (by omega)
  have WZ:Hid (∀ W',Below W.heap.size W W'→Calls prog 90 #[p.val,.int .i64 ((1:Nat):Int),.pointer (some ⟨H+1+1+1+1+1+1+1,0,none⟩),.pointer (some ⟨H+1+1+1+1+1,0,none⟩),.pointer (some ⟨H,0,none⟩),.pointer (some ⟨H+1,0,none⟩),.pointer (some ⟨H+1+1,0,none⟩),.pointer (some ⟨H+1+1+1+1,0,none⟩),.pointer (some ⟨H+1+1+1,0,none⟩),.pointer (some ⟨H+1+1+1+1+1+1+1+1,0,none⟩)] W' (Fx base A db F d w tb ⟨H+1+1+1+1+1+1+1,H+1+1+1+1+1+1,H,H+1+1+1+1+1,H+1,H+1+1,H+1+1+1+1,H+1+1+1,H+1+1+1+1+1+1+1+1⟩ fr en lim (H+1+1+1+1+1+1+1+1+1) W' (.slice none 0 0) [] (dE h t) (fu fr en lim h t []))):=fun W' XA=>yi hc.dv ht UB h p t 1 W' _ [] [] hk (jM cT) (hGS.below XA) (by omega) (by simpa using iB) AL (fun _ _ h=>by simp at h) (by simpa using Rk)
  have wg:Hid (∀ W',Mv db F w W'→W'.cell? ⟨tb,1,none⟩=some p.val):=fun W' hm=>(cG (hm.bU hc.dv) ht).c1
  rw [gw,show ((1:Nat):Int)=1 from rfl] at WZ
  rw [gw] at wg;have m0:W.cell? ⟨H,0,none⟩=some (.pointer (some ⟨tb,0,none⟩)):=u0.cell 0 (by simp)
  have m8:W.cell? ⟨H+1+1+1+1+1+1+1+1,0,none⟩=some (.func (.func 90) #[] #[.pointer (some ⟨H+1+1+1+1+1+1+1,0,none⟩),.pointer (some ⟨H+1+1+1+1+1,0,none⟩),.pointer (some ⟨H,0,none⟩),.pointer (some ⟨H+1,0,none⟩),.pointer (some ⟨H+1+1,0,none⟩),.pointer (some ⟨H+1+1+1+1,0,none⟩),.pointer (some ⟨H+1+1+1,0,none⟩),.pointer (some ⟨H+1+1+1+1+1+1+1+1,0,none⟩)]):=u8.cell 0 (by simp)
  have m4:W.cell? ⟨tb,1,none⟩=some (.iface vt vx):=(Jj.cell (p:=⟨tb,1,none⟩) (World.block_lt_of_cell? w _ c1)).trans (by rw [← gw];exact c1)
  have pN:=ab cT;have hHs:=hH.symm;clear eO Ct hc ht hk c1 r0 r1 r2 r3 r4 r5 r6 r7 r8 u0 u1 u2 u3 u4 u5 u6 u7 u8 bG dF hb Jj hGS BM cT AL Rk iB hn jz FF gw hH;go_enter func59,ntmps59;go_wp2_with fail;go_region_held3 (fun w'=>w'.cell? ⟨H,0,none⟩=some (.pointer (some ⟨tb,0,none⟩))∧w'.cell? ⟨H+1+1+1+1+1+1+1+1,0,none⟩=some (.func (.func 90) #[] #[.pointer (some ⟨H+1+1+1+1+1+1+1,0,none⟩),.pointer (some ⟨H+1+1+1+1+1,0,none⟩),.pointer (some ⟨H,0,none⟩),.pointer (some ⟨H+1,0,none⟩),.pointer (some ⟨H+1+1,0,none⟩),.pointer (some ⟨H+1+1+1+1,0,none⟩),.pointer (some ⟨H+1+1+1,0,none⟩),.pointer (some ⟨H+1+1+1+1+1+1+1+1,0,none⟩)])∧w'.cell? ⟨tb,1,none⟩=some (.iface vt vx)) (go_keep)
   (first
    | (go_at_call 90;refine (WZ.out _ (by first | exact Below.refl _ _ | exact B.aN (Below.refl _ _))).mono ?_;rintro e w2 ⟨v',M',rfl,pW,Xx,-,-⟩;have Q7:=ab pW;have n0:w2.cell? ⟨H,0,none⟩=some (.pointer (some ⟨tb,0,none⟩)):=pW.ct;have n8:w2.cell? ⟨H+1+1+1+1+1+1+1+1,0,none⟩=some (.func (.func 90) #[] #[.pointer (some ⟨H+1+1+1+1+1+1+1,0,none⟩),.pointer (some ⟨H+1+1+1+1+1,0,none⟩),.pointer (some ⟨H,0,none⟩),.pointer (some ⟨H+1,0,none⟩),.pointer (some ⟨H+1+1,0,none⟩),.pointer (some ⟨H+1+1+1+1,0,none⟩),.pointer (some ⟨H+1+1+1,0,none⟩),.pointer (some ⟨H+1+1+1+1+1+1+1+1,0,none⟩)]):=pW.cg;have n4:=wg.out _ pW.mv;have kf:w2.cell? ⟨H+1+1+1+1+1,0,none⟩=some .nilIface:=pW.cf;have kp:w2.cell? ⟨H+1+1+1+1,0,none⟩=some v':=pW.row.cell 0 (by simp);clear pW Xx))
  obtain ⟨va,vn,vc,jS⟩ : ∃ a n c,v' = .slice a n c:=by
   obtain ⟨a,c,h⟩:=Q7.out.ps.1.form;exact ⟨a,_,c,h⟩
  subst jS;have nY:Hid (yE w2 w.heap.size (.slice va vn vc) (((flat h t).filter (jt fr en)).take lim)∧Dv base A db F d w2∧Mv db F w w2):=by
   have h1:=Q7.out.ps;rw [Lt pN.out.1] at h1;exact ⟨h1.lower (by omega),Q7.out.dv,Q7.out.mv⟩
  clear Q7 WZ n0 n8 n4 m0 m8 m4 wg pN hW ZR Ry q0 q3 q4 q8 f8;go_wp2;go_ret2;exact ⟨⟨_,rfl,nY.out.1⟩,nY.out.2⟩
theorem KB{w:World}(hc:Ts base A db F d W0 w tb r)(k:Int)(hk:k<0):Calls prog 59 #[.pointer (some ⟨tb,0,none⟩),.string fr,.string en,.int .i64 k] w fun e w'=>e = .returned (.tuple #[.slice none 0 0,.iface 360 (.pointer (some (A 0)))])∧Below w.heap.size w w':=by
 obtain ⟨W4,Ry⟩ : ∃ W4,(((w.alloc (.cells #[.pointer (some ⟨tb,0,none⟩)] 38)).alloc (.cells #[.string fr] 9)).alloc (.cells #[.string en] 9)).alloc (.cells #[.int .i64 k] 3)=W4:=⟨_,rfl⟩;obtain ⟨eO,s4,r0,r1,r2,r3⟩:=tP w W4 _ _ _ _ _ _ _ _ Ry;obtain ⟨H,hH⟩ : ∃ H,H=w.heap.size:=⟨_,rfl⟩;rw [← hH] at s4 r0 r1 r2 r3;have q3:W4.cell? ⟨H+1+1+1,0,none⟩=some (.int .i64 k):=r3.cell 0 (by simp)
 have gr:=ab eO;have e0:W4.cell? ⟨0,0,none⟩=some (.iface 360 (.pointer (some (A 0)))):=(hc.dv.below eO).g 0 (by decide)
 have hHs:=hH.symm;clear hc r0 r1 r2 r3 eO hH;go_enter func59,ntmps59;go_wp2_with fail;go_quiet (fail)
 go_wp2;go_ret2;exact ⟨rfl,aB gr.out _⟩
end
attribute [local go_sem ↓] Go.wp_at_zero Go.wp_at_succ
section
variable {base:Nat} {A:Nat→Addr} {db:Nat} {F:Nat→Prop} {d:S.V.bq} {w0:World} {tb:Nat} {x:Bv} {lo:Nat}
def QS(base:Nat)(A:Nat→Addr)(db:Nat)(F:Nat→Prop)(d:S.V.bq)(w0:World)(tb:Nat)(x:Bv)(lo:Nat)(h:Nat):Prop :=
 ∀ (p:C.Ch) (t:Nd h) (s:ByteArray) (w:World) (v:Value) (acc M:List Nat),eu (cJ d) w0 h p t→jI ⟨h,t⟩→Vs base A db F d w0 tb x lo w v acc M→(dE h t).Nodup→(∀ i ∈ dE h t,i ∉ M)→M.length+(dE h t).length<1099511627776→acc.length+(dE h t).length<1099511627776 →
  Calls prog 103 #[p.val,.string s,.int .i64 ((h:Int)+1),.pointer (some ⟨x.m,0,none⟩),.pointer (some ⟨x.f,0,none⟩),.pointer (some ⟨x.e,0,none⟩),.pointer (some ⟨x.t,0,none⟩),.pointer (some ⟨x.v,0,none⟩)] w
   fun e w'=>e = .returned (.bool true)∧(∃ v',Vs base A db F d w0 tb x lo w' v' (acc++dE h t) (M++dE h t))∧cM w w'
theorem F4(gi:Dv base A db F d w0):QS base A db F d w0 tb x lo 0:=by
 intro p t s w v acc M hk nM hg jz lZ ny FJ;have Ii:=ab (hg.again gi hk lZ ny);have WC:Hid (∀ W,Vs base A db F d w0 tb x lo W v acc (M++df (fx 0 t))→Calls prog 66 #[p.val,.string s,.int .i64 1,.pointer (some ⟨x.p,0,none⟩)] W fun e w'=>e = .returned (.tuple #[])∧(∃ v',Vs base A db F d w0 tb x lo w' v' (acc++df (fx 0 t)) (M++df (fx 0 t)))∧cM W w'):=fun W hW=>CT p (fx 0 t) (xM hk).1 s 1 hW gi (by omega)
 obtain ⟨pt,px,gw⟩:=bz p;rw [gw] at Ii WC ⊢;have k0:=hg.cm;clear hg hk nM gi gw jz lZ ny FJ;rw [show ((0:Nat):Int)+1=1 from rfl]
 go_enter func103,ntmps103;go_wp2_with fail;refine Ii.out.mono ?_
 rintro e wa ⟨rfl,yb,Pb⟩;have k1:=yb.ce;have HTF:=ab (WC.out wa yb);have HA1:=ab Pb;clear yb Pb WC Ii k0;go_wp2_with fail;refine HTF.out.mono ?_
 rintro e wb ⟨rfl,hvb,Cu⟩;have HE:Hid ((∃ v',Vs base A db F d w0 tb x lo wb v' (acc++dE 0 t) (M++dE 0 t))∧cM w wb):=⟨hvb,HA1.out.trans Cu⟩;clear hvb Cu HTF;go_wp2;go_ret;exact ⟨rfl,HE.out⟩
def vp{h:Nat}(t:Nd (h+1))(k:Nat):List Nat:=df t.1++(t.2.2.take k).flatMap (dE h)
theorem Kx{h:Nat}(t:Nd (h+1)):vp t 0=df t.1:=by simp [vp]
theorem Ky{h:Nat}{t:Nd (h+1)}{k:Nat}{c:Nd h}(hc:t.2.2[k]?=some c):vp t (k+1)=vp t k++dE h c:=by
 unfold vp;rw [xg hc,ay]
theorem N3{h:Nat}{t:Nd (h+1)}{k:Nat}(hk:t.2.2.length≤k):vp t k=dE (h+1) t:=by
 unfold vp;rw [aq hk];rfl
theorem Dp{h:Nat}{t:Nd (h+1)}(k:Nat):(vp t k).Sublist (dE (h+1) t):=rJ k
structure UT(base:Nat)(A:Nat→Addr)(db:Nat)(F:Nat→Prop)(d:S.V.bq)(w0:World)(tb:Nat)(x:Bv)(lo:Nat){h:Nat}(t:Nd (h+1))(w:World)(acc M:List Nat)(b:Nat)(n:SN)(pv lv cv:Value)(k:Nat)(wr:World):Prop where
 vs:∃ v,Vs base A db F d w0 tb x lo wr v (acc++vp t k) (M++vp t k)
 aw:cM w wr
 sn:dG wr b n pv lv cv
theorem UT.pS{h:Nat}{t:Nd (h+1)}{w:World}{acc M:List Nat}{b:Nat}{n:SN}{pv lv cv:Value}{k:Nat}{wr:World}{c:Nd h}{p:C.Ch}(IH:QS base A db F d w0 tb x lo h)(nM:jI ⟨h+1,t⟩)(hl:UT base A db F d w0 tb x lo t w acc M b n pv lv cv k wr)(hc:t.2.2[k]?=some c)(hk:eu (cJ d) w0 h p c)(jz:(dE (h+1) t).Nodup)(lZ:∀ i ∈ dE (h+1) t,i ∉ M)(ny:M.length+(dE (h+1) t).length<1099511627776)(FJ:acc.length+(dE (h+1) t).length<1099511627776)(s:ByteArray):Calls prog 103 #[p.val,.string s,.int .i64 ((h:Int)+1),.pointer (some ⟨x.m,0,none⟩),.pointer (some ⟨x.f,0,none⟩),.pointer (some ⟨x.e,0,none⟩),.pointer (some ⟨x.t,0,none⟩),.pointer (some ⟨x.v,0,none⟩)] wr fun e w'=>e = .returned (.bool true)∧UT base A db F d w0 tb x lo t w acc M b n pv lv cv (k+1) w':=by
 obtain ⟨v,hvs⟩:=hl.vs;obtain ⟨AO,Pt⟩:=IP hc jz;have kB:=Ky hc;have lC:=(Dp (t:=t) (k+1)).length_le;rw [kB,ae] at lC;refine (IH p c s wr v _ _ hk (mC nM hc) hvs AO (fun i hi hm=>?_) (by rw [ae];omega) (by rw [ae];omega)).mono ?_
 ·rcases List.mem_append.1 hm with h1 | h1
  ·exact lZ i ((Dp (k+1)).subset (by rw [kB];simp [hi])) h1
  ·unfold vp at h1;rcases List.mem_append.1 h1 with h2 | h2
   ·exact (Pt i hi).1 h2
   ·exact (Pt i hi).2 h2
 ·rintro e w' ⟨rfl,⟨v',h1⟩,h2⟩;rw [ay,ay,← kB] at h1;exact ⟨rfl,⟨v',h1⟩,hl.aw.trans h2,hl.sn.bU h2⟩
theorem Bd{rv:Value}{h:Nat}(hh:h≤1000)(IH:QS base A db F d w0 tb x lo h)(gi:Dv base A db F d w0)(GW:B.ax w0 tb #[.pointer (some ⟨db,0,none⟩),rv] 100):QS base A db F d w0 tb x lo (h+1):=by
 intro p t s w v acc M hk nM hg jz lZ ny FJ;have hlv:((h+1:Nat):Int)+1=(h:Int)+2:=by omega
 rw [hlv];have Ii:=ab (hg.again gi hk lZ ny);have WC:Hid (∀ W,Vs base A db F d w0 tb x lo W v acc (M++df (fx (h+1) t))→Calls prog 66 #[p.val,.string s,.int .i64 ((h:Int)+2),.pointer (some ⟨x.p,0,none⟩)] W fun e w'=>e = .returned (.tuple #[])∧(∃ v',Vs base A db F d w0 tb x lo w' v' (acc++df (fx (h+1) t)) (M++df (fx (h+1) t)))∧cM W w'):=fun W hW=>CT p (fx (h+1) t) (xM hk).1 s _ hW gi (by omega)
 have oc:Hid (∀ W v',Vs base A db F d w0 tb x lo W v' (acc++df (fx (h+1) t)) (M++df (fx (h+1) t))→Calls prog 104 #[.pointer (some ⟨tb,0,none⟩),p.val] W fun e w'=>lY (ph d w0) A ⟨h+1,t⟩ e w'∧Dv base A db F d w'∧Mv db F W w'):=fun W v' hW=>by
  have aw:=hW.mv.bU gi;exact pw (ph d w0) p ⟨h+1,t⟩ tb rv W ⟨⟨hk,nM⟩,.inl aw⟩ (cG aw GW) hW.dv
 have MY:Hid (∀ (k:Nat) (wr:World) (b:Nat) (n:SN) (pv lv cv:Value) (c:Nd h) (q:C.Ch) (s:ByteArray),UT base A db F d w0 tb x lo t w acc M b n pv lv cv k wr→t.2.2[k]?=some c→eu (cJ d) w0 h q c→Calls prog 103 #[q.val,.string s,.int .i64 ((h:Int)+1),.pointer (some ⟨x.m,0,none⟩),.pointer (some ⟨x.f,0,none⟩),.pointer (some ⟨x.e,0,none⟩),.pointer (some ⟨x.t,0,none⟩),.pointer (some ⟨x.v,0,none⟩)] wr fun e w'=>e = .returned (.bool true)∧UT base A db F d w0 tb x lo t w acc M b n pv lv cv (k+1) w'):=fun k wr b n pv lv cv c q s hl hc Zk=>hl.pS IH nM hc Zk jz lZ ny FJ s
 obtain ⟨pt,px,gw⟩:=bz p;rw [gw] at Ii WC oc ⊢;have k0:=hg.cm;have Fm:=ab gi;have WJ:Hid (df (fx (h+1) t)=vp t 0):=by show df t.1=_;rw [Kx]
 have ahv:¬ (h:Int)+2=1:=by omega
 clear hg hk nM gi gw jz lZ ny FJ hlv GW IH;go_enter func103,ntmps103;go_wp2_with fail;refine Ii.out.mono ?_
 rintro e wa ⟨rfl,yb,Pb⟩;have k1:=yb.ce;have HTF:=ab (WC.out wa yb);have HA1:=ab Pb;clear yb Pb WC Ii k0;go_wp2_with fail;refine HTF.out.mono ?_
 rintro e wb ⟨rfl,⟨vb,hvb⟩,Cu⟩;have HA2:=ab (HA1.out.trans Cu);have k2:=hvb.ct;have Cz:=ab (oc.out wb vb hvb);have HVB:=ab hvb;clear hvb Cu HTF oc k1;go_wp2_with fail;refine Cz.out.mono ?_
 rintro e w1 ⟨zB,dX,eo⟩;rcases zB with ⟨hE,_⟩ | ⟨b,n,pv,lv,cv,rfl,hs,hn⟩
 ·exact (hE:False).elim
 ·have SR:=HVB.out.go eo dX;have ZM:=HA2.out.trans (eo.bU HVB.out.dv);obtain ⟨SQ,Wi⟩:=SR.nil Fm.out;have jy:=hs.bU Wi;have AO:aU (cJ d) w0 (h+1) n t:=hn.1.1;have ML:n.us.length=t.2.2.length:=AO.1;have h0:¬ n.us.length=0:=fun e=>AO.2.1 (List.length_eq_zero_iff.1 e)
  have gT:n.us.length=n.lk.length+1:=by
   rcases AO.2.2.1 with h9 | h9
   ·exact absurd h9 h0
   ·exact h9
  have ic:=hs.fine;have zQ:Hid (UT base A db F d w0 tb x lo t w acc M b n pv lv cv 0 (w1.setCell ⟨x.f,0,none⟩ .nilIface)):=⟨⟨_,by rw [← WJ.out];exact SQ⟩,ZM.trans Wi,jy⟩
  have MX:Hid (∀ (k:Nat) (q:C.Ch) (c:Nd h),n.us[k]?=some q→t.2.2[k]?=some c→eu (cJ d) w0 h q c):=fun k q c h1 h2=>AO.pS h1 h2
  have kf:w1.cell? ⟨x.f,0,none⟩=some .nilIface:=SR.cf.cell 0 (by simp)
  have kz:w1.frozen? ⟨x.f,0,none⟩=false:=by have hr:=SR.cf;unfold B.ax at hr;simp [World.frozen?,hr]
  obtain ⟨W,hW⟩ : ∃ W,w1.setCell ⟨x.f,0,none⟩ .nilIface=W:=⟨_,rfl⟩;rw [hW] at zQ jy SQ;have kf2:W.cell? ⟨x.f,0,none⟩=some .nilIface:=SQ.cf.cell 0 (by simp)
  have p3:=jy.c3;obtain ⟨la,lc,nT⟩:=hs.bm.form;obtain ⟨ca,cc,qO⟩:=hs.kids.form;obtain ⟨N,hN⟩ : ∃ N,N=n.us.length:=⟨_,rfl⟩;obtain ⟨L,hL⟩ : ∃ L,L=n.lk.length:=⟨_,rfl⟩;rw [← hN] at qO;rw [← hL] at nT;subst nT qO;have HN:Hid (N=n.us.length∧N=t.2.2.length∧N=n.lk.length+1∧L=n.lk.length∧L≤4000):=⟨hN,by omega,by omega,hL,by have:=ic.2.2.2.1;omega⟩
  clear dX eo Cz hs hn h0 AO ML ic gT k2 SR hN hL ZM Wi SQ jy HVB;go_wp2_with fail;go_loopw [39,1] (fun i u wr=>∃ (k:Nat) (s':ByteArray),i = .int .i64 (k:Int)∧u = .string s'∧k≤N∧UT base A db F d w0 tb x lo t w acc M b n pv (.slice la L lc) (.slice ca N cc) k wr)
   (fun i _ _=>N - (intOf i).toNat)
  case atStart=>exact ⟨0,s,rfl,rfl,aD _,zQ.out⟩
  case round =>
   obtain ⟨k,s',rfl,rfl,hkN,hl⟩:=hrel;obtain ⟨Jl,Jk,PY,hN4,hN5⟩:=HN.out;by_cases bP:k<N
   ·obtain ⟨u,hu⟩ : ∃ u,n.us[k]?=some u:=⟨_,af (by omega)⟩
    obtain ⟨c,hc⟩ : ∃ c,t.2.2[k]?=some c:=⟨_,af (by omega)⟩
    obtain ⟨g,o,rfl,PO⟩:=hl.sn.br.pS hu;obtain ⟨ut,ux,GV⟩:=bz u;rw [GV] at PO;have RL:Hid (∀ s,Calls prog 103 #[.iface ut ux,.string s,.int .i64 ((h:Int)+1),.pointer (some ⟨x.m,0,none⟩),.pointer (some ⟨x.f,0,none⟩),.pointer (some ⟨x.e,0,none⟩),.pointer (some ⟨x.t,0,none⟩),.pointer (some ⟨x.v,0,none⟩)] wr fun e w'=>e = .returned (.bool true)∧UT base A db F d w0 tb x lo t w acc M b n pv (.slice la L lc) (.slice (some ⟨g,o,none⟩) N cc) (k+1) w'):=fun s=>by
     rw [← GV];exact MY.out k wr b n _ _ _ c u s hl hc (MX.out k u c hu hc)
    have kv:wr.cell? ⟨x.v,0,none⟩=some (.func (.func 103) #[] #[.pointer (some ⟨x.m,0,none⟩),.pointer (some ⟨x.f,0,none⟩),.pointer (some ⟨x.e,0,none⟩),.pointer (some ⟨x.t,0,none⟩),.pointer (some ⟨x.v,0,none⟩)]):=by
     obtain ⟨v',SV⟩:=hl.vs;exact SV.cv
    have p2:=hl.sn.c2;have Rs:(0:Int)≤(k:Int):=by omega
    have jA:(k:Int)<(N:Int):=by omega
    have Up:IntKind.i64.wrap ((k:Int)+1)=(k:Int)+1:=by rw [IntKind.wrap_i64];omega
    have hwd:IntKind.i64.wrap ((h:Int)+2 - 1)=(h:Int)+1:=by rw [IntKind.wrap_i64];omega
    have T4:Hid (k+1≤N):=bP;cases k with
    | zero =>
     clear hl hu hc GV MY MX bP hkN zQ Jl Jk PY hN4 hN5 p2;rw [show o+0=o from rfl] at PO
     rw [show ((0:Nat):Int)=0 from rfl] at *
     go_wp2_with fail;refine (RL.out _).mono ?_
     rintro e w4 ⟨rfl,FH⟩;have WT:=ab FH;clear FH RL;go_wp2;go_roundw
     case rel=>exact ⟨1,s',by rfl,rfl,T4.out,WT.out⟩
     case measure=>simp [intOf];have:=T4.out;omega
    | succ j =>
     have hj:j<n.lk.length:=by omega
     obtain ⟨la',lc',he,_,_,Cp⟩:=hl.sn.bm;obtain ⟨lg,lof,Cq,V1,_⟩:=Cp j hj;cases he;subst Cq;have Lg:(0:Int)≤(j:Int):=by omega
     have hj1:(j:Int)<(n.lk.length:Int):=by omega
     have hj4:(j:Int)<4000:=by omega
     have qg:(0:Int)≤(j:Int)+1:=by omega
     have Xw:(j:Int)+1<(N:Int):=by omega
     have ab8:IntKind.i64.wrap ((j:Int)+1+1)=(j:Int)+1+1:=by rw [IntKind.wrap_i64];omega
     obtain ⟨ks,jE⟩ : ∃ ks,ks=n.lk[j].1:=⟨_,rfl⟩;rw [← jE] at V1;clear hl hu hc GV MY MX bP hkN zQ Jl Jk PY hN4 hN5 Cp jE Rs jA Up;go_wp2_with fail;refine (RL.out _).mono ?_
     rintro e w4 ⟨rfl,FH⟩;have WT:=ab FH;clear FH RL;go_wp2;go_roundw
     case rel=>exact ⟨j+1+1,ks,by simp [Int.natCast_add],rfl,T4.out,WT.out⟩
     case measure=>simp [intOf];have:=T4.out;omega
   ·have:k=N:=by omega
    subst this;have HE:Hid ((∃ v',Vs base A db F d w0 tb x lo wr v' (acc++dE (h+1) t) (M++dE (h+1) t))∧cM w wr):=by
     have:=hl.vs;rw [N3 (by omega)] at this
     exact ⟨this,hl.aw⟩
    clear hl MY MX HN zQ Jl Jk PY hN4 hN5;go_wp2;go_ret;exact ⟨rfl,HE.out⟩
end
end T
end Go.Proofs.YtihmgigfkmofnaaGreatDoor
