import Derived.Test.YtihmgigfkmofnaaGreatDoorG32
import Derived.Laws.EntriesVeiled
set_option maxHeartbeats 4000000
set_option maxRecDepth 100000
open Go.Proofs.Tryz
namespace Go.Proofs.YtihmgigfkmofnaaGreatDoor
namespace T
open Go.RowKit
theorem tC{base:Nat}{F F':Nat→Prop}{w w':World}(h:S.V.Step F F' w w')(hs:base≤w.heap.size)(hF:∀ k,F k→base≤k):Below base w w'∧∀ k,F' k→base≤k:=by
 refine ⟨⟨h.os,h.tape,h.output,h.size,fun k hk=>h.block k (by omega) (fun e=>by have:=hF k e;omega)⟩,fun k hk=>?_⟩
 rcases h.sub k hk with e | e
 ·exact hF k e
 ·omega
section
variable {base:Nat} {A:Nat→Addr} {db:Nat} {F:Nat→Prop} {d d2:S.V.bE} {W0:World} {r:cT}
theorem Dv.step{F':Nat→Prop}{w w':World}(hv:Dv base A db F d w)(hs:S.V.Step F F' w w')(hd:∃ d',Nr d2 d'∧S.V.cP w' db F' d')(ha:d2.dead=false):Dv base A db F' d2 w':=by
 obtain ⟨hb,hF⟩:=tC hs hv.env.errs.size hv.up;refine ⟨hd,hv.env.keep hb,⟨fun i hi=>?_,hv.errs.2⟩,hF,ha,hv.lo⟩
 obtain ⟨h1,c,t,h2⟩:=hv.errs.1 i hi;have hl:=hv.lo i hi;exact ⟨(hb.cell (p:=⟨fe i,0,none⟩) hl.1).trans h1,c,t,(hb.block _ hl.2).trans h2⟩
theorem OO{w:World}(s:S.Sh)(hv:Dv base A db F d w)(hm:S.td s)(hx:s.rD<18446744073709551616)(eF:(s.id+1)*8≤d.size)(hp:d.aX.length≤1000000)(ha:d.eQ=[]):Calls prog 62 #[.pointer (some ⟨db,0,none⟩),.agg s.cells.toArray] w fun e w'=>e = .returned .nilIface∧∃ F',Dv base A db F' (qG d s) w'∧S.V.Step F F' w w':=by
 obtain ⟨d',⟨n,rfl⟩,hd⟩:=hv.dev;refine (S.KZ base A db F { d with nr:=n } s w (by rw [hm.2.2.2];decide) hx hd hv.env hv.up hp hv.alive ha).mono ?_
 rintro e w' (⟨rfl,_,F',h1,h2⟩ | ⟨fl,_,_⟩)
 ·exact ⟨rfl,F',hv.step h2 ⟨_,⟨n,rfl⟩,h1⟩ hv.alive,h2⟩
 ·exact absurd ⟨hm,eF⟩ fl
def nE(d:S.V.bE):S.V.bE:={ d with eG:=S.V.gO d.eG d.aX,aX:=[],ns:=wrap64 (d.ns+1) }
theorem Td{w:World}(hv:Dv base A db F d w)(hp:d.aX.length≤1000000)(ha:d.eQ=[]):Calls prog 63 #[.pointer (some ⟨db,0,none⟩)] w fun e w'=>e = .returned .nilIface∧∃ F',Dv base A db F' (nE d) w'∧S.V.Step F F' w w':=by
 obtain ⟨d',⟨n,rfl⟩,hd⟩:=hv.dev;have e1:({ d with nr:=n }:S.V.bE).sync=({ nE d with nr:=n },0):=by
  obtain ⟨sz,eG,aX,eQ,dead,nr,nw,ns⟩:=d;have h1:dead=false:=hv.alive;have h2:eQ=[]:=ha;subst h1 h2;rfl
 refine (S.V.OM base A db F { d with nr:=n } w hd hv.env.errs hv.up (by show d.aX.length≤_;omega) (by show S.V.Nu base A db d.eQ;rw [ha];exact S.V.xS base A db)).mono ?_
 rintro e w' ⟨he,F',h1,h2⟩;rw [e1] at he h1;exact ⟨he,F',hv.step h2 ⟨_,⟨n,rfl⟩,h1⟩ hv.alive,h2⟩
end
theorem Jh{d:S.V.bE}(hs:∀ x ∈ d.aX,x.lx.size=512):cF (nE d)=cF d:=by
 funext id
 refine AH rfl ?_
 rw [pD d hs,pD (nE d) (fun x hx=>by simp [nE] at hx)]
 rfl
def eJ(d:S.V.bE)(Z:List S.Sh):S.V.bE:=Z.foldl qG d
theorem qF(d:S.V.bE)(Z:List S.Sh)(s:S.Sh):eJ d (Z++[s])=qG (eJ d Z) s:=by simp [eJ,List.foldl_append]
theorem lJ{d:S.V.bE}:∀ (n:Nat) (Z:List S.Sh),Z.length=n→(eJ d Z).size=d.size∧(eJ d Z).eQ=d.eQ∧(eJ d Z).dead=d.dead∧(eJ d Z).aX.length=d.aX.length+8*Z.length∧(eJ d Z).eG=d.eG
 | 0,Z,hl=>by
  have:Z=[]:=List.length_eq_zero_iff.1 hl;subst this;exact ⟨rfl,rfl,rfl,rfl,rfl⟩
 | n+1,Z,hl=>by
  have cY:Z≠[]:=fun e=>by rw [e] at hl;cases hl
  have e:=iA cY;have h1:Z.dropLast.length=n:=by rw [List.length_dropLast];omega
  obtain ⟨a1,a2,a3,a4,a5⟩:=lJ (d:=d) n Z.dropLast h1;rw [← e,qF];refine ⟨a1,a2,a3,?_,a5⟩;show ((eJ d Z.dropLast).aX++S.V.chunks _ _ 8).length=_
  rw [ae,S.V.yM,a4,ae,aQ];omega
def RI(sz:Int)(s:S.Sh):Prop:=S.td s∧s.rD<18446744073709551616∧(s.id+1)*8≤sz
theorem DM{d:S.V.bE}(hs:∀ x ∈ d.aX,x.lx.size=512):∀ (n:Nat) (Z:List S.Sh),Z.length=n→(∀ s ∈ Z,RI d.size s)→(Z.map (·.id)).Nodup →
  (∀ x ∈ (eJ d Z).aX,x.lx.size=512)∧(∀ id,(∀ s ∈ Z,s.id≠id)→cF (eJ d Z) id=cF d id)∧∀ s ∈ Z,∀ p,gj s p→cF (eJ d Z) s.id=some p
 | 0,Z,hl,_,_=>by
  have:Z=[]:=List.length_eq_zero_iff.1 hl;subst this;exact ⟨hs,fun _ _=>rfl,fun s h=>by simp at h⟩
 | n+1,Z,hl,hc,hn=>by
  have cY:Z≠[]:=fun e=>by rw [e] at hl;cases hl
  have e:=iA cY;have h1:Z.dropLast.length=n:=by rw [List.length_dropLast];omega
  obtain ⟨s,nP⟩ : ∃ s,s=Z.getLast cY:=⟨_,rfl⟩;rw [← nP] at e;have fI:RI d.size s:=hc s (by rw [← e];simp)
  rw [← e,bz,List.nodup_append] at hn;obtain ⟨g1,g2,g3⟩:=DM hs n Z.dropLast h1 (fun x hx=>hc x (List.dropLast_subset Z hx)) hn.1
  obtain ⟨a1,a2,a3,a4,a5⟩:=lJ (d:=d) n Z.dropLast h1;have b8:(qG (eJ d Z.dropLast) s).size=d.size:=a1;have Ug:=fun i=>O8 (d:=eJ d Z.dropLast) fI.1 g1 i
  have EO:∀ id,id≠s.id→cF (qG (eJ d Z.dropLast) s) id=cF (eJ d Z.dropLast) id:=fun id hid=>AH rfl (by rw [Ug,if_neg hid])
  rw [← e,qF];refine ⟨DN fI.1 g1,fun id hid=>?_,fun x hx p hp=>?_⟩
  ·rw [EO id (fun e=>hid s (by simp) e.symm)]
   exact g2 id fun x hx=>hid x (by simp [hx])
  ·rcases List.mem_append.1 hx with hx | hx
   ·have Ck:x.id≠s.id:=hn.2.2 _ (jX hx) _ (by simp)
    rw [EO _ Ck];exact g3 x hx p hp
   ·have hxs:x=s:=by simpa using hx
    subst hxs;refine Tz ⟨fI.1,fI.2.1,rfl,by rw [b8];exact fI.2.2,?_⟩ hp
    rw [Ug,if_pos rfl]
theorem OU{tx id:Nat}{p:PD}(hp:Xa p):gj (j8 tx (id,p)) p:=by
 cases p with
 | leaf l =>
  have h:=UJ (l:=l) hp;refine .inl ⟨rfl,?_,?_⟩
  ·show lV ((l.length:Int).toNat) (uy l).data.toList
   rw [bt];simpa [uy] using h.1
  ·show PD.leaf l = .leaf (Ab ((l.length:Int).toNat) (uy l).data.toList)
   rw [bt];have:Ab l.length (uy l).data.toList=l:=by simpa [uy] using h.2
   rw [this]
 | br f lk =>
  have h:=B.Ra (f:=f) (l:=lk) hp;refine .inr ⟨rfl,?_,?_⟩
  ·show B.uM (((lk.length:Int)+1).toNat) (B.pZ f lk).data.toList
   rw [show ((lk.length:Int)+1).toNat=lk.length+1 by omega]
   simpa [B.pZ] using h.1
  ·show PD.br f lk = .br (B.FC (bX (B.pZ f lk).data.toList ((lk.length:Int)+1).toNat)) (B.Bu (bX (B.pZ f lk).data.toList ((lk.length:Int)+1).toNat))
   rw [show ((lk.length:Int)+1).toNat=lk.length+1 by omega]
   have h2:B.FC (bX (B.pZ f lk).data.toList (lk.length+1))=f:=by simpa [B.pZ] using h.2.1
   have h3:B.Bu (bX (B.pZ f lk).data.toList (lk.length+1))=lk:=by simpa [B.pZ] using h.2.2
   rw [h2,h3]
theorem Ex{α β γ:Type}(g:α→Nat→β × List γ):∀ (cs:List α) (k:Nat) (x:γ),x ∈ (cd g cs k).2→∃ (i:Nat) (c:α) (ki:Nat),cs[i]?=some c∧x ∈ (g c ki).2∧(cd g cs k).1[i]?=some (g c ki).1
 | [],_,x,h=>by simp [cd] at h
 | c::cs,k,x,h=>by
  rcases List.mem_append.1 h with h | h
  ·exact ⟨0,c,k,rfl,h,rfl⟩
  ·obtain ⟨i,c',ki,h1,h2,h3⟩:=Ex g cs _ x h;exact ⟨i+1,c',ki,h1,h2,h3⟩
theorem JV{PG:Int→Option PD}{w:World}{P:Nat→Nat}(hP:∀ j,2≤P j∧P j<1048576):∀ (h:Nat) {p:C.Ch} {t:Nd h} (k:Nat),eu PG w h p t→R0 h t→(cD h (aY P h t k).1).Nodup→∀ x ∈ (aY P h t k).2,Xa x.2
 | 0,p,t,k,hk,ho,hn,x,hx=>by
  by_cases h0:t.1=0
  ·have e1:aY P 0 t k=((P k,t.2),[(P k,.leaf t.2)]):=if_pos h0;rw [e1] at hx;have hx:x=(P k,.leaf t.2):=by simpa using hx
   subst hx;exact D5 ho
  ·have e1:aY P 0 t k=(t,[]):=if_neg h0;rw [e1] at hx;simp at hx
 | h+1,p,t,k,hk,ho,hn,x,hx=>by
  by_cases h0:t.1=0
  ·obtain ⟨R,hR⟩ : ∃ R,R=cd (aY P h) t.2.2 k:=⟨_,rfl⟩;have e1:aY P (h+1) t k=((P (k+R.2.length),t.2.1,R.1),R.2++[(P (k+R.2.length),.br (lZ R.1) (qJ t.2.1 R.1))]):=by rw [hR];exact if_pos h0
   rw [e1] at hx hn;have hn':(R.1.flatMap (cD h)).Nodup:=by
    have h9:(cU (P (k+R.2.length))++R.1.flatMap (cD h)).Nodup:=hn;exact h9.sublist (dF _ _)
   cases p with
   | pg id =>
    have hk:fu PG (h+1) id t:=hk;exact absurd h0 (by have:=hk.1;have:=hk.2.1;omega)
   | nd b =>
    obtain ⟨_,n,xv,lv,cv,tY,jb⟩:=hk;have NM:n.us.length=t.2.2.length:=jb.1;rcases List.mem_append.1 hx with hx | hx
    ·rw [hR] at hx;obtain ⟨i,c,ki,h1,h2,h3⟩:=Ex (aY P h) t.2.2 k x hx;rw [← hR] at h3;obtain ⟨q,hq⟩ : ∃ q,n.us[i]?=some q:=⟨_,af (by have:=(List.getElem?_eq_some_iff.1 h1).1;omega)⟩
     exact JV hP h ki (jb.qi hq h1) (wk ho h1) (xV hn' h3) x h2
    ·have hx:x=(P (k+R.2.length),.br (lZ R.1) (qJ t.2.1 R.1)):=by simpa using hx
     subst hx;obtain ⟨⟨pT,mc,cM⟩,b8,ja⟩:=ho;have NQ:=(eS h t pT mc).1 cM;have Uj:gi (kG h) pT mc t.2.1 R.1:=by
      rw [hR];exact wE (fun t k lo hi hf=>⟨qK h t k lo hi hf.1,by unfold Full;rw [Ca];exact hf.2⟩) t.2.2 t.2.1 k pT mc NQ
     refine RK Uj b8 ja (fun c' vj=>?_) hn'
     obtain ⟨i,hi,hv⟩:=aK vj;have Bb:i<t.2.2.length:=by rw [hR,iw] at hi;exact hi
     have Mm:t.2.2[i]?=some t.2.2[i]:=af Bb;obtain ⟨ki,g1,_⟩:=sj (aY P h) t.2.2 k i _ Mm;rw [← hR,af hi,hv] at g1;cases g1;obtain ⟨q,hq⟩ : ∃ q,n.us[i]?=some q:=⟨_,af (by omega)⟩
     exact AU hP (jb.qi hq Mm) ki
  ·have e1:aY P (h+1) t k=(t,[]):=if_neg h0;rw [e1] at hx;simp at hx
theorem Q9{l:List Pr}(h:fB l≤4072):(uy l).size=4072:=by
 have h1:=si (l.map fw) (by rw [qC];exact h)
 show (jA (l.map fw)).toArray.size=4072
 simpa using h1
theorem ML{f:Int}{l:List B.Lk}(h:B.jy l≤4072):(B.pZ f l).size=4072:=by
 have h1:=si (B.dA f l) (by rw [B.ox];exact h)
 show (jA (B.dA f l)).toArray.size=4072
 simpa using h1
theorem Jg:∀ l:List B.Lk,l.length≤B.jy l
 | []=>by simp
 | p::l=>by
  have:=Jg l;have e:B.jy (p::l)=B.zn p+B.jy l:=by simp [B.jy];omega
  have:1≤B.zn p:=by unfold B.zn;omega
  rw [List.length_cons];omega
theorem WS{tx id:Nat}{p:PD}(hp:Xa p)(h1:2≤id)(h2:id<1048576):S.td (j8 tx (id,p)):=by
 cases p with
 | leaf l =>
  have hc:=sJ hp;have hl:=gT l;exact ⟨.inr rfl,⟨by show (0:Int)≤(l.length:Int);omega,by show (l.length:Int)≤65535;omega⟩,⟨by show (2:Int)≤(id:Int);omega,by show (id:Int)<1048576;omega⟩,Q9 hc.2.2.1⟩
 | br f lk =>
  have hc:=B.iX hp;have hl:=Jg lk;exact ⟨.inl rfl,⟨by show (0:Int)≤(lk.length:Int)+1;omega,by show (lk.length:Int)+1≤65535;omega⟩,⟨by show (2:Int)≤(id:Int);omega,by show (id:Int)<1048576;omega⟩,ML hc.2.2.2.2.2.1⟩
theorem Jo{tx:Nat}(x:Nat × PD):(j8 tx x).id=(x.1:Int)∧(j8 tx x).rD=tx:=by
 obtain ⟨i,p⟩:=x;cases p <;> exact ⟨rfl,rfl⟩
theorem Dp{d:S.V.bE}{r:cT}{w:World}{rv:Value}{T:Nat→Bool}{PP tx:Nat}(hr:ft (cF d) w rv r)(cM:eD r)(hk:Q.qo PP T)(hn:eA r≤(Q.gB T PP).length)(jb:(eh r).Nodup)(yt:∀ i ∈ eh r,T i=true)(hs:∀ x ∈ d.aX,x.lx.size=512)(b8:d.size=8*(PP:Int))(Sx:tx<18446744073709551616):(∀ s ∈ (jz (fi (Q.fk T PP (eA r))) r).2.map (j8 tx),RI d.size s)∧(∀ x ∈ (eJ d ((jz (fi (Q.fk T PP (eA r))) r).2.map (j8 tx))).aX,x.lx.size=512)∧∀ w',ft (cF (nE (eJ d ((jz (fi (Q.fk T PP (eA r))) r).2.map (j8 tx))))) w' (j9 (jz (fi (Q.fk T PP (eA r))) r).1) (jz (fi (Q.fk T PP (eA r))) r).1:=by
 obtain ⟨vS,Mq⟩:=qL hk hn jb yt;have N0:=fun j=>ni (n:=eA r) hk j
 obtain ⟨L,hL⟩ : ∃ L,L=Q.fk T PP (eA r):=⟨_,rfl⟩;have hLt:∀ i ∈ L,i<PP∧T i=false:=fun i hi=>by rw [hL] at hi;exact Q.se hi
 have Ka:L.Nodup:=by rw [hL];exact xZ _ _ _
 rw [← hL] at vS Mq N0 ⊢;rcases hr with ⟨rfl,rfl⟩ | ⟨p,h,t,rfl,rfl,oR⟩
 ·exact ⟨fun s hx=>by simp [jz] at hx,hs,fun w'=>.inl ⟨rfl,rfl⟩⟩
 ·have abr:(aY (fi L) h t 0).2.map (·.1)=L:=by
   have:=Cb (P:=fi L) h t 0;rw [this,pI,show jh h t=L.length from Mq.symm,EF]
  have Mc:∀ x ∈ (aY (fi L) h t 0).2,x.1 ∈ L:=fun x hx=>by rw [← abr];exact jX hx
  have abH:=JV N0 h 0 oR (D4 cM) vS;have jR:∀ i ∈ L,2≤i:=fun i hi=>by
   obtain ⟨j,hj,rfl⟩:=aK hi;have:=(N0 j).1;unfold fi at this;rw [aF,af hj] at this;exact this
  have QR:∀ s ∈ (aY (fi L) h t 0).2.map (j8 tx),RI d.size s:=fun s hx=>by
   obtain ⟨x,sR,rfl⟩:=List.mem_map.1 hx;have h1:=hLt _ (Mc x sR);have h2:=jR _ (Mc x sR);have h3:=hk.hi;have h4:=Jo (tx:=tx) x;refine ⟨?_,by rw [h4.2];exact Sx,by rw [h4.1,b8];omega⟩
   obtain ⟨i,q⟩:=x;exact WS (abH _ sR) h2 (by have:i<PP:=h1.1;omega)
  have ae3:(((aY (fi L) h t 0).2.map (j8 tx)).map (·.id)).Nodup:=by
   have e:((aY (fi L) h t 0).2.map (j8 tx)).map (·.id)=L.map fun n:Nat=>(n:Int):=by
    have e2:L.map (fun n:Nat=>(n:Int))=((aY (fi L) h t 0).2.map (·.1)).map fun n:Nat=>(n:Int):=by rw [abr]
    rw [e2,et,et];apply gN
    intro x _;exact (Jo x).1
   rw [e];exact List.Pairwise.map _ (fun a b Bg e=>Bg (by omega)) Ka
  obtain ⟨g1,g2,g3⟩:=DM hs _ _ rfl QR ae3;refine ⟨QR,g1,fun w'=>.inr ⟨.pg (fh h (aY (fi L) h t 0).1:Int),h,(aY (fi L) h t 0).1,rfl,rfl,?_⟩⟩
  show fu _ h _ _
  refine yi N0 h 0 oR ⟨none,none,cM.1⟩ (fun i hi=>?_) fun x hx=>?_
  ·show cF (nE (eJ d ((aY (fi L) h t 0).2.map (j8 tx)))) _=_
   rw [Jh g1];refine g2 _ fun s hx e=>?_
   obtain ⟨x,sR,rfl⟩:=List.mem_map.1 hx;rw [(Jo x).1] at e;have h1:=(hLt _ (Mc x sR)).2;have h2:=yt i hi;have e':x.1=i:=by omega
   rw [e',h2] at h1;cases h1
  ·show cF (nE (eJ d ((aY (fi L) h t 0).2.map (j8 tx)))) _=_
   rw [Jh g1,← (Jo (tx:=tx) x).1];refine g3 _ (jX hx) x.2 ?_
   obtain ⟨i,q⟩:=x;exact OU (abH _ hx)
attribute [local go_sem ↓] Go.wp_at_zero Go.wp_at_succ
theorem uh(w W:World)(a b c e:Value)(TA TB TC TE:TypeId)(hW:(((w.alloc (.cells #[a] TA)).alloc (.cells #[b] TB)).alloc (.cells #[c] TC)).alloc (.cells #[e] TE)=W):Below w.heap.size w W∧W.heap.size=w.heap.size+1+1+1+1∧B.au W w.heap.size #[a] TA∧B.au W (w.heap.size+1) #[b] TB∧B.au W (w.heap.size+1+1) #[c] TC∧B.au W (w.heap.size+1+1+1) #[e] TE:=by
 obtain ⟨W1,h1⟩ : ∃ W1,W1=w.alloc (.cells #[a] TA):=⟨_,rfl⟩;obtain ⟨W2,h2⟩ : ∃ W2,W2=W1.alloc (.cells #[b] TB):=⟨_,rfl⟩;obtain ⟨W3,h3⟩ : ∃ W3,W3=W2.alloc (.cells #[c] TC):=⟨_,rfl⟩;rw [← h1,← h2,← h3] at hW;have s1:W1.heap.size=w.heap.size+1:=by rw [h1];simp
 have s2:W2.heap.size=w.heap.size+1+1:=by rw [h2,← s1];simp
 have s3:W3.heap.size=w.heap.size+1+1+1:=by rw [h3,← s2];simp
 have b1:Below w.heap.size w W1:=h1▸ai w _;have b2:Below W1.heap.size W1 W2:=h2▸ai W1 _;have b3:Below W2.heap.size W2 W3:=h3▸ai W2 _;have b4:Below W3.heap.size W3 W:=hW▸ai W3 _;have r1:B.au W1 w.heap.size #[a] TA:=h1▸B.au.new w _ _;have r2:B.au W2 W1.heap.size #[b] TB:=h2▸B.au.new W1 _ _;have r3:B.au W3 W2.heap.size #[c] TC:=h3▸B.au.new W2 _ _;have r4:B.au W W3.heap.size #[e] TE:=hW▸B.au.new W3 _ _;rw [s1] at r2;rw [s2] at r3;rw [s3] at r4;exact ⟨Below.next (Below.next (Below.next b1 b2) b3) b4,by rw [← hW,← s3];simp,((r1.below b2).below b3).below b4,(r2.below b3).below b4,r3.below b4,r4⟩
theorem MD(w W:World)(a b c e:Value)(TA TB TC TE:TypeId)(hW:((((w.alloc (.cells #[a] TA)).alloc (.cells #[b] TB)).alloc (.map #[] 0)).alloc (.cells #[c] TC)).alloc (.cells #[e] TE)=W):Below w.heap.size w W∧W.heap.size=w.heap.size+1+1+1+1+1∧B.au W w.heap.size #[a] TA∧B.au W (w.heap.size+1) #[b] TB∧W.heap[w.heap.size+1+1]?=some (.map #[] 0)∧B.au W (w.heap.size+1+1+1) #[c] TC∧B.au W (w.heap.size+1+1+1+1) #[e] TE:=by
 obtain ⟨W1,h1⟩ : ∃ W1,W1=w.alloc (.cells #[a] TA):=⟨_,rfl⟩;obtain ⟨W2,h2⟩ : ∃ W2,W2=W1.alloc (.cells #[b] TB):=⟨_,rfl⟩;obtain ⟨W3,h3⟩ : ∃ W3,W3=W2.alloc (.map #[] 0):=⟨_,rfl⟩;obtain ⟨W4,h4⟩ : ∃ W4,W4=W3.alloc (.cells #[c] TC):=⟨_,rfl⟩;rw [← h1,← h2,← h3,← h4] at hW;have s1:W1.heap.size=w.heap.size+1:=by rw [h1];simp
 have s2:W2.heap.size=w.heap.size+1+1:=by rw [h2,← s1];simp
 have s3:W3.heap.size=w.heap.size+1+1+1:=by rw [h3,← s2];simp
 have s4:W4.heap.size=w.heap.size+1+1+1+1:=by rw [h4,← s3];simp
 have b1:Below w.heap.size w W1:=h1▸ai w _;have b2:Below W1.heap.size W1 W2:=h2▸ai W1 _;have b3:Below W2.heap.size W2 W3:=h3▸ai W2 _;have b4:Below W3.heap.size W3 W4:=h4▸ai W3 _;have b5:Below W4.heap.size W4 W:=hW▸ai W4 _;have r1:B.au W1 w.heap.size #[a] TA:=h1▸B.au.new w _ _;have r2:B.au W2 W1.heap.size #[b] TB:=h2▸B.au.new W1 _ _;have r3:W3.heap[W2.heap.size]?=some (.map #[] 0):=h3▸heap_alloc_new W2 _;have r4:B.au W4 W3.heap.size #[c] TC:=h4▸B.au.new W3 _ _;have r5:B.au W W4.heap.size #[e] TE:=hW▸B.au.new W4 _ _;have e3:W.heap[W2.heap.size]?=some (.map #[] 0):=(b5.block _ (by omega)).trans ((b4.block _ (by omega)).trans r3)
 rw [s1] at r2;rw [s2] at e3;rw [s3] at r4;rw [s4] at r5;exact ⟨Below.next (Below.next (Below.next (Below.next b1 b2) b3) b4) b5,by rw [← hW,← s4];simp,(((r1.below b2).below b3).below b4).below b5,((r2.below b3).below b4).below b5,e3,r4.below b5,r5⟩
theorem zb.lower{w:World}{lo pT:Nat}{v:Value}{l:List Pr}(h:zb w lo v l)(hl:pT≤lo):zb w pT v l:=by
 refine ⟨⟨h.1.1,?_⟩,h.2⟩;rcases h.1.2 with h' | ⟨g,cap,cur,h',h1,h2⟩
 ·exact .inl h'
 ·exact .inr ⟨g,cap,cur,h',ar hl h1,h2⟩
theorem Met.made{w:World}{b:Nat}(h:w.heap[b]?=some (.map #[] 0)):Met w b []:=by
 obtain ⟨es,clock,h1,h2⟩:=World.ownsMap_made w prog 3 (unitElem (H:=Unit));have h3:(w.alloc (.map #[] 0)).heap[w.heap.size]?=some (.map #[] 0):=heap_alloc_new w _;rw [h3] at h1;cases h1;exact ⟨fun i hi=>by simp at hi,⟨#[],0,h,h2⟩⟩
section
variable {base:Nat} {A:Nat→Addr} {db:Nat} {F:Nat→Prop} {d:S.V.bE} {w0:World} {tb:Nat} {x:Bx} {fr en:ByteArray} {lim lo:Nat} {W0:World} {r:cT}
theorem yD{rv:Value}(iK:Dv base A db F d w0)(Hy:B.au w0 tb #[.pointer (some ⟨db,0,none⟩),rv] 100)(VT:lim≤9223372036854775807):∀ h,Kw base A db F d w0 tb x fr en lim lo h
 | 0=>fun p t dp w v acc M hk nH hg Gh eb _ lW nk=>E7 iK Hy p t dp w v acc M hk nH hg (by omega) VT eb lW nk
 | h+1=>z8 (yD iK Hy VT h) iK Hy
theorem GZ{w:World}(hc:Ts base A db F d W0 w tb r)(hn:(aD r).length*32≤140737488355328)(jb:(eh r).Nodup)(Gc:(eh r).length<1099511627776)(VT:lim≤9223372036854775807):Calls prog 59 #[.pointer (some ⟨tb,0,none⟩),.string fr,.string en,.int .i64 (lim:Int)] w fun e w'=>(∃ v,e = .returned (.tuple #[v,.nilIface])∧zb w' w.heap.size v (((aD r).filter (jQ fr en)).take lim))∧Dv base A db F d w'∧Mv db F w w':=by
 have A9:=@run_makeMap prog;obtain ⟨rv,ht,hr⟩:=hc.tr;have c1:=ht.c1;have nQ:¬ (lim:Int)<0:=by omega
 rcases hr with ⟨rfl,rfl⟩ | ⟨p,h,t,rfl,rfl,hk⟩
 ·obtain ⟨W4,SK⟩ : ∃ W4,(((w.alloc (.cells #[.pointer (some ⟨tb,0,none⟩)] 38)).alloc (.cells #[.string fr] 9)).alloc (.cells #[.string en] 9)).alloc (.cells #[.int .i64 (lim:Int)] 3)=W4:=⟨_,rfl⟩;obtain ⟨fS,s4,r0,r1,r2,r3⟩:=uh w W4 _ _ _ _ _ _ _ _ SK;obtain ⟨H,hH⟩ : ∃ H,H=w.heap.size:=⟨_,rfl⟩;rw [← hH] at s4 r0 r1 r2 r3;have q0:=r0.cell 0 (by simp)
  have q3:=r3.cell 0 (by simp)
  have q4:W4.cell? ⟨tb,1,none⟩=some .nilIface:=(fS.cell (p:=⟨tb,1,none⟩) (World.block_lt_of_cell? w _ c1)).trans c1;have iY:=ab fS;have HC:=ab hc;have hHs:=hH.symm;clear hc ht c1 r0 r1 r2 r3 fS hH;go_enter func59,ntmps59;go_wp2;go_ret2;exact ⟨⟨_,rfl,by show zb _ _ _ (List.take lim []);rw [List.take_nil];exact zb.nil _ _⟩,HC.out.dv.below iY.out,Mv.of iY.out⟩
 ·have cM:eD (some ⟨h,t⟩):=hc.ok;have il:(flat h t).length*32≤140737488355328:=hn;have ru:(cD h t).Nodup:=jb;have L8:(cD h t).length<1099511627776:=Gc;obtain ⟨H,hH⟩ : ∃ H,H=w.heap.size:=⟨_,rfl⟩;obtain ⟨W4,SK⟩ : ∃ W4,(((w.alloc (.cells #[.pointer (some ⟨tb,0,none⟩)] 38)).alloc (.cells #[.string fr] 9)).alloc (.cells #[.string en] 9)).alloc (.cells #[.int .i64 (lim:Int)] 3)=W4:=⟨_,rfl⟩;obtain ⟨fS,s4,r0,r1,r2,r3⟩:=uh w W4 _ _ _ _ _ _ _ _ SK;rw [← hH] at s4 r0 r1 r2 r3;obtain ⟨W9,hW9⟩ : ∃ W9,((((W4.alloc (.cells #[.slice none 0 0] 63)).alloc (.cells #[.nilIface] 32)).alloc (.map #[] 0)).alloc (.cells #[.map (some (H+1+1+1+1+1+1))] 166)).alloc (.cells #[.nilFunc] 167)=W9:=⟨_,rfl⟩;obtain ⟨z7,s9,r4,r5,r6,r7,r8⟩:=MD W4 W9 _ _ _ _ _ _ _ _ hW9;rw [s4] at s9 r4 r5 r6 r7 r8;have q0:=r0.cell 0 (by simp)
  have q3:=r3.cell 0 (by simp)
  obtain ⟨vt,vx,ir⟩:=bU p;have q4:W4.cell? ⟨tb,1,none⟩=some (.iface vt vx):=(fS.cell (p:=⟨tb,1,none⟩) (World.block_lt_of_cell? w _ c1)).trans (by rw [← ir];exact c1)
  have q8:=r8.cell 0 (by simp)
  have f8:W9.frozen? ⟨H+1+1+1+1+1+1+1+1,0,none⟩=false:=by unfold B.au at r8;simp [World.frozen?,r8]
  obtain ⟨W,hW⟩ : ∃ W,W9.setCell ⟨H+1+1+1+1+1+1+1+1,0,none⟩ (.func (.func 90) #[] #[.pointer (some ⟨H+1+1+1+1+1+1+1,0,none⟩),.pointer (some ⟨H+1+1+1+1+1,0,none⟩),.pointer (some ⟨H,0,none⟩),.pointer (some ⟨H+1,0,none⟩),.pointer (some ⟨H+1+1,0,none⟩),.pointer (some ⟨H+1+1+1+1,0,none⟩),.pointer (some ⟨H+1+1+1,0,none⟩),.pointer (some ⟨H+1+1+1+1+1+1+1+1,0,none⟩)])=W:=⟨_,rfl⟩;have dG:=bG.set (H+1+1+1+1+1+1+1+1) 0 W9 (.func (.func 90) #[] #[.pointer (some ⟨H+1+1+1+1+1+1+1,0,none⟩),.pointer (some ⟨H+1+1+1+1+1,0,none⟩),.pointer (some ⟨H,0,none⟩),.pointer (some ⟨H+1,0,none⟩),.pointer (some ⟨H+1+1,0,none⟩),.pointer (some ⟨H+1+1+1+1,0,none⟩),.pointer (some ⟨H+1+1+1,0,none⟩),.pointer (some ⟨H+1+1+1+1+1+1+1+1,0,none⟩)]);rw [hW] at dG;have hb:Below w.heap.size w W9:=Below.next fS z7;have J7:Below w.heap.size w W:=⟨dG.os.trans hb.os,dG.tape.trans hb.tape,dG.output.trans hb.output,ar hb.size dG.size,fun k hk=>(dG.block k (by have:=hb.size;omega) (by omega)).trans (hb.block k hk)⟩
  have bH:∀ {k:Nat} {cs:Array Value} {T:TypeId},k<H+1+1+1+1+1+1+1+1→B.au W9 k cs T→B.au W k cs T:=fun {k cs T} hk hr=>(dG.block k (by omega) (by omega)).trans hr
  have u0:=bH (by omega) (r0.below z7)
  have u1:=bH (by omega) (r1.below z7)
  have u2:=bH (by omega) (r2.below z7)
  have u3:=bH (by omega) (r3.below z7)
  have u4:=bH (by omega) r4
  have u5:=bH (by omega) r5
  have u6:W.heap[H+1+1+1+1+1+1]?=some (.map #[] 0):=(dG.block _ (by omega) (by omega)).trans r6
  have u7:=bH (by omega) r7
  have u8:B.au W (H+1+1+1+1+1+1+1+1) #[(.func (.func 90) #[] #[.pointer (some ⟨H+1+1+1+1+1+1+1,0,none⟩),.pointer (some ⟨H+1+1+1+1+1,0,none⟩),.pointer (some ⟨H,0,none⟩),.pointer (some ⟨H+1,0,none⟩),.pointer (some ⟨H+1+1,0,none⟩),.pointer (some ⟨H+1+1+1+1,0,none⟩),.pointer (some ⟨H+1+1+1,0,none⟩),.pointer (some ⟨H+1+1+1+1+1+1+1+1,0,none⟩)])] 167:=hW▸rL r8 _;have hGS:Gs base A db F d w tb ⟨H+1+1+1+1+1+1+1,H+1+1+1+1+1+1,H,H+1+1+1+1+1,H+1,H+1+1,H+1+1+1+1,H+1+1+1,H+1+1+1+1+1+1+1+1⟩ fr en lim (H+1+1+1+1+1+1+1+1+1) W (.slice none 0 0) [] []:=by
   have jE:db<w.heap.size:=by
    obtain ⟨d',_,mb,nb,Li,av,Dn,hb⟩:=hc.dv.dev;exact (Array.getElem?_eq_some_iff.1 hb.dx).1
   refine ⟨hc.dv.below J7,Mv.of J7,u7.cell 0 (by simp),u0.cell 0 (by simp),u5.cell 0 (by simp),u1.cell 0 (by simp),u2.cell 0 (by simp),u3.cell 0 (by simp),u8.cell 0 (by simp),u4,zb.nil _ _,aB _,Met.made u6,by simp,?_,?_,jE,?_⟩
   ·intro b hb;simp only [dO,dB,or_false] at hb;omega
   ·intro b hb;simp only [dO,dB,or_false] at hb;show b≠H+1+1+1+1
    omega
   ·have:=dG.size;omega
  have vT:=lh cM (by omega)
  have YK:Hid (∀ W',Below W.heap.size W W'→Calls prog 90 #[p.val,.int .i64 ((1:Nat):Int),.pointer (some ⟨H+1+1+1+1+1+1+1,0,none⟩),.pointer (some ⟨H+1+1+1+1+1,0,none⟩),.pointer (some ⟨H,0,none⟩),.pointer (some ⟨H+1,0,none⟩),.pointer (some ⟨H+1+1,0,none⟩),.pointer (some ⟨H+1+1+1+1,0,none⟩),.pointer (some ⟨H+1+1+1,0,none⟩),.pointer (some ⟨H+1+1+1+1+1+1+1+1,0,none⟩)] W' (F7 base A db F d w tb ⟨H+1+1+1+1+1+1+1,H+1+1+1+1+1+1,H,H+1+1+1+1+1,H+1,H+1+1,H+1+1+1+1,H+1+1+1,H+1+1+1+1+1+1+1+1⟩ fr en lim (H+1+1+1+1+1+1+1+1+1) W' (.slice none 0 0) [] (cD h t) (fy fr en lim h t []))):=fun W' Zi=>yD hc.dv ht VT h p t 1 W' _ [] [] hk (jK cM) (hGS.below Zi) (by omega) (by simpa using il) ru (fun _ _ h=>by simp at h) (by simpa using L8)
  have BD:Hid (∀ W',Mv db F w W'→W'.cell? ⟨tb,1,none⟩=some p.val):=fun W' hm=>(dX (hm.cN hc.dv) ht).c1
  rw [ir,show ((1:Nat):Int)=1 from rfl] at YK
  rw [ir] at BD;have m0:W.cell? ⟨H,0,none⟩=some (.pointer (some ⟨tb,0,none⟩)):=u0.cell 0 (by simp)
  have m8:W.cell? ⟨H+1+1+1+1+1+1+1+1,0,none⟩=some (.func (.func 90) #[] #[.pointer (some ⟨H+1+1+1+1+1+1+1,0,none⟩),.pointer (some ⟨H+1+1+1+1+1,0,none⟩),.pointer (some ⟨H,0,none⟩),.pointer (some ⟨H+1,0,none⟩),.pointer (some ⟨H+1+1,0,none⟩),.pointer (some ⟨H+1+1+1+1,0,none⟩),.pointer (some ⟨H+1+1+1,0,none⟩),.pointer (some ⟨H+1+1+1+1+1+1+1+1,0,none⟩)]):=u8.cell 0 (by simp)
  have m4:W.cell? ⟨tb,1,none⟩=some (.iface vt vx):=(J7.cell (p:=⟨tb,1,none⟩) (World.block_lt_of_cell? w _ c1)).trans (by rw [← ir];exact c1)
  have od:=ab cM;have hHs:=hH.symm;clear fS z7 hc ht hk c1 r0 r1 r2 r3 r4 r5 r6 r7 r8 u0 u1 u2 u3 u4 u5 u6 u7 u8 bH dG hb J7 hGS vT cM ru L8 il hn jb Gc ir hH;go_enter func59,ntmps59;go_wp2_with fail;go_region_held3 (fun w'=>w'.cell? ⟨H,0,none⟩=some (.pointer (some ⟨tb,0,none⟩))∧w'.cell? ⟨H+1+1+1+1+1+1+1+1,0,none⟩=some (.func (.func 90) #[] #[.pointer (some ⟨H+1+1+1+1+1+1+1,0,none⟩),.pointer (some ⟨H+1+1+1+1+1,0,none⟩),.pointer (some ⟨H,0,none⟩),.pointer (some ⟨H+1,0,none⟩),.pointer (some ⟨H+1+1,0,none⟩),.pointer (some ⟨H+1+1+1+1,0,none⟩),.pointer (some ⟨H+1+1+1,0,none⟩),.pointer (some ⟨H+1+1+1+1+1+1+1+1,0,none⟩)])∧w'.cell? ⟨tb,1,none⟩=some (.iface vt vx)) (go_keep)
   (first
    | (go_at_call 90;refine (YK.out _ (by first | exact Below.refl _ _ | exact B.aP (Below.refl _ _))).mono ?_;rintro e w2 ⟨v',M',rfl,pX,Zf,-,-⟩;have Sn:=ab pX;have n0:w2.cell? ⟨H,0,none⟩=some (.pointer (some ⟨tb,0,none⟩)):=pX.ct;have n8:w2.cell? ⟨H+1+1+1+1+1+1+1+1,0,none⟩=some (.func (.func 90) #[] #[.pointer (some ⟨H+1+1+1+1+1+1+1,0,none⟩),.pointer (some ⟨H+1+1+1+1+1,0,none⟩),.pointer (some ⟨H,0,none⟩),.pointer (some ⟨H+1,0,none⟩),.pointer (some ⟨H+1+1,0,none⟩),.pointer (some ⟨H+1+1+1+1,0,none⟩),.pointer (some ⟨H+1+1+1,0,none⟩),.pointer (some ⟨H+1+1+1+1+1+1+1+1,0,none⟩)]):=pX.cg;have n4:=BD.out _ pX.mv;have kf:w2.cell? ⟨H+1+1+1+1+1,0,none⟩=some .nilIface:=pX.cf;have kp:w2.cell? ⟨H+1+1+1+1,0,none⟩=some v':=pX.row.cell 0 (by simp);clear pX Zf))
  obtain ⟨va,vn,vc,lM⟩ : ∃ a n c,v' = .slice a n c:=by
   obtain ⟨a,c,h⟩:=Sn.out.ps.1.form;exact ⟨a,_,c,h⟩
  subst lM;have nV:Hid (zb w2 w.heap.size (.slice va vn vc) (((flat h t).filter (jQ fr en)).take lim)∧Dv base A db F d w2∧Mv db F w w2):=by
   have h1:=Sn.out.ps;rw [Mw od.out.1] at h1;exact ⟨h1.lower (by omega),Sn.out.dv,Sn.out.mv⟩
  clear Sn YK n0 n8 n4 m0 m8 m4 BD od hW hW9 SK q0 q3 q4 q8 f8;go_wp2;go_ret2;exact ⟨⟨_,rfl,nV.out.1⟩,nV.out.2⟩
theorem Lq{w:World}(hc:Ts base A db F d W0 w tb r)(k:Int)(hk:k<0):Calls prog 59 #[.pointer (some ⟨tb,0,none⟩),.string fr,.string en,.int .i64 k] w fun e w'=>e = .returned (.tuple #[.slice none 0 0,.iface 360 (.pointer (some (A 0)))])∧Below w.heap.size w w':=by
 obtain ⟨W4,SK⟩ : ∃ W4,(((w.alloc (.cells #[.pointer (some ⟨tb,0,none⟩)] 38)).alloc (.cells #[.string fr] 9)).alloc (.cells #[.string en] 9)).alloc (.cells #[.int .i64 k] 3)=W4:=⟨_,rfl⟩;obtain ⟨fS,s4,r0,r1,r2,r3⟩:=uh w W4 _ _ _ _ _ _ _ _ SK;obtain ⟨H,hH⟩ : ∃ H,H=w.heap.size:=⟨_,rfl⟩;rw [← hH] at s4 r0 r1 r2 r3;have q3:W4.cell? ⟨H+1+1+1,0,none⟩=some (.int .i64 k):=r3.cell 0 (by simp)
 have iY:=ab fS;have e0:W4.cell? ⟨0,0,none⟩=some (.iface 360 (.pointer (some (A 0)))):=(hc.dv.below fS).g 0 (by decide)
 have hHs:=hH.symm;clear hc r0 r1 r2 r3 fS hH;go_enter func59,ntmps59;go_wp2_with fail;go_quiet (fail)
 go_wp2;go_ret2;exact ⟨rfl,aA iY.out _⟩
end
attribute [local go_sem ↓] Go.wp_at_zero Go.wp_at_succ
section
variable {base:Nat} {A:Nat→Addr} {db:Nat} {F:Nat→Prop} {d:S.V.bE} {w0:World} {tb:Nat} {x:Bv} {lo:Nat}
def RY(base:Nat)(A:Nat→Addr)(db:Nat)(F:Nat→Prop)(d:S.V.bE)(w0:World)(tb:Nat)(x:Bv)(lo:Nat)(h:Nat):Prop :=
 ∀ (p:C.Ch) (t:Nd h) (s:ByteArray) (w:World) (v:Value) (acc M:List Nat),eu (cF d) w0 h p t→jH ⟨h,t⟩→Vs base A db F d w0 tb x lo w v acc M→(cD h t).Nodup→(∀ i ∈ cD h t,i ∉ M)→M.length+(cD h t).length<1099511627776→acc.length+(cD h t).length<1099511627776 →
  Calls prog 103 #[p.val,.string s,.int .i64 ((h:Int)+1),.pointer (some ⟨x.m,0,none⟩),.pointer (some ⟨x.f,0,none⟩),.pointer (some ⟨x.e,0,none⟩),.pointer (some ⟨x.t,0,none⟩),.pointer (some ⟨x.v,0,none⟩)] w
   fun e w'=>e = .returned (.bool true)∧(∃ v',Vs base A db F d w0 tb x lo w' v' (acc++cD h t) (M++cD h t))∧df w w'
theorem Gy(iK:Dv base A db F d w0):RY base A db F d w0 tb x lo 0:=by
 intro p t s w v acc M hk nH hg jb lW nk Gj;have I3:=ab (hg.again iK hk lW nk);have Yj:Hid (∀ W,Vs base A db F d w0 tb x lo W v acc (M++cU (fh 0 t))→Calls prog 66 #[p.val,.string s,.int .i64 1,.pointer (some ⟨x.p,0,none⟩)] W fun e w'=>e = .returned (.tuple #[])∧(∃ v',Vs base A db F d w0 tb x lo w' v' (acc++cU (fh 0 t)) (M++cU (fh 0 t)))∧df W w'):=fun W hW=>Di p (fh 0 t) (yl hk).1 s 1 hW iK (by omega)
 obtain ⟨pt,px,ir⟩:=bU p;rw [ir] at I3 Yj ⊢;have k0:=hg.cm;clear hg hk nH iK ir jb lW nk Gj;rw [show ((0:Nat):Int)+1=1 from rfl]
 go_enter func103,ntmps103;go_wp2_with fail;refine I3.out.mono ?_
 rintro e wa ⟨rfl,zY,Qi⟩;have k1:=zY.ce;have HTF:=ab (Yj.out wa zY);have HA1:=ab Qi;clear zY Qi Yj I3 k0;go_wp2_with fail;refine HTF.out.mono ?_
 rintro e wb ⟨rfl,hvb,Bg⟩;have HE:Hid ((∃ v',Vs base A db F d w0 tb x lo wb v' (acc++cD 0 t) (M++cD 0 t))∧df w wb):=⟨hvb,HA1.out.trans Bg⟩;clear hvb Bg HTF;go_wp2;go_ret;exact ⟨rfl,HE.out⟩
def vO{h:Nat}(t:Nd (h+1))(k:Nat):List Nat:=cU t.1++(t.2.2.take k).flatMap (cD h)
theorem Lm{h:Nat}(t:Nd (h+1)):vO t 0=cU t.1:=by simp [vO]
theorem Ln{h:Nat}{t:Nd (h+1)}{k:Nat}{c:Nd h}(hc:t.2.2[k]?=some c):vO t (k+1)=vO t k++cD h c:=by
 unfold vO;rw [xM hc,ay]
theorem Pc{h:Nat}{t:Nd (h+1)}{k:Nat}(hk:t.2.2.length≤k):vO t k=cD (h+1) t:=by
 unfold vO;rw [ao hk];rfl
theorem DS{h:Nat}{t:Nd (h+1)}(k:Nat):(vO t k).Sublist (cD (h+1) t):=rR k
structure Wg(base:Nat)(A:Nat→Addr)(db:Nat)(F:Nat→Prop)(d:S.V.bE)(w0:World)(tb:Nat)(x:Bv)(lo:Nat){h:Nat}(t:Nd (h+1))(w:World)(acc M:List Nat)(b:Nat)(n:SN)(pv lv cv:Value)(k:Nat)(wr:World):Prop where
 vs:∃ v,Vs base A db F d w0 tb x lo wr v (acc++vO t k) (M++vO t k)
 aw:df w wr
 sn:dP wr b n pv lv cv
theorem Wg.qi{h:Nat}{t:Nd (h+1)}{w:World}{acc M:List Nat}{b:Nat}{n:SN}{pv lv cv:Value}{k:Nat}{wr:World}{c:Nd h}{p:C.Ch}(IH:RY base A db F d w0 tb x lo h)(nH:jH ⟨h+1,t⟩)(hl:Wg base A db F d w0 tb x lo t w acc M b n pv lv cv k wr)(hc:t.2.2[k]?=some c)(hk:eu (cF d) w0 h p c)(jb:(cD (h+1) t).Nodup)(lW:∀ i ∈ cD (h+1) t,i ∉ M)(nk:M.length+(cD (h+1) t).length<1099511627776)(Gj:acc.length+(cD (h+1) t).length<1099511627776)(s:ByteArray):Calls prog 103 #[p.val,.string s,.int .i64 ((h:Int)+1),.pointer (some ⟨x.m,0,none⟩),.pointer (some ⟨x.f,0,none⟩),.pointer (some ⟨x.e,0,none⟩),.pointer (some ⟨x.t,0,none⟩),.pointer (some ⟨x.v,0,none⟩)] wr fun e w'=>e = .returned (.bool true)∧Wg base A db F d w0 tb x lo t w acc M b n pv lv cv (k+1) w':=by
 obtain ⟨v,hvs⟩:=hl.vs;obtain ⟨A8,Qy⟩:=JA hc jb;have kt:=Ln hc;have oN:=(DS (t:=t) (k+1)).length_le;rw [kt,ae] at oN;refine (IH p c s wr v _ _ hk (mz nH hc) hvs A8 (fun i hi hm=>?_) (by rw [ae];omega) (by rw [ae];omega)).mono ?_
 ·rcases List.mem_append.1 hm with h1 | h1
  ·exact lW i ((DS (k+1)).subset (by rw [kt];simp [hi])) h1
  ·unfold vO at h1;rcases List.mem_append.1 h1 with h2 | h2
   ·exact (Qy i hi).1 h2
   ·exact (Qy i hi).2 h2
 ·rintro e w' ⟨rfl,⟨v',h1⟩,h2⟩;rw [ay,ay,← kt] at h1;exact ⟨rfl,⟨v',h1⟩,hl.aw.trans h2,hl.sn.cN h2⟩
theorem BM{rv:Value}{h:Nat}(hh:h≤1000)(IH:RY base A db F d w0 tb x lo h)(iK:Dv base A db F d w0)(Hy:B.au w0 tb #[.pointer (some ⟨db,0,none⟩),rv] 100):RY base A db F d w0 tb x lo (h+1):=by
 intro p t s w v acc M hk nH hg jb lW nk Gj;have hlv:((h+1:Nat):Int)+1=(h:Int)+2:=by omega
 rw [hlv];have I3:=ab (hg.again iK hk lW nk);have Yj:Hid (∀ W,Vs base A db F d w0 tb x lo W v acc (M++cU (fh (h+1) t))→Calls prog 66 #[p.val,.string s,.int .i64 ((h:Int)+2),.pointer (some ⟨x.p,0,none⟩)] W fun e w'=>e = .returned (.tuple #[])∧(∃ v',Vs base A db F d w0 tb x lo w' v' (acc++cU (fh (h+1) t)) (M++cU (fh (h+1) t)))∧df W w'):=fun W hW=>Di p (fh (h+1) t) (yl hk).1 s _ hW iK (by omega)
 have wP:Hid (∀ W v',Vs base A db F d w0 tb x lo W v' (acc++cU (fh (h+1) t)) (M++cU (fh (h+1) t))→Calls prog 104 #[.pointer (some ⟨tb,0,none⟩),p.val] W fun e w'=>lU (pz d w0) A ⟨h+1,t⟩ e w'∧Dv base A db F d w'∧Mv db F W w'):=fun W v' hW=>by
  have aw:=hW.mv.cN iK;exact pC (pz d w0) p ⟨h+1,t⟩ tb rv W ⟨⟨hk,nH⟩,.inl aw⟩ (dX aw Hy) hW.dv
 have IX:Hid (∀ (k:Nat) (wr:World) (b:Nat) (n:SN) (pv lv cv:Value) (c:Nd h) (q:C.Ch) (s:ByteArray),Wg base A db F d w0 tb x lo t w acc M b n pv lv cv k wr→t.2.2[k]?=some c→eu (cF d) w0 h q c→Calls prog 103 #[q.val,.string s,.int .i64 ((h:Int)+1),.pointer (some ⟨x.m,0,none⟩),.pointer (some ⟨x.f,0,none⟩),.pointer (some ⟨x.e,0,none⟩),.pointer (some ⟨x.t,0,none⟩),.pointer (some ⟨x.v,0,none⟩)] wr fun e w'=>e = .returned (.bool true)∧Wg base A db F d w0 tb x lo t w acc M b n pv lv cv (k+1) w'):=fun k wr b n pv lv cv c q s hl hc hkq=>hl.qi IH nH hc hkq jb lW nk Gj s
 obtain ⟨pt,px,ir⟩:=bU p;rw [ir] at I3 Yj wP ⊢;have k0:=hg.cm;have Sb:=ab iK;have Ys:Hid (cU (fh (h+1) t)=vO t 0):=by show cU t.1=_;rw [Lm]
 have akd:¬ (h:Int)+2=1:=by omega
 clear hg hk nH iK ir jb lW nk Gj hlv Hy IH;go_enter func103,ntmps103;go_wp2_with fail;refine I3.out.mono ?_
 rintro e wa ⟨rfl,zY,Qi⟩;have k1:=zY.ce;have HTF:=ab (Yj.out wa zY);have HA1:=ab Qi;clear zY Qi Yj I3 k0;go_wp2_with fail;refine HTF.out.mono ?_
 rintro e wb ⟨rfl,⟨vb,hvb⟩,Bg⟩;have HA2:=ab (HA1.out.trans Bg);have k2:=hvb.ct;have uL:=ab (wP.out wb vb hvb);have HVB:=ab hvb;clear hvb Bg HTF wP k1;go_wp2_with fail;refine uL.out.mono ?_
 rintro e w1 ⟨EI,fD,fo⟩;rcases EI with ⟨hE,_⟩ | ⟨b,n,pv,lv,cv,rfl,hs,hn⟩
 ·exact (hE:False).elim
 ·have T6:=HVB.out.go fo fD;have abR:=HA2.out.trans (fo.cN HVB.out.dv);obtain ⟨T5,XX⟩:=T6.nil Sb.out;have iL:=hs.cN XX;have A8:aW (cF d) w0 (h+1) n t:=hn.1.1;have NM:n.us.length=t.2.2.length:=A8.1;have h0:¬ n.us.length=0:=fun e=>A8.2.1 (List.length_eq_zero_iff.1 e)
  have gQ:n.us.length=n.lk.length+1:=by
   rcases A8.2.2.1 with h9 | h9
   ·exact absurd h9 h0
   ·exact h9
  have hU:=hs.fine;have Ah:Hid (Wg base A db F d w0 tb x lo t w acc M b n pv lv cv 0 (w1.setCell ⟨x.f,0,none⟩ .nilIface)):=⟨⟨_,by rw [← Ys.out];exact T5⟩,abR.trans XX,iL⟩
  have Oc:Hid (∀ (k:Nat) (q:C.Ch) (c:Nd h),n.us[k]?=some q→t.2.2[k]?=some c→eu (cF d) w0 h q c):=fun k q c h1 h2=>A8.qi h1 h2
  have kf:w1.cell? ⟨x.f,0,none⟩=some .nilIface:=T6.cf.cell 0 (by simp)
  have kz:w1.frozen? ⟨x.f,0,none⟩=false:=by have hr:=T6.cf;unfold B.au at hr;simp [World.frozen?,hr]
  obtain ⟨W,hW⟩ : ∃ W,w1.setCell ⟨x.f,0,none⟩ .nilIface=W:=⟨_,rfl⟩;rw [hW] at Ah iL T5;have kf2:W.cell? ⟨x.f,0,none⟩=some .nilIface:=T5.cf.cell 0 (by simp)
  have p3:=iL.c3;obtain ⟨la,lc,pW⟩:=hs.bn.form;obtain ⟨ca,cc,sU⟩:=hs.kids.form;obtain ⟨N,hN⟩ : ∃ N,N=n.us.length:=⟨_,rfl⟩;obtain ⟨L,hL⟩ : ∃ L,L=n.lk.length:=⟨_,rfl⟩;rw [← hN] at sU;rw [← hL] at pW;subst pW sU;have HN:Hid (N=n.us.length∧N=t.2.2.length∧N=n.lk.length+1∧L=n.lk.length∧L≤4000):=⟨hN,by omega,by omega,hL,by have:=hU.2.2.2.1;omega⟩
  clear fD fo uL hs hn h0 A8 NM hU gQ k2 T6 hN hL abR XX T5 iL HVB;go_wp2_with fail;go_loopw [39,1] (fun i u wr=>∃ (k:Nat) (s':ByteArray),i = .int .i64 (k:Int)∧u = .string s'∧k≤N∧Wg base A db F d w0 tb x lo t w acc M b n pv (.slice la L lc) (.slice ca N cc) k wr)
   (fun i _ _=>N - (intOf i).toNat)
  case atStart=>exact ⟨0,s,rfl,rfl,aB _,Ah.out⟩
  case round =>
   obtain ⟨k,s',rfl,rfl,hkN,hl⟩:=hrel;obtain ⟨J9,J8,QW,hN4,hN5⟩:=HN.out;by_cases bO:k<N
   ·obtain ⟨u,hu⟩ : ∃ u,n.us[k]?=some u:=⟨_,af (by omega)⟩
    obtain ⟨c,hc⟩ : ∃ c,t.2.2[k]?=some c:=⟨_,af (by omega)⟩
    obtain ⟨g,o,rfl,QQ⟩:=hl.sn.br.qi hu;obtain ⟨ut,ux,Hw⟩:=bU u;rw [Hw] at QQ;have SZ:Hid (∀ s,Calls prog 103 #[.iface ut ux,.string s,.int .i64 ((h:Int)+1),.pointer (some ⟨x.m,0,none⟩),.pointer (some ⟨x.f,0,none⟩),.pointer (some ⟨x.e,0,none⟩),.pointer (some ⟨x.t,0,none⟩),.pointer (some ⟨x.v,0,none⟩)] wr fun e w'=>e = .returned (.bool true)∧Wg base A db F d w0 tb x lo t w acc M b n pv (.slice la L lc) (.slice (some ⟨g,o,none⟩) N cc) (k+1) w'):=fun s=>by
     rw [← Hw];exact IX.out k wr b n _ _ _ c u s hl hc (Oc.out k u c hu hc)
    have kv:wr.cell? ⟨x.v,0,none⟩=some (.func (.func 103) #[] #[.pointer (some ⟨x.m,0,none⟩),.pointer (some ⟨x.f,0,none⟩),.pointer (some ⟨x.e,0,none⟩),.pointer (some ⟨x.t,0,none⟩),.pointer (some ⟨x.v,0,none⟩)]):=by
     obtain ⟨v',T9⟩:=hl.vs;exact T9.cv
    have p2:=hl.sn.c2;have Mg:(0:Int)≤(k:Int):=by omega
    have iV:(k:Int)<(N:Int):=by omega
    have T4:IntKind.i64.wrap ((k:Int)+1)=(k:Int)+1:=by rw [IntKind.wrap_i64];omega
    have hwd:IntKind.i64.wrap ((h:Int)+2 - 1)=(h:Int)+1:=by rw [IntKind.wrap_i64];omega
    have Vl:Hid (k+1≤N):=bO;cases k with
    | zero =>
     clear hl hu hc Hw IX Oc bO hkN Ah J9 J8 QW hN4 hN5 p2;rw [show o+0=o from rfl] at QQ
     rw [show ((0:Nat):Int)=0 from rfl] at *
     go_wp2_with fail;refine (SZ.out _).mono ?_
     rintro e w4 ⟨rfl,Ge⟩;have YE:=ab Ge;clear Ge SZ;go_wp2;go_roundw
     case rel=>exact ⟨1,s',by rfl,rfl,Vl.out,YE.out⟩
     case measure=>simp [intOf];have:=Vl.out;omega
    | succ j =>
     have hj:j<n.lk.length:=by omega
     obtain ⟨la',lc',he,_,_,CR⟩:=hl.sn.bn;obtain ⟨lg,lof,CS,XK,_⟩:=CR j hj;cases he;subst CS;have Gg:(0:Int)≤(j:Int):=by omega
     have hj1:(j:Int)<(n.lk.length:Int):=by omega
     have hj4:(j:Int)<4000:=by omega
     have qk:(0:Int)≤(j:Int)+1:=by omega
     have Mf:(j:Int)+1<(N:Int):=by omega
     have aao:IntKind.i64.wrap ((j:Int)+1+1)=(j:Int)+1+1:=by rw [IntKind.wrap_i64];omega
     obtain ⟨ks,jg⟩ : ∃ ks,ks=n.lk[j].1:=⟨_,rfl⟩;rw [← jg] at XK;clear hl hu hc Hw IX Oc bO hkN Ah J9 J8 QW hN4 hN5 CR jg Mg iV T4;go_wp2_with fail;refine (SZ.out _).mono ?_
     rintro e w4 ⟨rfl,Ge⟩;have YE:=ab Ge;clear Ge SZ;go_wp2;go_roundw
     case rel=>exact ⟨j+1+1,ks,by simp [Int.natCast_add],rfl,Vl.out,YE.out⟩
     case measure=>simp [intOf];have:=Vl.out;omega
   ·have:k=N:=by omega
    subst this;have HE:Hid ((∃ v',Vs base A db F d w0 tb x lo wr v' (acc++cD (h+1) t) (M++cD (h+1) t))∧df w wr):=by
     have:=hl.vs;rw [Pc (by omega)] at this
     exact ⟨this,hl.aw⟩
    clear hl IX Oc HN Ah J9 J8 QW hN4 hN5;go_wp2;go_ret;exact ⟨rfl,HE.out⟩
end
end T
end Go.Proofs.YtihmgigfkmofnaaGreatDoor
