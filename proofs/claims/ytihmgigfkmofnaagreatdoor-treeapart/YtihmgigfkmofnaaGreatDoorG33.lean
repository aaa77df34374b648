import Derived.Test.YtihmgigfkmofnaaGreatDoorG32
import Derived.Laws.EntriesVeiled
set_option maxHeartbeats 4000000
set_option maxRecDepth 100000
open Go.Proofs.Tryz
namespace Go.Proofs.YtihmgigfkmofnaaGreatDoor
namespace T
open Go.RowKit
theorem sG{base:Nat}{F F':Nat→Prop}{w w':World}(h:S.V.Step F F' w w')(hs:base≤w.heap.size)(hF:∀ k,F k→base≤k):Below base w w'∧∀ k,F' k→base≤k:=by
 refine ⟨⟨h.os,h.tape,h.output,h.size,fun k hk=>h.block k (by omega) (fun e=>by have:=hF k e;omega)⟩,fun k hk=>?_⟩
 rcases h.sub k hk with e | e
 ·exact hF k e
 ·omega
section
variable {base:Nat} {A:Nat→Addr} {db:Nat} {F:Nat→Prop} {d d2:S.V.bq} {W0:World} {r:ch}
theorem Dv.step{F':Nat→Prop}{w w':World}(hv:Dv base A db F d w)(hs:S.V.Step F F' w w')(hd:∃ d',Nr d2 d'∧S.V.cJ w' db F' d')(ha:d2.dead=false):Dv base A db F' d2 w':=by
 obtain ⟨hb,hF⟩:=sG hs hv.env.errs.size hv.up;refine ⟨hd,hv.env.keep hb,⟨fun i hi=>?_,hv.errs.2⟩,hF,ha,hv.lo⟩
 obtain ⟨h1,c,t,h2⟩:=hv.errs.1 i hi;have hl:=hv.lo i hi;exact ⟨(hb.cell (p:=⟨eR i,0,none⟩) hl.1).trans h1,c,t,(hb.block _ hl.2).trans h2⟩
theorem Nw{w:World}(s:S.Sh)(hv:Dv base A db F d w)(hm:S.sm s)(hx:s.sE<18446744073709551616)(eC:(s.id+1)*8≤d.size)(hp:d.aV.length≤1000000)(ha:d.eO=[]):Calls prog 62 #[.pointer (some ⟨db,0,none⟩),.agg s.cells.toArray] w fun e w'=>e = .returned .nilIface∧∃ F',Dv base A db F' (qg d s) w'∧S.V.Step F F' w w':=by
 obtain ⟨d',⟨n,rfl⟩,hd⟩:=hv.dev;refine (S.J2 base A db F { d with nr:=n } s w (by rw [hm.2.2.2];decide) hx hd hv.env hv.up hp hv.alive ha).mono ?_
 rintro e w' (⟨rfl,_,F',h1,h2⟩ | ⟨fJ,_,_⟩)
 ·exact ⟨rfl,F',hv.step h2 ⟨_,⟨n,rfl⟩,h1⟩ hv.alive,h2⟩
 ·exact absurd ⟨hm,eC⟩ fJ
def nu(d:S.V.bq):S.V.bq:={ d with eD:=S.V.gJ d.eD d.aV,aV:=[],ns:=wrap64 (d.ns+1) }
theorem RP{w:World}(hv:Dv base A db F d w)(hp:d.aV.length≤1000000)(ha:d.eO=[]):Calls prog 63 #[.pointer (some ⟨db,0,none⟩)] w fun e w'=>e = .returned .nilIface∧∃ F',Dv base A db F' (nu d) w'∧S.V.Step F F' w w':=by
 obtain ⟨d',⟨n,rfl⟩,hd⟩:=hv.dev;have e1:({ d with nr:=n }:S.V.bq).sync=({ nu d with nr:=n },0):=by
  obtain ⟨sz,eD,aV,eO,dead,nr,nw,ns⟩:=d;have h1:dead=false:=hv.alive;have h2:eO=[]:=ha;subst h1 h2;rfl
 refine (S.V.Nu base A db F { d with nr:=n } w hd hv.env.errs hv.up (by show d.aV.length≤_;omega) (by show S.V.Mm base A db d.eO;rw [ha];exact S.V.wT base A db)).mono ?_
 rintro e w' ⟨he,F',h1,h2⟩;rw [e1] at he h1;exact ⟨he,F',hv.step h2 ⟨_,⟨n,rfl⟩,h1⟩ hv.alive,h2⟩
end
theorem Ip{d:S.V.bq}(hs:∀ x ∈ d.aV,x.kG.size=512):cM (nu d)=cM d:=by
 funext id
 refine zT rfl ?_
 rw [oS d hs,oS (nu d) (fun x hx=>by simp [nu] at hx)]
 rfl
def eH(d:S.V.bq)(Z:List S.Sh):S.V.bq:=Z.foldl qg d
theorem qf(d:S.V.bq)(Z:List S.Sh)(s:S.Sh):eH d (Z++[s])=qg (eH d Z) s:=by simp [eH,List.foldl_append]
theorem lz{d:S.V.bq}:∀ (n:Nat) (Z:List S.Sh),Z.length=n→(eH d Z).size=d.size∧(eH d Z).eO=d.eO∧(eH d Z).dead=d.dead∧(eH d Z).aV.length=d.aV.length+8*Z.length∧(eH d Z).eD=d.eD
 | 0,Z,hl=>by
  have:Z=[]:=List.length_eq_zero_iff.1 hl;subst this;exact ⟨rfl,rfl,rfl,rfl,rfl⟩
 | n+1,Z,hl=>by
  have dE:Z≠[]:=fun e=>by rw [e] at hl;cases hl
  have e:=iq dE;have h1:Z.dropLast.length=n:=by rw [List.length_dropLast];omega
  obtain ⟨a1,a2,a3,a4,a5⟩:=lz (d:=d) n Z.dropLast h1;rw [← e,qf];refine ⟨a1,a2,a3,?_,a5⟩;show ((eH d Z.dropLast).aV++S.V.chunks _ _ 8).length=_
  rw [ae,S.V.xW,a4,ae,aP];omega
def Qo(sz:Int)(s:S.Sh):Prop:=S.sm s∧s.sE<18446744073709551616∧(s.id+1)*8≤sz
theorem CV{d:S.V.bq}(hs:∀ x ∈ d.aV,x.kG.size=512):∀ (n:Nat) (Z:List S.Sh),Z.length=n→(∀ s ∈ Z,Qo d.size s)→(Z.map (·.id)).Nodup →
  (∀ x ∈ (eH d Z).aV,x.kG.size=512)∧(∀ id,(∀ s ∈ Z,s.id≠id)→cM (eH d Z) id=cM d id)∧∀ s ∈ Z,∀ p,gB s p→cM (eH d Z) s.id=some p
 | 0,Z,hl,_,_=>by
  have:Z=[]:=List.length_eq_zero_iff.1 hl;subst this;exact ⟨hs,fun _ _=>rfl,fun s h=>by simp at h⟩
 | n+1,Z,hl,hc,hn=>by
  have dE:Z≠[]:=fun e=>by rw [e] at hl;cases hl
  have e:=iq dE;have h1:Z.dropLast.length=n:=by rw [List.length_dropLast];omega
  obtain ⟨s,qq⟩ : ∃ s,s=Z.getLast dE:=⟨_,rfl⟩;rw [← qq] at e;have fH:Qo d.size s:=hc s (by rw [← e];simp)
  rw [← e,bt,List.nodup_append] at hn;obtain ⟨g1,g2,g3⟩:=CV hs n Z.dropLast h1 (fun x hx=>hc x (List.dropLast_subset Z hx)) hn.1
  obtain ⟨a1,a2,a3,a4,a5⟩:=lz (d:=d) n Z.dropLast h1;have b7:(qg (eH d Z.dropLast) s).size=d.size:=a1;have SO:=fun i=>NP (d:=eH d Z.dropLast) fH.1 g1 i
  have Y1:∀ id,id≠s.id→cM (qg (eH d Z.dropLast) s) id=cM (eH d Z.dropLast) id:=fun id hid=>zT rfl (by rw [SO,if_neg hid])
  rw [← e,qf];refine ⟨CW fH.1 g1,fun id hid=>?_,fun x hx p hp=>?_⟩
  ·rw [Y1 id (fun e=>hid s (by simp) e.symm)]
   exact g2 id fun x hx=>hid x (by simp [hx])
  ·rcases List.mem_append.1 hx with hx | hx
   ·have Bq:x.id≠s.id:=hn.2.2 _ (jK hx) _ (by simp)
    rw [Y1 _ Bq];exact g3 x hx p hp
   ·have hxs:x=s:=by simpa using hx
    subst hxs;refine Sd ⟨fH.1,fH.2.1,rfl,by rw [b7];exact fH.2.2,?_⟩ hp
    rw [SO,if_pos rfl]
theorem NC{tx id:Nat}{p:PD}(hp:Vx p):gB (jT tx (id,p)) p:=by
 cases p with
 | leaf l =>
  have h:=Th (l:=l) hp;refine .inl ⟨rfl,?_,?_⟩
  ·show mD ((l.length:Int).toNat) (tk l).data.toList
   rw [bm];simpa [tk] using h.1
  ·show PD.leaf l = .leaf (BG ((l.length:Int).toNat) (tk l).data.toList)
   rw [bm];have:BG l.length (tk l).data.toList=l:=by simpa [tk] using h.2
   rw [this]
 | br f lk =>
  have h:=B.PX (f:=f) (l:=lk) hp;refine .inr ⟨rfl,?_,?_⟩
  ·show B.uZ (((lk.length:Int)+1).toNat) (B.pF f lk).data.toList
   rw [show ((lk.length:Int)+1).toNat=lk.length+1 by omega]
   simpa [B.pF] using h.1
  ·show PD.br f lk = .br (B.Fp (bX (B.pF f lk).data.toList ((lk.length:Int)+1).toNat)) (B.BL (bX (B.pF f lk).data.toList ((lk.length:Int)+1).toNat))
   rw [show ((lk.length:Int)+1).toNat=lk.length+1 by omega]
   have h2:B.Fp (bX (B.pF f lk).data.toList (lk.length+1))=f:=by simpa [B.pF] using h.2.1
   have h3:B.BL (bX (B.pF f lk).data.toList (lk.length+1))=lk:=by simpa [B.pF] using h.2.2
   rw [h2,h3]
theorem DL{α β γ:Type}(g:α→Nat→β × List γ):∀ (cs:List α) (k:Nat) (x:γ),x ∈ (bY g cs k).2→∃ (i:Nat) (c:α) (ki:Nat),cs[i]?=some c∧x ∈ (g c ki).2∧(bY g cs k).1[i]?=some (g c ki).1
 | [],_,x,h=>by simp [bY] at h
 | c::cs,k,x,h=>by
  rcases List.mem_append.1 h with h | h
  ·exact ⟨0,c,k,rfl,h,rfl⟩
  ·obtain ⟨i,c',ki,h1,h2,h3⟩:=DL g cs _ x h;exact ⟨i+1,c',ki,h1,h2,h3⟩
theorem I0{PG:Int→Option PD}{w:World}{P:Nat→Nat}(hP:∀ j,2≤P j∧P j<1048576):∀ (h:Nat) {p:C.Ch} {t:Nd h} (k:Nat),eh PG w h p t→QE h t→(dB h (aW P h t k).1).Nodup→∀ x ∈ (aW P h t k).2,Vx x.2
 | 0,p,t,k,hk,ho,hn,x,hx=>by
  by_cases h0:t.1=0
  ·have e1:aW P 0 t k=((P k,t.2),[(P k,.leaf t.2)]):=if_pos h0;rw [e1] at hx;have hx:x=(P k,.leaf t.2):=by simpa using hx
   subst hx;exact Dg ho
  ·have e1:aW P 0 t k=(t,[]):=if_neg h0;rw [e1] at hx;simp at hx
 | h+1,p,t,k,hk,ho,hn,x,hx=>by
  by_cases h0:t.1=0
  ·obtain ⟨R,hR⟩ : ∃ R,R=bY (aW P h) t.2.2 k:=⟨_,rfl⟩;have e1:aW P (h+1) t k=((P (k+R.2.length),t.2.1,R.1),R.2++[(P (k+R.2.length),.br (lN R.1) (qj t.2.1 R.1))]):=by rw [hR];exact if_pos h0
   rw [e1] at hx hn;have Zh:(R.1.flatMap (dB h)).Nodup:=by
    have h9:(cY (P (k+R.2.length))++R.1.flatMap (dB h)).Nodup:=hn;exact h9.sublist (dz _ _)
   cases p with
   | pg id =>
    have hk:gA PG (h+1) id t:=hk;exact absurd h0 (by have:=hk.1;have:=hk.2.1;omega)
   | nd b =>
    obtain ⟨_,n,xv,lv,cv,xB,jo⟩:=hk;have MD:n.us.length=t.2.2.length:=jo.1;rcases List.mem_append.1 hx with hx | hx
    ·rw [hR] at hx;obtain ⟨i,c,ki,h1,h2,h3⟩:=DL (aW P h) t.2.2 k x hx;rw [← hR] at h3;obtain ⟨q,hq⟩ : ∃ q,n.us[i]?=some q:=⟨_,af (by have:=(List.getElem?_eq_some_iff.1 h1).1;omega)⟩
     exact I0 hP h ki (jo.qL hq h1) (vi ho h1) (wW Zh h3) x h2
    ·have hx:x=(P (k+R.2.length),.br (lN R.1) (qj t.2.1 R.1)):=by simpa using hx
     subst hx;obtain ⟨⟨pz,mh,cN⟩,b7,kn⟩:=ho;have O9:=(fu h t pz mh).1 cN;have SR:gR (kO h) pz mh t.2.1 R.1:=by
      rw [hR];exact vr (fun t k lo hi hf=>⟨ql h t k lo hi hf.1,by unfold Full;rw [Bh];exact hf.2⟩) t.2.2 t.2.1 k pz mh O9
     refine Qq SR b7 kn (fun c' ub=>?_) Zh
     obtain ⟨i,hi,hv⟩:=aQ ub;have Pl:i<t.2.2.length:=by rw [hR,ik] at hi;exact hi
     have Le:t.2.2[i]?=some t.2.2[i]:=af Pl;obtain ⟨ki,g1,_⟩:=rA (aW P h) t.2.2 k i _ Le;rw [← hR,af hi,hv] at g1;cases g1;obtain ⟨q,hq⟩ : ∃ q,n.us[i]?=some q:=⟨_,af (by omega)⟩
     exact Ac hP (jo.qL hq Le) ki
  ·have e1:aW P (h+1) t k=(t,[]):=if_neg h0;rw [e1] at hx;simp at hx
theorem PW{l:List Pr}(h:fR l≤4072):(tk l).size=4072:=by
 have h1:=rz (l.map fk) (by rw [qc];exact h)
 show (js (l.map fk)).toArray.size=4072
 simpa using h1
theorem LD{f:Int}{l:List B.Lk}(h:B.jM l≤4072):(B.pF f l).size=4072:=by
 have h1:=rz (B.dw f l) (by rw [B.n9];exact h)
 show (js (B.dw f l)).toArray.size=4072
 simpa using h1
theorem Io:∀ l:List B.Lk,l.length≤B.jM l
 | []=>by simp
 | p::l=>by
  have:=Io l;have e:B.jM (p::l)=B.yu p+B.jM l:=by simp [B.jM];omega
  have:1≤B.yu p:=by unfold B.yu;omega
  rw [List.length_cons];omega
theorem Vn{tx id:Nat}{p:PD}(hp:Vx p)(h1:2≤id)(h2:id<1048576):S.sm (jT tx (id,p)):=by
 cases p with
 | leaf l =>
  have hc:=rQ hp;have hl:=iw l;exact ⟨.inr rfl,⟨by show (0:Int)≤(l.length:Int);omega,by show (l.length:Int)≤65535;omega⟩,⟨by show (2:Int)≤(id:Int);omega,by show (id:Int)<1048576;omega⟩,PW hc.2.2.1⟩
 | br f lk =>
  have hc:=B.kN hp;have hl:=Io lk;exact ⟨.inl rfl,⟨by show (0:Int)≤(lk.length:Int)+1;omega,by show (lk.length:Int)+1≤65535;omega⟩,⟨by show (2:Int)≤(id:Int);omega,by show (id:Int)<1048576;omega⟩,LD hc.2.2.2.2.2.1⟩
theorem Iw{tx:Nat}(x:Nat × PD):(jT tx x).id=(x.1:Int)∧(jT tx x).sE=tx:=by
 obtain ⟨i,p⟩:=x;cases p <;> exact ⟨rfl,rfl⟩
theorem CD{d:S.V.bq}{r:ch}{w:World}{rv:Value}{T:Nat→Bool}{PP tx:Nat}(hr:ez (cM d) w rv r)(cN:eP r)(hk:Q.pU PP T)(hn:eE r≤(Q.gv T PP).length)(jo:(eB r).Nodup)(Ff:∀ i ∈ eB r,T i=true)(hs:∀ x ∈ d.aV,x.kG.size=512)(b7:d.size=8*(PP:Int))(Q7:tx<18446744073709551616):(∀ s ∈ (jr (fe (Q.fh T PP (eE r))) r).2.map (jT tx),Qo d.size s)∧(∀ x ∈ (eH d ((jr (fe (Q.fh T PP (eE r))) r).2.map (jT tx))).aV,x.kG.size=512)∧∀ w',ez (cM (nu (eH d ((jr (fe (Q.fh T PP (eE r))) r).2.map (jT tx))))) w' (kt (jr (fe (Q.fh T PP (eE r))) r).1) (jr (fe (Q.fh T PP (eE r))) r).1:=by
 obtain ⟨uR,Lj⟩:=qm hk hn jo Ff;have ML:=fun j=>mS (n:=eE r) hk j
 obtain ⟨L,hL⟩ : ∃ L,L=Q.fh T PP (eE r):=⟨_,rfl⟩;have hLt:∀ i ∈ L,i<PP∧T i=false:=fun i hi=>by rw [hL] at hi;exact Q.rr hi
 have Je:L.Nodup:=by rw [hL];exact xe _ _ _
 rw [← hL] at uR Lj ML ⊢;rcases hr with ⟨rfl,rfl⟩ | ⟨p,h,t,rfl,rfl,pQ⟩
 ·exact ⟨fun s hx=>by simp [jr] at hx,hs,fun w'=>.inl ⟨rfl,rfl⟩⟩
 ·have ZD:(aW (fe L) h t 0).2.map (·.1)=L:=by
   have:=Bi (P:=fe L) h t 0;rw [this,oX,show iX h t=L.length from Lj.symm,DT]
  have V2:∀ x ∈ (aW (fe L) h t 0).2,x.1 ∈ L:=fun x hx=>by rw [← ZD];exact jK hx
  have ZO:=I0 ML h 0 pQ (Df cN) uR;have GZ:∀ i ∈ L,2≤i:=fun i hi=>by
   obtain ⟨j,hj,rfl⟩:=aQ hi;have:=(ML j).1;unfold fe at this;rw [aJ,af hj] at this;exact this
  have PA:∀ s ∈ (aW (fe L) h t 0).2.map (jT tx),Qo d.size s:=fun s hx=>by
   obtain ⟨x,sd,rfl⟩:=List.mem_map.1 hx;have h1:=hLt _ (V2 x sd);have h2:=GZ _ (V2 x sd);have h3:=hk.hi;have h4:=Iw (tx:=tx) x;refine ⟨?_,by rw [h4.2];exact Q7,by rw [h4.1,b7];omega⟩
   obtain ⟨i,q⟩:=x;exact Vn (ZO _ sd) h2 (by have:i<PP:=h1.1;omega)
  have ac8:(((aW (fe L) h t 0).2.map (jT tx)).map (·.id)).Nodup:=by
   have e:((aW (fe L) h t 0).2.map (jT tx)).map (·.id)=L.map fun n:Nat=>(n:Int):=by
    have e2:L.map (fun n:Nat=>(n:Int))=((aW (fe L) h t 0).2.map (·.1)).map fun n:Nat=>(n:Int):=by rw [ZD]
    rw [e2,eF,eF];apply gI
    intro x _;exact (Iw x).1
   rw [e];exact List.Pairwise.map _ (fun a b Cb e=>Cb (by omega)) Je
  obtain ⟨g1,g2,g3⟩:=CV hs _ _ rfl PA ac8;refine ⟨PA,g1,fun w'=>.inr ⟨.pg (ft h (aW (fe L) h t 0).1:Int),h,(aW (fe L) h t 0).1,rfl,rfl,?_⟩⟩
  show gA _ h _ _
  refine xl ML h 0 pQ ⟨none,none,cN.1⟩ (fun i hi=>?_) fun x hx=>?_
  ·show cM (nu (eH d ((aW (fe L) h t 0).2.map (jT tx)))) _=_
   rw [Ip g1];refine g2 _ fun s hx e=>?_
   obtain ⟨x,sd,rfl⟩:=List.mem_map.1 hx;rw [(Iw x).1] at e;have h1:=(hLt _ (V2 x sd)).2;have h2:=Ff i hi;have e':x.1=i:=by omega
   rw [e',h2] at h1;cases h1
  ·show cM (nu (eH d ((aW (fe L) h t 0).2.map (jT tx)))) _=_
   rw [Ip g1,← (Iw (tx:=tx) x).1];refine g3 _ (jK hx) x.2 ?_
   obtain ⟨i,q⟩:=x;exact NC (ZO _ hx)
attribute [local go_sem ↓] Go.wp_at_zero Go.wp_at_succ
theorem s8(w W:World)(a b c e:Value)(TA TB TC TE:TypeId)(hW:(((w.alloc (.cells #[a] TA)).alloc (.cells #[b] TB)).alloc (.cells #[c] TC)).alloc (.cells #[e] TE)=W):Below w.heap.size w W∧W.heap.size=w.heap.size+1+1+1+1∧B.au W w.heap.size #[a] TA∧B.au W (w.heap.size+1) #[b] TB∧B.au W (w.heap.size+1+1) #[c] TC∧B.au W (w.heap.size+1+1+1) #[e] TE:=by
 obtain ⟨W1,h1⟩ : ∃ W1,W1=w.alloc (.cells #[a] TA):=⟨_,rfl⟩;obtain ⟨W2,h2⟩ : ∃ W2,W2=W1.alloc (.cells #[b] TB):=⟨_,rfl⟩;obtain ⟨W3,h3⟩ : ∃ W3,W3=W2.alloc (.cells #[c] TC):=⟨_,rfl⟩;rw [← h1,← h2,← h3] at hW;have s1:W1.heap.size=w.heap.size+1:=by rw [h1];simp
 have s2:W2.heap.size=w.heap.size+1+1:=by rw [h2,← s1];simp
 have s3:W3.heap.size=w.heap.size+1+1+1:=by rw [h3,← s2];simp
 have b1:Below w.heap.size w W1:=h1▸ai w _;have b2:Below W1.heap.size W1 W2:=h2▸ai W1 _;have b3:Below W2.heap.size W2 W3:=h3▸ai W2 _;have b4:Below W3.heap.size W3 W:=hW▸ai W3 _;have r1:B.au W1 w.heap.size #[a] TA:=h1▸B.au.new w _ _;have r2:B.au W2 W1.heap.size #[b] TB:=h2▸B.au.new W1 _ _;have r3:B.au W3 W2.heap.size #[c] TC:=h3▸B.au.new W2 _ _;have r4:B.au W W3.heap.size #[e] TE:=hW▸B.au.new W3 _ _;rw [s1] at r2;rw [s2] at r3;rw [s3] at r4;exact ⟨Below.next (Below.next (Below.next b1 b2) b3) b4,by rw [← hW,← s3];simp,((r1.below b2).below b3).below b4,(r2.below b3).below b4,r3.below b4,r4⟩
theorem Lu(w W:World)(a b c e:Value)(TA TB TC TE:TypeId)(hW:((((w.alloc (.cells #[a] TA)).alloc (.cells #[b] TB)).alloc (.map #[] 0)).alloc (.cells #[c] TC)).alloc (.cells #[e] TE)=W):Below w.heap.size w W∧W.heap.size=w.heap.size+1+1+1+1+1∧B.au W w.heap.size #[a] TA∧B.au W (w.heap.size+1) #[b] TB∧W.heap[w.heap.size+1+1]?=some (.map #[] 0)∧B.au W (w.heap.size+1+1+1) #[c] TC∧B.au W (w.heap.size+1+1+1+1) #[e] TE:=by
 obtain ⟨W1,h1⟩ : ∃ W1,W1=w.alloc (.cells #[a] TA):=⟨_,rfl⟩;obtain ⟨W2,h2⟩ : ∃ W2,W2=W1.alloc (.cells #[b] TB):=⟨_,rfl⟩;obtain ⟨W3,h3⟩ : ∃ W3,W3=W2.alloc (.map #[] 0):=⟨_,rfl⟩;obtain ⟨W4,h4⟩ : ∃ W4,W4=W3.alloc (.cells #[c] TC):=⟨_,rfl⟩;rw [← h1,← h2,← h3,← h4] at hW;have s1:W1.heap.size=w.heap.size+1:=by rw [h1];simp
 have s2:W2.heap.size=w.heap.size+1+1:=by rw [h2,← s1];simp
 have s3:W3.heap.size=w.heap.size+1+1+1:=by rw [h3,← s2];simp
 have s4:W4.heap.size=w.heap.size+1+1+1+1:=by rw [h4,← s3];simp
 have b1:Below w.heap.size w W1:=h1▸ai w _;have b2:Below W1.heap.size W1 W2:=h2▸ai W1 _;have b3:Below W2.heap.size W2 W3:=h3▸ai W2 _;have b4:Below W3.heap.size W3 W4:=h4▸ai W3 _;have b5:Below W4.heap.size W4 W:=hW▸ai W4 _;have r1:B.au W1 w.heap.size #[a] TA:=h1▸B.au.new w _ _;have r2:B.au W2 W1.heap.size #[b] TB:=h2▸B.au.new W1 _ _;have r3:W3.heap[W2.heap.size]?=some (.map #[] 0):=h3▸heap_alloc_new W2 _;have r4:B.au W4 W3.heap.size #[c] TC:=h4▸B.au.new W3 _ _;have r5:B.au W W4.heap.size #[e] TE:=hW▸B.au.new W4 _ _;have e3:W.heap[W2.heap.size]?=some (.map #[] 0):=(b5.block _ (by omega)).trans ((b4.block _ (by omega)).trans r3)
 rw [s1] at r2;rw [s2] at e3;rw [s3] at r4;rw [s4] at r5;exact ⟨Below.next (Below.next (Below.next (Below.next b1 b2) b3) b4) b5,by rw [← hW,← s4];simp,(((r1.below b2).below b3).below b4).below b5,((r2.below b3).below b4).below b5,e3,r4.below b5,r5⟩
theorem yk.lower{w:World}{lo pz:Nat}{v:Value}{l:List Pr}(h:yk w lo v l)(hl:pz≤lo):yk w pz v l:=by
 refine ⟨⟨h.1.1,?_⟩,h.2⟩;rcases h.1.2 with h' | ⟨g,cap,cur,h',h1,h2⟩
 ·exact .inl h'
 ·exact .inr ⟨g,cap,cur,h',ar hl h1,h2⟩
theorem Met.made{w:World}{b:Nat}(h:w.heap[b]?=some (.map #[] 0)):Met w b []:=by
 obtain ⟨es,clock,h1,h2⟩:=World.ownsMap_made w prog 3 (unitElem (H:=Unit));have h3:(w.alloc (.map #[] 0)).heap[w.heap.size]?=some (.map #[] 0):=heap_alloc_new w _;rw [h3] at h1;cases h1;exact ⟨fun i hi=>by simp at hi,⟨#[],0,h,h2⟩⟩
section
variable {base:Nat} {A:Nat→Addr} {db:Nat} {F:Nat→Prop} {d:S.V.bq} {w0:World} {tb:Nat} {x:Bx} {fr en:ByteArray} {lim lo:Nat} {W0:World} {r:ch}
theorem xO{rv:Value}(iF:Dv base A db F d w0)(GG:B.au w0 tb #[.pointer (some ⟨db,0,none⟩),rv] 100)(UA:lim≤9223372036854775807):∀ h,JB base A db F d w0 tb x fr en lim lo h
 | 0=>fun p t dp w v acc M hk nx hg Pu dW _ lK mT=>Ei iF GG p t dp w v acc M hk nx hg (by omega) UA dW lK mT
 | h+1=>ze (xO iF GG UA h) iF GG
theorem wM{w:World}(hc:Ts base A db F d W0 w tb r)(hn:(aB r).length*32≤140737488355328)(jo:(eB r).Nodup)(Fg:(eB r).length<1099511627776)(UA:lim≤9223372036854775807):Calls prog 59 #[.pointer (some ⟨tb,0,none⟩),.string fr,.string en,.int .i64 (lim:Int)] w fun e w'=>(∃ v,e = .returned (.tuple #[v,.nilIface])∧yk w' w.heap.size v (((aB r).filter (je fr en)).take lim))∧Dv base A db F d w'∧Mv db F w w':=by
 have B5:=@run_makeMap prog;obtain ⟨rv,ht,hr⟩:=hc.tr;have c1:=ht.c1;have nF:¬ (lim:Int)<0:=by omega
 rcases hr with ⟨rfl,rfl⟩ | ⟨p,h,t,rfl,rfl,hk⟩
 ·obtain ⟨W4,Rp⟩ : ∃ W4,(((w.alloc (.cells #[.pointer (some ⟨tb,0,none⟩)] 38)).alloc (.cells #[.string fr] 9)).alloc (.cells #[.string en] 9)).alloc (.cells #[.int .i64 (lim:Int)] 3)=W4:=⟨_,rfl⟩;obtain ⟨gj,s4,r0,r1,r2,r3⟩:=s8 w W4 _ _ _ _ _ _ _ _ Rp;obtain ⟨H,hH⟩ : ∃ H,H=w.heap.size:=⟨_,rfl⟩;rw [← hH] at s4 r0 r1 r2 r3;have q0:=r0.cell 0 (by simp)
  have q3:=r3.cell 0 (by simp)
  have q4:W4.cell? ⟨tb,1,none⟩=some .nilIface:=(gj.cell (p:=⟨tb,1,none⟩) (World.block_lt_of_cell? w _ c1)).trans c1;have iU:=ab gj;have HC:=ab hc;have hHs:=hH.symm;clear hc ht c1 r0 r1 r2 r3 gj hH;go_enter func59,ntmps59;go_wp2;go_ret2;exact ⟨⟨_,rfl,by show yk _ _ _ (List.take lim []);rw [List.take_nil];exact yk.nil _ _⟩,HC.out.dv.below iU.out,Mv.of iU.out⟩
 ·have cN:eP (some ⟨h,t⟩):=hc.ok;have iH:(flat h t).length*32≤140737488355328:=hn;have An:(dB h t).Nodup:=jo;have Q9:(dB h t).length<1099511627776:=Fg;obtain ⟨H,hH⟩ : ∃ H,H=w.heap.size:=⟨_,rfl⟩;obtain ⟨W4,Rp⟩ : ∃ W4,(((w.alloc (.cells #[.pointer (some ⟨tb,0,none⟩)] 38)).alloc (.cells #[.string fr] 9)).alloc (.cells #[.string en] 9)).alloc (.cells #[.int .i64 (lim:Int)] 3)=W4:=⟨_,rfl⟩;obtain ⟨gj,s4,r0,r1,r2,r3⟩:=s8 w W4 _ _ _ _ _ _ _ _ Rp;rw [← hH] at s4 r0 r1 r2 r3;obtain ⟨W9,Z6⟩ : ∃ W9,((((W4.alloc (.cells #[.slice none 0 0] 63)).alloc (.cells #[.nilIface] 32)).alloc (.map #[] 0)).alloc (.cells #[.map (some (H+1+1+1+1+1+1))] 166)).alloc (.cells #[.nilFunc] 167)=W9:=⟨_,rfl⟩;obtain ⟨Jb,s9,r4,r5,r6,r7,r8⟩:=Lu W4 W9 _ _ _ _ _ _ _ _ Z6;rw [s4] at s9 r4 r5 r6 r7 r8;have q0:=r0.cell 0 (by simp)
  have q3:=r3.cell 0 (by simp)
  obtain ⟨vt,vx,iS⟩:=bM p;have q4:W4.cell? ⟨tb,1,none⟩=some (.iface vt vx):=(gj.cell (p:=⟨tb,1,none⟩) (World.block_lt_of_cell? w _ c1)).trans (by rw [← iS];exact c1)
  have q8:=r8.cell 0 (by simp)
  have f8:W9.frozen? ⟨H+1+1+1+1+1+1+1+1,0,none⟩=false:=by unfold B.au at r8;simp [World.frozen?,r8]
  obtain ⟨W,hW⟩ : ∃ W,W9.setCell ⟨H+1+1+1+1+1+1+1+1,0,none⟩ (.func (.func 90) #[] #[.pointer (some ⟨H+1+1+1+1+1+1+1,0,none⟩),.pointer (some ⟨H+1+1+1+1+1,0,none⟩),.pointer (some ⟨H,0,none⟩),.pointer (some ⟨H+1,0,none⟩),.pointer (some ⟨H+1+1,0,none⟩),.pointer (some ⟨H+1+1+1+1,0,none⟩),.pointer (some ⟨H+1+1+1,0,none⟩),.pointer (some ⟨H+1+1+1+1+1+1+1+1,0,none⟩)])=W:=⟨_,rfl⟩;have dC:=bJ.set (H+1+1+1+1+1+1+1+1) 0 W9 (.func (.func 90) #[] #[.pointer (some ⟨H+1+1+1+1+1+1+1,0,none⟩),.pointer (some ⟨H+1+1+1+1+1,0,none⟩),.pointer (some ⟨H,0,none⟩),.pointer (some ⟨H+1,0,none⟩),.pointer (some ⟨H+1+1,0,none⟩),.pointer (some ⟨H+1+1+1+1,0,none⟩),.pointer (some ⟨H+1+1+1,0,none⟩),.pointer (some ⟨H+1+1+1+1+1+1+1+1,0,none⟩)]);rw [hW] at dC;have hb:Below w.heap.size w W9:=Below.next gj Jb;have Ja:Below w.heap.size w W:=⟨dC.os.trans hb.os,dC.tape.trans hb.tape,dC.output.trans hb.output,ar hb.size dC.size,fun k hk=>(dC.block k (by have:=hb.size;omega) (by omega)).trans (hb.block k hk)⟩
  have bE:∀ {k:Nat} {cs:Array Value} {T:TypeId},k<H+1+1+1+1+1+1+1+1→B.au W9 k cs T→B.au W k cs T:=fun {k cs T} hk hr=>(dC.block k (by omega) (by omega)).trans hr
  have u0:=bE (by omega) (r0.below Jb)
  have u1:=bE (by omega) (r1.below Jb)
  have u2:=bE (by omega) (r2.below Jb)
  have u3:=bE (by omega) (r3.below Jb)
  have u4:=bE (by omega) r4
  have u5:=bE (by omega) r5
  have u6:W.heap[H+1+1+1+1+1+1]?=some (.map #[] 0):=(dC.block _ (by omega) (by omega)).trans r6
  have u7:=bE (by omega) r7
  have u8:B.au W (H+1+1+1+1+1+1+1+1) #[(.func (.func 90) #[] #[.pointer (some ⟨H+1+1+1+1+1+1+1,0,none⟩),.pointer (some ⟨H+1+1+1+1+1,0,none⟩),.pointer (some ⟨H,0,none⟩),.pointer (some ⟨H+1,0,none⟩),.pointer (some ⟨H+1+1,0,none⟩),.pointer (some ⟨H+1+1+1+1,0,none⟩),.pointer (some ⟨H+1+1+1,0,none⟩),.pointer (some ⟨H+1+1+1+1+1+1+1+1,0,none⟩)])] 167:=hW▸qX r8 _;have hGS:Gs base A db F d w tb ⟨H+1+1+1+1+1+1+1,H+1+1+1+1+1+1,H,H+1+1+1+1+1,H+1,H+1+1,H+1+1+1+1,H+1+1+1,H+1+1+1+1+1+1+1+1⟩ fr en lim (H+1+1+1+1+1+1+1+1+1) W (.slice none 0 0) [] []:=by
   have jw:db<w.heap.size:=by
    obtain ⟨d',_,mb,nb,FX,av,Dn,hb⟩:=hc.dv.dev;exact (Array.getElem?_eq_some_iff.1 hb.dr).1
   refine ⟨hc.dv.below Ja,Mv.of Ja,u7.cell 0 (by simp),u0.cell 0 (by simp),u5.cell 0 (by simp),u1.cell 0 (by simp),u2.cell 0 (by simp),u3.cell 0 (by simp),u8.cell 0 (by simp),u4,yk.nil _ _,aD _,Met.made u6,by simp,?_,?_,jw,?_⟩
   ·intro b hb;simp only [dK,dx,or_false] at hb;omega
   ·intro b hb;simp only [dK,dx,or_false] at hb;show b≠H+1+1+1+1
    omega
   ·have:=dC.size;omega
  have Bt:=kT cN (by omega)
  have WX:Hid (∀ W',Below W.heap.size W W'→Calls prog 90 #[p.val,.int .i64 ((1:Nat):Int),.pointer (some ⟨H+1+1+1+1+1+1+1,0,none⟩),.pointer (some ⟨H+1+1+1+1+1,0,none⟩),.pointer (some ⟨H,0,none⟩),.pointer (some ⟨H+1,0,none⟩),.pointer (some ⟨H+1+1,0,none⟩),.pointer (some ⟨H+1+1+1+1,0,none⟩),.pointer (some ⟨H+1+1+1,0,none⟩),.pointer (some ⟨H+1+1+1+1+1+1+1+1,0,none⟩)] W' (E6 base A db F d w tb ⟨H+1+1+1+1+1+1+1,H+1+1+1+1+1+1,H,H+1+1+1+1+1,H+1,H+1+1,H+1+1+1+1,H+1+1+1,H+1+1+1+1+1+1+1+1⟩ fr en lim (H+1+1+1+1+1+1+1+1+1) W' (.slice none 0 0) [] (dB h t) (fo fr en lim h t []))):=fun W' XA=>xO hc.dv ht UA h p t 1 W' _ [] [] hk (iL cN) (hGS.below XA) (by omega) (by simpa using iH) An (fun _ _ h=>by simp at h) (by simpa using Q9)
  have AM:Hid (∀ W',Mv db F w W'→W'.cell? ⟨tb,1,none⟩=some p.val):=fun W' hm=>(dU (hm.cC hc.dv) ht).c1
  rw [iS,show ((1:Nat):Int)=1 from rfl] at WX
  rw [iS] at AM;have m0:W.cell? ⟨H,0,none⟩=some (.pointer (some ⟨tb,0,none⟩)):=u0.cell 0 (by simp)
  have m8:W.cell? ⟨H+1+1+1+1+1+1+1+1,0,none⟩=some (.func (.func 90) #[] #[.pointer (some ⟨H+1+1+1+1+1+1+1,0,none⟩),.pointer (some ⟨H+1+1+1+1+1,0,none⟩),.pointer (some ⟨H,0,none⟩),.pointer (some ⟨H+1,0,none⟩),.pointer (some ⟨H+1+1,0,none⟩),.pointer (some ⟨H+1+1+1+1,0,none⟩),.pointer (some ⟨H+1+1+1,0,none⟩),.pointer (some ⟨H+1+1+1+1+1+1+1+1,0,none⟩)]):=u8.cell 0 (by simp)
  have m4:W.cell? ⟨tb,1,none⟩=some (.iface vt vx):=(Ja.cell (p:=⟨tb,1,none⟩) (World.block_lt_of_cell? w _ c1)).trans (by rw [← iS];exact c1)
  have pw:=ab cN;have hHs:=hH.symm;clear gj Jb hc ht hk c1 r0 r1 r2 r3 r4 r5 r6 r7 r8 u0 u1 u2 u3 u4 u5 u6 u7 u8 bE dC hb Ja hGS Bt cN An Q9 iH hn jo Fg iS hH;go_enter func59,ntmps59;go_wp2_with fail;go_region_held3 (fun w'=>w'.cell? ⟨H,0,none⟩=some (.pointer (some ⟨tb,0,none⟩))∧w'.cell? ⟨H+1+1+1+1+1+1+1+1,0,none⟩=some (.func (.func 90) #[] #[.pointer (some ⟨H+1+1+1+1+1+1+1,0,none⟩),.pointer (some ⟨H+1+1+1+1+1,0,none⟩),.pointer (some ⟨H,0,none⟩),.pointer (some ⟨H+1,0,none⟩),.pointer (some ⟨H+1+1,0,none⟩),.pointer (some ⟨H+1+1+1+1,0,none⟩),.pointer (some ⟨H+1+1+1,0,none⟩),.pointer (some ⟨H+1+1+1+1+1+1+1+1,0,none⟩)])∧w'.cell? ⟨tb,1,none⟩=some (.iface vt vx)) (go_keep)
   (first
    | (go_at_call 90;refine (WX.out _ (by first | exact Below.refl _ _ | exact B.aO (Below.refl _ _))).mono ?_;rintro e w2 ⟨v',M',rfl,pE,Xw,-,-⟩;have QV:=ab pE;have n0:w2.cell? ⟨H,0,none⟩=some (.pointer (some ⟨tb,0,none⟩)):=pE.ct;have n8:w2.cell? ⟨H+1+1+1+1+1+1+1+1,0,none⟩=some (.func (.func 90) #[] #[.pointer (some ⟨H+1+1+1+1+1+1+1,0,none⟩),.pointer (some ⟨H+1+1+1+1+1,0,none⟩),.pointer (some ⟨H,0,none⟩),.pointer (some ⟨H+1,0,none⟩),.pointer (some ⟨H+1+1,0,none⟩),.pointer (some ⟨H+1+1+1+1,0,none⟩),.pointer (some ⟨H+1+1+1,0,none⟩),.pointer (some ⟨H+1+1+1+1+1+1+1+1,0,none⟩)]):=pE.cg;have n4:=AM.out _ pE.mv;have kf:w2.cell? ⟨H+1+1+1+1+1,0,none⟩=some .nilIface:=pE.cf;have kp:w2.cell? ⟨H+1+1+1+1,0,none⟩=some v':=pE.row.cell 0 (by simp);clear pE Xw))
  obtain ⟨va,vn,vc,kL⟩ : ∃ a n c,v' = .slice a n c:=by
   obtain ⟨a,c,h⟩:=QV.out.ps.1.form;exact ⟨a,_,c,h⟩
  subst kL;have mB:Hid (yk w2 w.heap.size (.slice va vn vc) (((flat h t).filter (je fr en)).take lim)∧Dv base A db F d w2∧Mv db F w w2):=by
   have h1:=QV.out.ps;rw [Lo pw.out.1] at h1;exact ⟨h1.lower (by omega),QV.out.dv,QV.out.mv⟩
  clear QV WX n0 n8 n4 m0 m8 m4 AM pw hW Z6 Rp q0 q3 q4 q8 f8;go_wp2;go_ret2;exact ⟨⟨_,rfl,mB.out.1⟩,mB.out.2⟩
theorem Kl{w:World}(hc:Ts base A db F d W0 w tb r)(k:Int)(hk:k<0):Calls prog 59 #[.pointer (some ⟨tb,0,none⟩),.string fr,.string en,.int .i64 k] w fun e w'=>e = .returned (.tuple #[.slice none 0 0,.iface 360 (.pointer (some (A 0)))])∧Below w.heap.size w w':=by
 obtain ⟨W4,Rp⟩ : ∃ W4,(((w.alloc (.cells #[.pointer (some ⟨tb,0,none⟩)] 38)).alloc (.cells #[.string fr] 9)).alloc (.cells #[.string en] 9)).alloc (.cells #[.int .i64 k] 3)=W4:=⟨_,rfl⟩;obtain ⟨gj,s4,r0,r1,r2,r3⟩:=s8 w W4 _ _ _ _ _ _ _ _ Rp;obtain ⟨H,hH⟩ : ∃ H,H=w.heap.size:=⟨_,rfl⟩;rw [← hH] at s4 r0 r1 r2 r3;have q3:W4.cell? ⟨H+1+1+1,0,none⟩=some (.int .i64 k):=r3.cell 0 (by simp)
 have iU:=ab gj;have e0:W4.cell? ⟨0,0,none⟩=some (.iface 360 (.pointer (some (A 0)))):=(hc.dv.below gj).g 0 (by decide)
 have hHs:=hH.symm;clear hc r0 r1 r2 r3 gj hH;go_enter func59,ntmps59;go_wp2_with fail;go_quiet (fail)
 go_wp2;go_ret2;exact ⟨rfl,aA iU.out _⟩
end
attribute [local go_sem ↓] Go.wp_at_zero Go.wp_at_succ
section
variable {base:Nat} {A:Nat→Addr} {db:Nat} {F:Nat→Prop} {d:S.V.bq} {w0:World} {tb:Nat} {x:Bv} {lo:Nat}
def QD(base:Nat)(A:Nat→Addr)(db:Nat)(F:Nat→Prop)(d:S.V.bq)(w0:World)(tb:Nat)(x:Bv)(lo:Nat)(h:Nat):Prop :=
 ∀ (p:C.Ch) (t:Nd h) (s:ByteArray) (w:World) (v:Value) (acc M:List Nat),eh (cM d) w0 h p t→jl ⟨h,t⟩→Vs base A db F d w0 tb x lo w v acc M→(dB h t).Nodup→(∀ i ∈ dB h t,i ∉ M)→M.length+(dB h t).length<1099511627776→acc.length+(dB h t).length<1099511627776 →
  Calls prog 103 #[p.val,.string s,.int .i64 ((h:Int)+1),.pointer (some ⟨x.m,0,none⟩),.pointer (some ⟨x.f,0,none⟩),.pointer (some ⟨x.e,0,none⟩),.pointer (some ⟨x.t,0,none⟩),.pointer (some ⟨x.v,0,none⟩)] w
   fun e w'=>e = .returned (.bool true)∧(∃ v',Vs base A db F d w0 tb x lo w' v' (acc++dB h t) (M++dB h t))∧cP w w'
theorem FE(iF:Dv base A db F d w0):QD base A db F d w0 tb x lo 0:=by
 intro p t s w v acc M hk nx hg jo lK mT Fm;have H8:=ab (hg.again iF hk lK mT);have WC:Hid (∀ W,Vs base A db F d w0 tb x lo W v acc (M++cY (ft 0 t))→Calls prog 66 #[p.val,.string s,.int .i64 1,.pointer (some ⟨x.p,0,none⟩)] W fun e w'=>e = .returned (.tuple #[])∧(∃ v',Vs base A db F d w0 tb x lo w' v' (acc++cY (ft 0 t)) (M++cY (ft 0 t)))∧cP W w'):=fun W hW=>Cx p (ft 0 t) (xo hk).1 s 1 hW iF (by omega)
 obtain ⟨pt,px,iS⟩:=bM p;rw [iS] at H8 WC ⊢;have k0:=hg.cm;clear hg hk nx iF iS jo lK mT Fm;rw [show ((0:Nat):Int)+1=1 from rfl]
 go_enter func103,ntmps103;go_wp2_with fail;refine H8.out.mono ?_
 rintro e wa ⟨rfl,yY,OW⟩;have k1:=yY.ce;have HTF:=ab (WC.out wa yY);have HA1:=ab OW;clear yY OW WC H8 k0;go_wp2_with fail;refine HTF.out.mono ?_
 rintro e wb ⟨rfl,hvb,Cb⟩;have HE:Hid ((∃ v',Vs base A db F d w0 tb x lo wb v' (acc++dB 0 t) (M++dB 0 t))∧cP w wb):=⟨hvb,HA1.out.trans Cb⟩;clear hvb Cb HTF;go_wp2;go_ret;exact ⟨rfl,HE.out⟩
def uN{h:Nat}(t:Nd (h+1))(k:Nat):List Nat:=cY t.1++(t.2.2.take k).flatMap (dB h)
theorem Kh{h:Nat}(t:Nd (h+1)):uN t 0=cY t.1:=by simp [uN]
theorem Ki{h:Nat}{t:Nd (h+1)}{k:Nat}{c:Nd h}(hc:t.2.2[k]?=some c):uN t (k+1)=uN t k++dB h c:=by
 unfold uN;rw [wK hc,ax]
theorem NS{h:Nat}{t:Nd (h+1)}{k:Nat}(hk:t.2.2.length≤k):uN t k=dB (h+1) t:=by
 unfold uN;rw [al hk];rfl
theorem C0{h:Nat}{t:Nd (h+1)}(k:Nat):(uN t k).Sublist (dB (h+1) t):=rh k
structure UT(base:Nat)(A:Nat→Addr)(db:Nat)(F:Nat→Prop)(d:S.V.bq)(w0:World)(tb:Nat)(x:Bv)(lo:Nat){h:Nat}(t:Nd (h+1))(w:World)(acc M:List Nat)(b:Nat)(n:SN)(pv lv cv:Value)(k:Nat)(wr:World):Prop where
 vs:∃ v,Vs base A db F d w0 tb x lo wr v (acc++uN t k) (M++uN t k)
 aw:cP w wr
 sn:dH wr b n pv lv cv
theorem UT.qL{h:Nat}{t:Nd (h+1)}{w:World}{acc M:List Nat}{b:Nat}{n:SN}{pv lv cv:Value}{k:Nat}{wr:World}{c:Nd h}{p:C.Ch}(IH:QD base A db F d w0 tb x lo h)(nx:jl ⟨h+1,t⟩)(hl:UT base A db F d w0 tb x lo t w acc M b n pv lv cv k wr)(hc:t.2.2[k]?=some c)(hk:eh (cM d) w0 h p c)(jo:(dB (h+1) t).Nodup)(lK:∀ i ∈ dB (h+1) t,i ∉ M)(mT:M.length+(dB (h+1) t).length<1099511627776)(Fm:acc.length+(dB (h+1) t).length<1099511627776)(s:ByteArray):Calls prog 103 #[p.val,.string s,.int .i64 ((h:Int)+1),.pointer (some ⟨x.m,0,none⟩),.pointer (some ⟨x.f,0,none⟩),.pointer (some ⟨x.e,0,none⟩),.pointer (some ⟨x.t,0,none⟩),.pointer (some ⟨x.v,0,none⟩)] wr fun e w'=>e = .returned (.bool true)∧UT base A db F d w0 tb x lo t w acc M b n pv lv cv (k+1) w':=by
 obtain ⟨v,hvs⟩:=hl.vs;obtain ⟨Aq,Pd⟩:=IG hc jo;have j6:=Ki hc;have oy:=(C0 (t:=t) (k+1)).length_le;rw [j6,ae] at oy;refine (IH p c s wr v _ _ hk (kX nx hc) hvs Aq (fun i hi hm=>?_) (by rw [ae];omega) (by rw [ae];omega)).mono ?_
 ·rcases List.mem_append.1 hm with h1 | h1
  ·exact lK i ((C0 (k+1)).subset (by rw [j6];simp [hi])) h1
  ·unfold uN at h1;rcases List.mem_append.1 h1 with h2 | h2
   ·exact (Pd i hi).1 h2
   ·exact (Pd i hi).2 h2
 ·rintro e w' ⟨rfl,⟨v',h1⟩,h2⟩;rw [ax,ax,← j6] at h1;exact ⟨rfl,⟨v',h1⟩,hl.aw.trans h2,hl.sn.cC h2⟩
theorem AU{rv:Value}{h:Nat}(hh:h≤1000)(IH:QD base A db F d w0 tb x lo h)(iF:Dv base A db F d w0)(GG:B.au w0 tb #[.pointer (some ⟨db,0,none⟩),rv] 100):QD base A db F d w0 tb x lo (h+1):=by
 intro p t s w v acc M hk nx hg jo lK mT Fm;have hlv:((h+1:Nat):Int)+1=(h:Int)+2:=by omega
 rw [hlv];have H8:=ab (hg.again iF hk lK mT);have WC:Hid (∀ W,Vs base A db F d w0 tb x lo W v acc (M++cY (ft (h+1) t))→Calls prog 66 #[p.val,.string s,.int .i64 ((h:Int)+2),.pointer (some ⟨x.p,0,none⟩)] W fun e w'=>e = .returned (.tuple #[])∧(∃ v',Vs base A db F d w0 tb x lo w' v' (acc++cY (ft (h+1) t)) (M++cY (ft (h+1) t)))∧cP W w'):=fun W hW=>Cx p (ft (h+1) t) (xo hk).1 s _ hW iF (by omega)
 have vG:Hid (∀ W v',Vs base A db F d w0 tb x lo W v' (acc++cY (ft (h+1) t)) (M++cY (ft (h+1) t))→Calls prog 104 #[.pointer (some ⟨tb,0,none⟩),p.val] W fun e w'=>lI (oP d w0) A ⟨h+1,t⟩ e w'∧Dv base A db F d w'∧Mv db F W w'):=fun W v' hW=>by
  have aw:=hW.mv.cC iF;exact oR (oP d w0) p ⟨h+1,t⟩ tb rv W ⟨⟨hk,nx⟩,.inl aw⟩ (dU aw GG) hW.dv
 have MR:Hid (∀ (k:Nat) (wr:World) (b:Nat) (n:SN) (pv lv cv:Value) (c:Nd h) (q:C.Ch) (s:ByteArray),UT base A db F d w0 tb x lo t w acc M b n pv lv cv k wr→t.2.2[k]?=some c→eh (cM d) w0 h q c→Calls prog 103 #[q.val,.string s,.int .i64 ((h:Int)+1),.pointer (some ⟨x.m,0,none⟩),.pointer (some ⟨x.f,0,none⟩),.pointer (some ⟨x.e,0,none⟩),.pointer (some ⟨x.t,0,none⟩),.pointer (some ⟨x.v,0,none⟩)] wr fun e w'=>e = .returned (.bool true)∧UT base A db F d w0 tb x lo t w acc M b n pv lv cv (k+1) w'):=fun k wr b n pv lv cv c q s hl hc Zw=>hl.qL IH nx hc Zw jo lK mT Fm s
 obtain ⟨pt,px,iS⟩:=bM p;rw [iS] at H8 WC vG ⊢;have k0:=hg.cm;have QJ:=ab iF;have WI:Hid (cY (ft (h+1) t)=uN t 0):=by show cY t.1=_;rw [Kh]
 have ah1:¬ (h:Int)+2=1:=by omega
 clear hg hk nx iF iS jo lK mT Fm hlv GG IH;go_enter func103,ntmps103;go_wp2_with fail;refine H8.out.mono ?_
 rintro e wa ⟨rfl,yY,OW⟩;have k1:=yY.ce;have HTF:=ab (WC.out wa yY);have HA1:=ab OW;clear yY OW WC H8 k0;go_wp2_with fail;refine HTF.out.mono ?_
 rintro e wb ⟨rfl,⟨vb,hvb⟩,Cb⟩;have HA2:=ab (HA1.out.trans Cb);have k2:=hvb.ct;have Cg:=ab (vG.out wb vb hvb);have HVB:=ab hvb;clear hvb Cb HTF vG k1;go_wp2_with fail;refine Cg.out.mono ?_
 rintro e w1 ⟨DW,fI,fK⟩;rcases DW with ⟨hE,_⟩ | ⟨b,n,pv,lv,cv,rfl,hs,hn⟩
 ·exact (hE:False).elim
 ·have SD:=HVB.out.go fK fI;have ZY:=HA2.out.trans (fK.cC HVB.out.dv);obtain ⟨SC,Wk⟩:=SD.nil QJ.out;have jm:=hs.cC Wk;have Aq:aT (cM d) w0 (h+1) n t:=hn.1.1;have MD:n.us.length=t.2.2.length:=Aq.1;have h0:¬ n.us.length=0:=fun e=>Aq.2.1 (List.length_eq_zero_iff.1 e)
  have gM:n.us.length=n.lk.length+1:=by
   rcases Aq.2.2.1 with h9 | h9
   ·exact absurd h9 h0
   ·exact h9
  have gY:=hs.fine;have zo:Hid (UT base A db F d w0 tb x lo t w acc M b n pv lv cv 0 (w1.setCell ⟨x.f,0,none⟩ .nilIface)):=⟨⟨_,by rw [← WI.out];exact SC⟩,ZY.trans Wk,jm⟩
  have MQ:Hid (∀ (k:Nat) (q:C.Ch) (c:Nd h),n.us[k]?=some q→t.2.2[k]?=some c→eh (cM d) w0 h q c):=fun k q c h1 h2=>Aq.qL h1 h2
  have kf:w1.cell? ⟨x.f,0,none⟩=some .nilIface:=SD.cf.cell 0 (by simp)
  have kz:w1.frozen? ⟨x.f,0,none⟩=false:=by have hr:=SD.cf;unfold B.au at hr;simp [World.frozen?,hr]
  obtain ⟨W,hW⟩ : ∃ W,w1.setCell ⟨x.f,0,none⟩ .nilIface=W:=⟨_,rfl⟩;rw [hW] at zo jm SC;have kf2:W.cell? ⟨x.f,0,none⟩=some .nilIface:=SC.cf.cell 0 (by simp)
  have p3:=jm.c3;obtain ⟨la,lc,pD⟩:=hs.a8.form;obtain ⟨ca,cc,sg⟩:=hs.kids.form;obtain ⟨N,hN⟩ : ∃ N,N=n.us.length:=⟨_,rfl⟩;obtain ⟨L,hL⟩ : ∃ L,L=n.lk.length:=⟨_,rfl⟩;rw [← hN] at sg;rw [← hL] at pD;subst pD sg;have HN:Hid (N=n.us.length∧N=t.2.2.length∧N=n.lk.length+1∧L=n.lk.length∧L≤4000):=⟨hN,by omega,by omega,hL,by have:=gY.2.2.2.1;omega⟩
  clear fI fK Cg hs hn h0 Aq MD gY gM k2 SD hN hL ZY Wk SC jm HVB;go_wp2_with fail;go_loopw [39,1] (fun i u wr=>∃ (k:Nat) (s':ByteArray),i = .int .i64 (k:Int)∧u = .string s'∧k≤N∧UT base A db F d w0 tb x lo t w acc M b n pv (.slice la L lc) (.slice ca N cc) k wr)
   (fun i _ _=>N - (intOf i).toNat)
  case atStart=>exact ⟨0,s,rfl,rfl,aD _,zo.out⟩
  case round =>
   obtain ⟨k,s',rfl,rfl,hkN,hl⟩:=hrel;obtain ⟨Jd,Jc,PI,hN4,hN5⟩:=HN.out;by_cases bN:k<N
   ·obtain ⟨u,hu⟩ : ∃ u,n.us[k]?=some u:=⟨_,af (by omega)⟩
    obtain ⟨c,hc⟩ : ∃ c,t.2.2[k]?=some c:=⟨_,af (by omega)⟩
    obtain ⟨g,o,rfl,Pz⟩:=hl.sn.br.qL hu;obtain ⟨ut,ux,GD⟩:=bM u;rw [GD] at Pz;have RE:Hid (∀ s,Calls prog 103 #[.iface ut ux,.string s,.int .i64 ((h:Int)+1),.pointer (some ⟨x.m,0,none⟩),.pointer (some ⟨x.f,0,none⟩),.pointer (some ⟨x.e,0,none⟩),.pointer (some ⟨x.t,0,none⟩),.pointer (some ⟨x.v,0,none⟩)] wr fun e w'=>e = .returned (.bool true)∧UT base A db F d w0 tb x lo t w acc M b n pv (.slice la L lc) (.slice (some ⟨g,o,none⟩) N cc) (k+1) w'):=fun s=>by
     rw [← GD];exact MR.out k wr b n _ _ _ c u s hl hc (MQ.out k u c hu hc)
    have kv:wr.cell? ⟨x.v,0,none⟩=some (.func (.func 103) #[] #[.pointer (some ⟨x.m,0,none⟩),.pointer (some ⟨x.f,0,none⟩),.pointer (some ⟨x.e,0,none⟩),.pointer (some ⟨x.t,0,none⟩),.pointer (some ⟨x.v,0,none⟩)]):=by
     obtain ⟨v',SG⟩:=hl.vs;exact SG.cv
    have p2:=hl.sn.c2;have Rk:(0:Int)≤(k:Int):=by omega
    have jv:(k:Int)<(N:Int):=by omega
    have Ul:IntKind.i64.wrap ((k:Int)+1)=(k:Int)+1:=by rw [IntKind.wrap_i64];omega
    have hwd:IntKind.i64.wrap ((h:Int)+2 - 1)=(h:Int)+1:=by rw [IntKind.wrap_i64];omega
    have TX:Hid (k+1≤N):=bN;cases k with
    | zero =>
     clear hl hu hc GD MR MQ bN hkN zo Jd Jc PI hN4 hN5 p2;rw [show o+0=o from rfl] at Pz
     rw [show ((0:Nat):Int)=0 from rfl] at *
     go_wp2_with fail;refine (RE.out _).mono ?_
     rintro e w4 ⟨rfl,Fi⟩;have WT:=ab Fi;clear Fi RE;go_wp2;go_roundw
     case rel=>exact ⟨1,s',by rfl,rfl,TX.out,WT.out⟩
     case measure=>simp [intOf];have:=TX.out;omega
    | succ j =>
     have hj:j<n.lk.length:=by omega
     obtain ⟨la',lc',he,_,_,B6⟩:=hl.sn.a8;obtain ⟨lg,lof,B7,UD,_⟩:=B6 j hj;cases he;subst B7;have K7:(0:Int)≤(j:Int):=by omega
     have hj1:(j:Int)<(n.lk.length:Int):=by omega
     have hj4:(j:Int)<4000:=by omega
     have qM:(0:Int)≤(j:Int)+1:=by omega
     have hk3:(j:Int)+1<(N:Int):=by omega
     have acx:IntKind.i64.wrap ((j:Int)+1+1)=(j:Int)+1+1:=by rw [IntKind.wrap_i64];omega
     obtain ⟨ks,ju⟩ : ∃ ks,ks=n.lk[j].1:=⟨_,rfl⟩;rw [← ju] at UD;clear hl hu hc GD MR MQ bN hkN zo Jd Jc PI hN4 hN5 B6 ju Rk jv Ul;go_wp2_with fail;refine (RE.out _).mono ?_
     rintro e w4 ⟨rfl,Fi⟩;have WT:=ab Fi;clear Fi RE;go_wp2;go_roundw
     case rel=>exact ⟨j+1+1,ks,by simp [Int.natCast_add],rfl,TX.out,WT.out⟩
     case measure=>simp [intOf];have:=TX.out;omega
   ·have:k=N:=by omega
    subst this;have HE:Hid ((∃ v',Vs base A db F d w0 tb x lo wr v' (acc++dB (h+1) t) (M++dB (h+1) t))∧cP w wr):=by
     have:=hl.vs;rw [NS (by omega)] at this
     exact ⟨this,hl.aw⟩
    clear hl MR MQ HN zo Jd Jc PI hN4 hN5;go_wp2;go_ret;exact ⟨rfl,HE.out⟩
end
end T
end Go.Proofs.YtihmgigfkmofnaaGreatDoor
