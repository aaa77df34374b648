import Derived.Test.YtihmgigfkmofnaaGreatDoorG29
import Derived.Deep.DrawnRows
set_option maxHeartbeats 4000000
set_option maxRecDepth 100000
open Go.Proofs.Tryz
namespace Go.Proofs.YtihmgigfkmofnaaGreatDoor
namespace T
open Go.RowKit
theorem rz{w:World}{b:Nat}{v:Value}{T:TypeId}(h:B.au w b #[v] T)(u:Value):B.au (w.setCell ⟨b,0,none⟩ u) b #[u] T:=by
 unfold B.au at h ⊢;rw [setCell_eq_setRow w b 0 #[v] T (0,0) u h];exact setRow_heap w b #[v] _ T (0,0) h
theorem yJ.same{w w':World}{lo:Nat}{v:Value}{acc:List Pr}(h:yJ w lo v acc)(hb:∀ g,v.ownBlock=some g→w'.heap[g]?=w.heap[g]?):yJ w' lo v acc:=by
 refine ⟨⟨h.1.1,?_⟩,fun g hg=>?_⟩
 ·rcases h.1.2 with h' | ⟨g,cap,cur,h',h1,h2,hr⟩
  ·exact .inl h'
  ·exact .inr ⟨g,cap,cur,h',h1,(hb g (by rw [h'];rfl)).trans h2,hr⟩
 ·obtain ⟨cur,h1,h2⟩:=h.2 g hg;exact ⟨cur,(hb g hg).trans h1,h2⟩
section
variable {base:Nat} {A:Nat→Addr} {db:Nat} {F:Nat→Prop} {d:S.V.bD} {w0:World} {tb:Nat} {x:Bx} {fr en:ByteArray} {lim lo:Nat}
theorem Gs.grow{w:World}{v s:Value}{acc us:List Pr}{M:List Nat}(h:Gs base A db F d w0 tb x fr en lim lo w v acc M)(il:Dv base A db F d w0)(hs:gZ w s us)(hb:(acc.length+us.length)*32≤140737488355328)(hl:acc.length+us.length≤lim):∃ a' c' w',(Builtin.append_ #[63,63] 63 #[v,s]).run prog w = .ok (.slice a' (acc.length+us.length) c') w'∧w'.frozen? ⟨x.p,0,none⟩=false∧w'.cell? ⟨x.p,0,none⟩=some v∧w'.cell? ⟨x.l,0,none⟩=some (.int .i64 (lim:Int))∧Gs base A db F d w0 tb x fr en lim lo (w'.setCell ⟨x.p,0,none⟩ (.slice a' (acc.length+us.length) c')) (.slice a' (acc.length+us.length) c') (acc++us) M∧wq db x.p x.mb w v (w'.setCell ⟨x.p,0,none⟩ (.slice a' (acc.length+us.length) c')) (.slice a' (acc.length+us.length) c'):=by
 obtain ⟨a',c',w',hr,nG,hg,aD⟩:=yJ.app lo v s acc us w h.ps hs hb h.lo;have OY:=h.ord x.p (by simp)
 have fy:∀ b,b<lo→some b≠v.ownBlock:=fun b hb e=>by
  have:=(h.ps.1.dy b e.symm).1;omega
 have bV:B.au w' x.p #[v] 63:=(hg.block x.p h.row.lt (fy _ OY.2)).trans h.row;have dB:=bK.set x.p 0 w' (.slice a' (acc.length+us.length) c');have pN:w.heap.size≤w'.heap.size:=hg.size;have Pf:wq db x.p x.mb w v (w'.setCell ⟨x.p,0,none⟩ (.slice a' (acc.length+us.length) c')) (.slice a' (acc.length+us.length) c'):=⟨aq pN dB.size,fun k hk _ h2 _ h3=>(dB.block k (al hk pN) h2).trans (hg.block k hk (fun e=>h3 e.symm)),aD⟩
 have tG:=h.lo;have mD:Below w0.heap.size w (w'.setCell ⟨x.p,0,none⟩ (.slice a' (acc.length+us.length) c')):=⟨dB.os.trans hg.os,dB.tape.trans hg.tape,dB.output.trans hg.output,aq pN dB.size,fun k hk=>(dB.block k (by omega) (by omega)).trans (hg.block k (by omega) (fy k (by omega)))⟩
 obtain ⟨BS,Ej⟩:=h.dv.grown mD h.mv il;have hlx:=h.ord x.l (by simp)
 refine ⟨a',c',w',hr,by unfold B.au at bV;simp [World.frozen?,bV],bV.cell 0 (by simp),b9 (hg.block x.l (World.block_lt_of_cell? w _ h.cl) (fy _ hlx.2)) h.cl,h.keep BS Ej Pf (rz bV _) (nG.same fun g G0=>?_) (by rw [ae];exact hl) (h.met.same ((dB.block x.mb (al h.met.lt pN) (h.met.ne (h.row.cell 0 (by simp))).symm).trans (hg.block x.mb h.met.lt (fy _ (h.ord x.mb (by simp)).2)))) h.DH,Pf⟩
 have:=nG.1.dy g G0;exact dB.block g this.2 (by omega)
theorem Gs.meet{w w':World}{v:Value}{acc:List Pr}{M M':List Nat}(h:Gs base A db F d w0 tb x fr en lim lo w v acc M)(il:Dv base A db F d w0)(hm:Met w' x.mb M')(mS:M'.length<1099511627776)(hg:w.grownBy w' (some x.mb)):Gs base A db F d w0 tb x fr en lim lo w' v acc M'∧wq db x.p x.mb w v w' v:=by
 have hom:=h.ord x.mb (by simp)
 have tG:=h.lo;have pN:w.heap.size≤w'.heap.size:=hg.size;have ey:∀ k,k≠x.mb→some k≠some x.mb:=fun k hk e=>hk (Option.some.inj e)
 have Pf:wq db x.p x.mb w v w' v:=⟨pN,fun k hk _ _ h3 _=>hg.block k hk (ey k h3),fun _ h=>.inl h⟩
 have mD:Below w0.heap.size w w':=⟨hg.os,hg.tape,hg.output,pN,fun k hk=>hg.block k (by omega) (ey k (by omega))⟩
 obtain ⟨BS,Ej⟩:=h.dv.grown mD h.mv il;refine ⟨h.keep BS Ej Pf ((hg.block x.p h.row.lt (ey _ (h.met.ne (h.row.cell 0 (by simp))))).trans h.row) (h.ps.same fun g G0=>?_) h.len hm mS,Pf⟩
 have:=h.ps.1.dy g G0;exact hg.block g this.2 (ey _ (by omega))
end
def L0(ks:List ByteArray):Nat→Option ByteArray
 | 0=>none
 | j+1=>ks[j]?
theorem Aq:∀ (l:List ByteArray) (lo:Option ByteArray) (k:ByteArray),iV lo (l++[k])=some k
 | [],_,_=>rfl
 | _::l,_,k=>Aq l _ k
theorem Od(ks:List ByteArray)(q:Nat)(hq:q≤ks.length):iV none (ks.take q)=L0 ks q:=by
 cases q with
 | zero=>simp [iV,L0]
 | succ j =>
  have hj:j<ks.length:=by omega
  rw [gq,af hj];show iV none (ks.take j++[ks[j]])=ks[j]?
  rw [Aq,af hj]
theorem Ti(lk:List B.Lk)(i:Nat)(en:ByteArray)(hi:i≤lk.length):AD lk i en=yC en (L0 (lk.map (·.1)) i):=by
 cases i with
 | zero=>rfl
 | succ j =>
  have hj:j<lk.length:=by omega
  show (if en=⟨#[]⟩ then false else match lk[j]? with | some p=>!df p.1 en | none=>false)=yC en ((lk.map (·.1))[j]?)
  rw [aL,af hj];simp only [jU,yC];by_cases h:en=⟨#[]⟩
  ·simp [h]
  ·simp [h]
theorem K8{α:Type}(g:α→List Pr→List Pr × Bool)(en:ByteArray)(ks:List ByteArray)(cs:List α)(i:Nat)(acc:List Pr)(hi:cs.length≤i):lh g en (L0 ks i) (ks.drop i) (cs.drop i) acc=(acc,true):=by
 rw [fq hi];rfl
theorem G8{α:Type}(g:α→List Pr→List Pr × Bool)(en:ByteArray)(ks:List ByteArray)(cs:List α)(i:Nat)(acc:List Pr)(c:α)(hc:cs[i]?=some c):lh g en (L0 ks i) (ks.drop i) (cs.drop i) acc=if yC en (L0 ks i)=true then (acc,false) else if (g c acc).2=true then lh g en (L0 ks (i+1)) (ks.drop (i+1)) (cs.drop (i+1)) (g c acc).1 else ((g c acc).1,false):=by
 obtain ⟨hi,hv⟩:=List.getElem?_eq_some_iff.1 hc;rw [bf hi,hv];show (if yC en (L0 ks i)=true then (acc,false) else if (g c acc).2=true then lh g en (ks.drop i).head? (ks.drop i).tail (cs.drop (i+1)) (g c acc).1 else ((g c acc).1,false))=_
 rw [List.head?_drop,List.tail_drop];rfl
theorem NO{lk:List B.Lk}{key:ByteArray}{q:Nat}(hp:B.gU lk key q)(hs:(lk.map (·.1)).Pairwise fun a b=>df a b=true):(lk.map (·.1)).findIdx (fun k=>df key k)=q:=by
 obtain ⟨h1,h2⟩:=qq hp hs;have hq:q≤(lk.map (·.1)).length:=by rw [az];exact hp.1
 rw [← aE q (lk.map (·.1)),List.findIdx_append];have e1:((lk.map (·.1)).take q).findIdx (fun k=>df key k)=((lk.map (·.1)).take q).length:=List.findIdx_eq_length.2 fun k hk=>h1 k hk
 rw [if_neg (by rw [e1];exact Nat.lt_irrefl _),ag,a8 hq]
 cases hd:(lk.map (·.1)).drop q with
 | nil=>simp
 | cons k r =>
  have:=h2 k (by rw [hd];rfl)
  rw [kQ,this];simp
theorem K7{fr en:ByteArray}{lim h q:Nat}{t:Nd (h+1)}{lk:List B.Lk}(acc:List Pr)(hk:t.2.1=lk.map (·.1))(hp:B.gU lk fr q)(hs:t.2.1.Pairwise fun a b=>df a b=true):ft fr en lim (h+1) t acc=lh (ft fr en lim h) en (L0 t.2.1 q) (t.2.1.drop q) (t.2.2.drop q) acc:=by
 show lh _ en (iV none (t.2.1.take (t.2.1.findIdx fun k=>df fr k))) _ _ acc=_
 have e:(t.2.1.findIdx fun k=>df fr k)=q:=by rw [hk];exact NO hp (by rw [← hk];exact hs)
 rw [e,Od _ _ (by rw [hk,az];exact hp.1)]
theorem xg{h:Nat}{cs:List (Nd h)}{i:Nat}{c:Nd h}(hc:cs[i]?=some c):(cs.take (i+1)).flatMap (cD h)=(cs.take i).flatMap (cD h)++cD h c:=by
 rw [gq,hc,bh];simp
theorem IM{h:Nat}{cs:List (Nd h)}(i:Nat):((cs.take i).flatMap (cD h)).Sublist (cs.flatMap (cD h)):=by
 conv=>rhs;rw [← aE i cs]
 rw [bh];exact List.sublist_append_left _ _
theorem IN{h:Nat}{t:Nd (h+1)}{i:Nat}{c:Nd h}(hc:t.2.2[i]?=some c)(hn:(cD (h+1) t).Nodup):(cD h c).Nodup∧∀ j ∈ cD h c,j ∉ cJ t.1∧j ∉ (t.2.2.take i).flatMap (cD h):=by
 have hn:(cJ t.1++t.2.2.flatMap (cD h)).Nodup:=hn;have h1:(cJ t.1++((t.2.2.take i).flatMap (cD h)++cD h c)).Nodup:=hn.sublist (by rw [← xg hc];exact List.Sublist.append_left (IM _) _)
 obtain ⟨_,h2,h3⟩:=List.nodup_append.1 h1;obtain ⟨_,h4,h5⟩:=List.nodup_append.1 h2;refine ⟨h4,fun j hj=>⟨fun h=>h3 j h j (ch _ hj) rfl,fun h=>h5 j h j hj rfl⟩⟩
theorem RI(w:World)(m n:Int):(Builtin.min_ #[3,3] 3 #[.int .i64 m,.int .i64 n]).run prog w = .ok (.int .i64 (min m n)) w:=by
 simp [Builtin.min_,Builtin.min2]
 split <;> omega
theorem Bj{ops:Array Oper}{o:Oper}{a:Act}{w:World}{K:Act→World→Prop}{Q:Exit→Act→World→Prop}{E:Prop}(nQ:o.guard=none)(x y:Operand)
  (ho:o.op = .call { callee:=.builtin .min,args:=#[x,y],argTypes:=#[3,3] }) (BN:o.type=3) (m n r:Int) (hx:a.eval x = .int .i64 m) (hy:a.eval y = .int .i64 n) (hr:min m n=r)
  (h:K (a.put o.dst (.int .i64 r)) w):if Region.wanted o (yielded ops a.tmps)=true then Oper.wp prog o a w K Q else E:=by
 have hw:Region.wanted o (yielded ops a.tmps)=true:=by simp [Region.wanted,nQ]
 rw [if_pos hw];unfold Oper.wp;simp [execOp,ho,resolve,invoke,builtin,hx,hy,BN,RI,Result.andThen,hr]
 exact h
attribute [local go_sem ↓] Go.wp_at_zero Go.wp_at_succ
theorem xK{PG:Int→Option PD}{w:World}{h:Nat}{p:C.Ch}{t:Nd h}(hk:eo PG w h p t):Sf p=(eX h t:Int)∧eX h t<1048576:=by
 cases p with
 | pg id =>
  have hk:gC PG h id t:=hk;cases h with
  | zero =>
   obtain ⟨h1,h2,_⟩:=hk;have e:(eX 0 t:Int)=id:=h2;exact ⟨e.symm,by omega⟩
  | succ h =>
   obtain ⟨h1,h2,_⟩:=hk;have e:(eX (h+1) t:Int)=id:=h2;exact ⟨e.symm,by omega⟩
 | nd b =>
  have h0:eX h t=0:=hk.1;exact ⟨by rw [h0];rfl,by omega⟩
theorem Gq{h:Nat}{t:Nd h}:∀ i ∈ cJ (eX h t),i ∈ cD h t:=fun i hi=>by
 cases h with
 | zero=>exact hi
 | succ h=>exact dQ _ hi
theorem IU{h:Nat}{t:Nd h}:(cJ (eX h t)).length≤(cD h t).length:=by
 cases h with
 | zero=>exact aj _
 | succ h =>
  show (cJ t.1).length≤(cJ t.1++_).length
  rw [ae];omega
section
variable {base:Nat} {A:Nat→Addr} {db:Nat} {F:Nat→Prop} {d:S.V.bD} {w0:World} {tb:Nat} {x:Bx} {fr en:ByteArray} {lim lo:Nat}
theorem Gs.again{h:Nat}{p:C.Ch}{t:Nd h}{w:World}{v:Value}{acc:List Pr}{M:List Nat}(hg:Gs base A db F d w0 tb x fr en lim lo w v acc M)(il:Dv base A db F d w0)(hk:eo (cU d) w0 h p t)(lx:∀ i ∈ cD h t,i ∉ M)(mS:M.length+(cD h t).length<1099511627776):Calls prog 91 #[.map (some x.mb),p.val] w fun e w'=>e = .returned (.bool false)∧Gs base A db F d w0 tb x fr en lim lo w' v acc (M++cJ (eX h t))∧wq db x.p x.mb w v w' v:=by
 obtain ⟨h1,h2⟩:=xK hk;have fy:decide (eX h t ∈ M)=false:=by
  rw [decide_eq_false_iff_not];intro hm;have h3:=hg.met.ok _ hm;refine lx _ (Gq _ ?_) hm;unfold cJ;rw [if_neg (by omega)]
  simp
 refine (rR p (eX h t) h1 h2 x.mb M w hg.met hg.DH).mono ?_
 rintro e w' ⟨rfl,hm,AN⟩;rw [I2] at hm;have hl:=IU (t:=t);obtain ⟨g1,g2⟩:=hg.meet il hm (by rw [ae];omega) AN
 exact ⟨by rw [fy],g1,g2⟩
def Fo(base:Nat)(A:Nat→Addr)(db:Nat)(F:Nat→Prop)(d:S.V.bD)(w0:World)(tb:Nat)(x:Bx)(fr en:ByteArray)(lim lo:Nat)(w:World)(v:Value)(M P:List Nat)(r:List Pr × Bool)(e:Ending)(w':World):Prop :=
 ∃ v' M',e = .returned (.bool r.2)∧Gs base A db F d w0 tb x fr en lim lo w' v' r.1 M'∧wq db x.p x.mb w v w' v'∧(∀ i ∈ M',i ∈ M∨i ∈ P)∧M'.length≤M.length+P.length
theorem Ev{rv:Value}(il:Dv base A db F d w0)(GQ:B.au w0 tb #[.pointer (some ⟨db,0,none⟩),rv] 100)(p:C.Ch)(t:Nd 0)(dp:Nat)(w:World)(v:Value)(acc:List Pr)(M:List Nat)(hk:eo (cU d) w0 0 p t)(nQ:jt ⟨0,t⟩)(h:Gs base A db F d w0 tb x fr en lim lo w v acc M)(Pl:dp≤64)(Ud:lim≤9223372036854775807)(dV:(acc.length+t.2.length)*32≤140737488355328)(lx:∀ i ∈ cD 0 t,i ∉ M)(mS:M.length+(cD 0 t).length<1099511627776):Calls prog 90 #[p.val,.int .i64 (dp:Int),.pointer (some ⟨x.m,0,none⟩),.pointer (some ⟨x.f,0,none⟩),.pointer (some ⟨x.t,0,none⟩),.pointer (some ⟨x.fr,0,none⟩),.pointer (some ⟨x.en,0,none⟩),.pointer (some ⟨x.p,0,none⟩),.pointer (some ⟨x.l,0,none⟩),.pointer (some ⟨x.g,0,none⟩)] w (Fo base A db F d w0 tb x fr en lim lo w v M (cD 0 t) (ft fr en lim 0 t acc)):=by
 have Ig:=ab (h.again il hk lx mS);have rj:Hid (∀ W,Gs base A db F d w0 tb x fr en lim lo W v acc (M++cJ (eX 0 t))→Calls prog 92 #[.pointer (some ⟨tb,0,none⟩),p.val,.int .i64 (dp:Int)] W fun e w'=>(lu (oZ d w0) A ⟨0,t⟩ e w'∧True)∧Dv base A db F d w'∧Mv db F W w'):=fun W hW=>by
  have aw:=hW.mv.cx il;refine (mO (oZ d w0) p ⟨0,t⟩ tb rv dp W ⟨⟨hk,nQ⟩,.inl aw⟩ (dz aw GQ) hW.dv (.inr Pl)).mono ?_
  rintro e w' ⟨⟨h1,_⟩,h2,h3⟩;exact ⟨⟨h1,trivial⟩,h2,h3⟩
 obtain ⟨pt,px,iB⟩:=bJ p;rw [iB] at rj Ig ⊢;have k0:w.cell? ⟨x.m,0,none⟩=some (.map (some x.mb)):=h.cm;have HRM:=ab dV;have Ia:=ab Pl;have MD:=ab il;have HLM:=ab Ud;have Rf:=ab mS;clear h hk nQ il GQ iB Pl dV Ud lx mS;go_enter func90,ntmps90;go_wp2_with fail;refine Ig.out.mono ?_
 rintro e wa ⟨rfl,hga,OO⟩;have k1:wa.cell? ⟨x.t,0,none⟩=some (.pointer (some ⟨tb,0,none⟩)):=hga.ct;have CD:=ab (rj.out wa hga);have HS:=ab hga;have HT:=ab OO;clear hga OO rj Ig k0;go_wp2_with fail;refine CD.out.mono ?_
 rintro e w1 ⟨⟨BO,_⟩,eH,fI⟩;rcases BO with ⟨hE,_⟩ | ⟨b,n,pv,lv,cv,rfl,hs,hn⟩
 ·exact (hE:False).elim
 ·have qe:=ab (HS.out.go fI eH);have H8:Hid (wq db x.p x.mb w v w1 v):=HT.out.trans (wq.mv v fI);have nG:n.ps=t.2:=hn.1.1.2;have h0:n.us.length=0:=by have h9:n.us=[]:=hn.1.1.1;rw [h9];rfl
  have pI:=ab (cd b n pv lv cv w1 hs);rw [show decide (n.us.length=0)=true by simp [h0]] at pI
  have hlen:n.ps.length≤4000:=hs.fine.2.1;have CA:Hid (∀ W,Below w1.heap.size w1 W→Calls prog 94 #[pv,.string fr,.string en] W fun e w'=>∃ a c,e = .returned (.slice a (dX n.ps fr en).length c)∧gZ w' (.slice a (dX n.ps fr en).length c) (dX n.ps fr en)∧Below w1.heap.size w1 w'):=fun W hW=>(FM pv n.ps fr en W (by omega) (hs.jj.below hW)).mono fun e w' ⟨a,c,h1,h2,h3⟩=>⟨a,c,h1,h2,Below.next hW h3⟩
  have p0:=hs.c0;have U6:=qe.out.cfr;have XX:=qe.out.ZE;have yP:=ab nG;obtain ⟨xa,xc,KR⟩:=hs.jj.form;subst KR;clear eH fI CD hs hn h0 nG k1;go_wp2_with fail;refine pI.out.mono ?_
  rintro e w1' ⟨rfl,rfl⟩;go_wp2_with fail;go_region_held3 (fun w'=>w'.cell? ⟨b,0,none⟩=some (.slice xa n.ps.length xc)∧w'.cell? ⟨x.fr,0,none⟩=some (.string fr)∧w'.cell? ⟨x.en,0,none⟩=some (.string en)) (go_keep)
   (first
    | (go_at_call 94;refine (CA.out _ (by first | exact Below.refl _ _ | exact B.aR (Below.refl _ _))).mono ?_;rintro e w2 ⟨ya,yc,rfl,hy,aY⟩;have HY:=ab hy;have bH:=ab aY;have m0:=(aY.cell (p:=⟨b,0,none⟩) (World.block_lt_of_cell? w1 _ p0)).trans p0;have m1:=(aY.cell (p:=⟨x.fr,0,none⟩) (World.block_lt_of_cell? w1 _ U6)).trans U6;have m2:=(aY.cell (p:=⟨x.en,0,none⟩) (World.block_lt_of_cell? w1 _ XX)).trans XX;clear hy aY))
  have nJ:=ab (qe.out.below (B.aR bH.out));have HG2:Hid (wq db x.p x.mb w v w2.drew v):=H8.out.trans (wq.below v (B.aR bH.out));obtain ⟨wl,Ve⟩ : ∃ wl,wl=dX n.ps fr en:=⟨_,rfl⟩;rw [← Ve] at HY ⊢;obtain ⟨q,hq⟩ : ∃ q,q=min wl.length (lim - acc.length):=⟨_,rfl⟩;have FF:=nJ.out.len;have Ud:=HLM.out;have abA:wl.length≤n.ps.length:=by rw [Ve];unfold dX;rw [ao,ag];omega
  have hyc:wl.length≤yc:=by obtain ⟨_,_,he,h,_⟩:=HY.out;cases he;exact h
  have qE:=fun W=>Ka W ya wl.length yc q (by omega)
  have mC:(wl.take q).length=q:=by rw [ag];omega
  have AN:=nJ.out.grow (us:=wl.take q) (s:=.slice ya q yc) MD.out ((HY.out.below (B.aR (Below.refl _ _))).take (by omega)) (by rw [mC];have:=HRM.out;rw [← yP.out] at this;omega) (by rw [mC];omega)
  rw [mC] at AN;obtain ⟨a',c',w3,bo,kfz,kp,kl,pN,Xd⟩:=AN;have b8:(ft fr en lim 0 t acc).1=acc++wl.take q∧(ft fr en lim 0 t acc).2=decide (((acc.length+q:Nat):Int)<(lim:Int)):=by
   have e1:(dX t.2 fr en).take (lim - acc.length)=wl.take q:=by
    rw [← yP.out,← Ve,hq,Nat.min_comm,← List.take_eq_take_min]
   refine ⟨?_,?_⟩
   ·show acc++(dX t.2 fr en).take (lim - acc.length)=_
    rw [e1]
   ·show decide ((acc++(dX t.2 fr en).take (lim - acc.length)).length<lim)=_
    rw [e1,ae,mC];congr 1
    exact propext ⟨fun h=>by omega,fun h=>by omega⟩
  have nM:Hid (Fo base A db F d w0 tb x fr en lim lo w v M (cD 0 t) (ft fr en lim 0 t acc) (.returned (.bool (decide (((acc.length+q:Nat):Int)<(lim:Int))))) (w3.setCell ⟨x.p,0,none⟩ (.slice a' (acc.length+q) c'))):=by
   refine ⟨_,M++cJ (eX 0 t),by rw [b8.2],by rw [b8.1];exact pN,HG2.out.trans Xd,fun i hi=>?_,?_⟩
   ·rcases List.mem_append.1 hi with h | h
    ·exact .inl h
    ·exact .inr (Gq _ h)
   ·rw [ae];exact aj _
  have Mb:=ab bo;obtain ⟨va,vc,mQ⟩:=nJ.out.ps.1.form;have kp2:w2.cell? ⟨x.p,0,none⟩=some v:=(qe.out.below bH.out).row.cell 0 (by simp)
  have kl2:w2.cell? ⟨x.l,0,none⟩=some (.int .i64 (lim:Int)):=(qe.out.below bH.out).cl;have YH:min (wl.length:Int) ((lim:Int) - (acc.length:Int))=(q:Int):=by omega
  have kl4:(w3.setCell ⟨x.p,0,none⟩ (.slice a' (acc.length+q) c')).cell? ⟨x.l,0,none⟩=some (.int .i64 (lim:Int)):=pN.cl;have kp4:(w3.setCell ⟨x.p,0,none⟩ (.slice a' (acc.length+q) c')).cell? ⟨x.p,0,none⟩=some (.slice a' (acc.length+q) c'):=pN.row.cell 0 (by simp)
  subst mQ;have ahc:(0:Int)≤(acc.length:Int):=by omega
  have ahb:(acc.length:Int)≤(lim:Int):=by omega
  have agI:(lim:Int)≤9223372036854775807:=by omega
  have hwr:IntKind.i64.wrap ((lim:Int) - (acc.length:Int))=(lim:Int) - (acc.length:Int):=by rw [IntKind.wrap_i64];omega
  clear pN Xd bo Ve hq abA hyc mC hlen HS pI CA HY p0 U6 XX m0 m1 m2 b8 Rf HT yP H8 HG2 qe nJ bH HRM Ia MD HLM;go_wp2_with fail;go_region_law (first | (refine Bj rfl (.tmp 43) (.tmp 47) rfl rfl _ _ _ rfl rfl YH ?_) | (refine nx 63 rfl (.tmp 40) (.tmp 49) rfl rfl _ _ rfl rfl _ _ Mb.out ?_))
  all_goals
   go_wp2;go_ret;exact nM.out
end
def MC(h:Nat)(t:Nd h):Prop:=(∃ lo hi,Ok h t lo hi)∧np h t≤4072∧wM h t
theorem XP{h:Nat}{c:Nd h}{lo hi:Option ByteArray}(hf:mF h c lo hi):MC h c:=by
 refine ⟨⟨lo,hi,hf.1⟩,hf.2.2,?_⟩;have h1:=hf.2.1;cases h with
 | zero =>
  intro e;have h1:1556≤fQ c.2:=h1;rw [e,kW] at h1;omega
 | succ h =>
  intro e;have h1:1777≤fD c.2.1:=h1;rw [e] at h1;have:fD []=6:=rfl;omega
theorem rO{h:Nat}{t:Nd (h+1)}{i:Nat}{c:Nd h}(ho:MC (h+1) t)(hc:t.2.2[i]?=some c):MC h c:=by
 obtain ⟨⟨lo,hi,ho⟩,_⟩:=ho;obtain ⟨tn,oE,hf⟩:=ph ((iA h t lo hi).1 ho) i c hc;exact XP hf
theorem Dy{h:Nat}{t:Nd h}(ho:dU (some ⟨h,t⟩)):MC h t:=⟨⟨none,none,ho.1⟩,ho.2.1,ho.2.2⟩
def U0:PD→Prop
 | .leaf l=>zO l true=none
 | .br f lk=>B.mX f lk true=none
theorem Dz{t:Nd 0}(ho:MC 0 t):zO t.2 true=none:=by
 obtain ⟨⟨lo,hi,hr,hm⟩,hs,h1⟩:=ho;have hs:fQ t.2≤4072:=hs;have h1:t.2≠[]:=h1;unfold zO;rw [if_neg (by simp only [Bool.not_eq_false,lE];exact fun p hp=>(hm p hp).1),if_neg (by simpa using hr),if_neg (by omega),if_neg (by simp [h1])]
theorem IV{n:Nat}(h:n≠0):cJ n=[n]:=if_neg h
theorem IP{h:Nat}:∀ (cs:List (Nd h)),(∀ c ∈ cs,eX h c≠0)→(cs.map (eX h)).Sublist (cs.flatMap (cD h))
 | [],_=>List.Sublist.refl _
 | c::cs,ey=>by
  have h0:eX h c≠0:=ey c (by simp)
  have e:∃ r,cD h c=eX h c::r:=by
   cases h with
   | zero=>exact ⟨[],IV h0⟩
   | succ h=>exact ⟨_,congrArg (·++c.2.2.flatMap (cD h)) (IV h0)⟩
  obtain ⟨r,e⟩:=e;rw [List.map_cons,List.flatMap_cons,e];exact List.Sublist.cons_cons _ ((IP cs fun d hd=>ey d (by simp [hd])).trans (dA _ _))
theorem D4{h:Nat}(ks:List ByteArray)(cs:List (Nd h))(hl:cs.length=ks.length+1):B.kids (lz cs) (qv ks cs)=cs.map fun c=>(eX h c:Int):=by
 cases cs with
 | nil=>simp at hl
 | cons c cs =>
  show (eX h c:Int)::(ks.zip (cs.map fun c=>(eX h c:Int))).map (·.2)=(eX h c:Int)::cs.map fun c=>(eX h c:Int)
  rw [List.map_snd_zip (by rw [az];simp at hl;omega)]
theorem BK{h:Nat}(ks:List ByteArray)(cs:List (Nd h))(hl:cs.length=ks.length+1):(qv ks cs).map (·.1)=ks:=by
 unfold qv;rw [List.map_fst_zip (by rw [az,List.length_tail];omega)]
theorem vQ{h:Nat}(ks:List ByteArray)(cs:List (Nd h))(hl:cs.length=ks.length+1):(qv ks cs).length=ks.length:=by
 have:=congrArg List.length (BK ks cs hl);rwa [az] at this
theorem Qi{h:Nat}{ks:List ByteArray}{cs:List (Nd h)}{lo hi:Option ByteArray}(ho:ig (mF h) lo hi ks cs)(hs:fD ks≤4072)(h1:ks≠[])(hr:∀ c ∈ cs,2≤eX h c∧eX h c<1048576)(hn:(cs.flatMap (cD h)).Nodup):B.mX (lz cs) (qv ks cs) true=none:=by
 have hl:=jI ho;have hlen:=vQ ks cs hl;have hk:=BK ks cs hl;have uH:=D4 ks cs hl;have tF:=xw ho;have uF:=kH ho;have cZ:∀ x ∈ B.kids (lz cs) (qv ks cs),2≤x∧x<1048576:=fun x hx=>by
  rw [uH] at hx;obtain ⟨c,hc,rfl⟩:=List.mem_map.1 hx;have:=hr c hc;omega
 have hf:B.fV (lz cs)=true:=by
  have:=cZ (lz cs) (by simp [B.kids])
  simp only [B.fV,decide_eq_true_eq];exact this
 have hm:(qv ks cs).all B.gz=true:=by
  rw [lE];intro p hp;have a1:cQ p.1:=tF p.1 (by rw [← hk];exact gK hp)
  have a2:=cZ p.2 (by simp only [B.kids];exact dP _ (gK hp))
  simp only [B.gz,decide_eq_true_eq];exact ⟨a1.1,a1.2,a2⟩
 have hri:B.nA (qv ks cs):=fun i hi=>by
  rw [← hk] at uF;have:=List.pairwise_iff_getElem.1 uF i (i+1) (by rw [az];omega) (by rw [az];omega) (by omega)
  rwa [cO,cO] at this
 have ji:(B.kids (lz cs) (qv ks cs)).Nodup:=by
  rw [uH];have h2:(cs.map (eX h)).Nodup:=hn.sublist (IP cs fun c hc=>by have:=hr c hc;omega)
  have h3:(cs.map fun c=>(eX h c:Int))=(cs.map (eX h)).map fun n:Nat=>(n:Int):=by rw [eG];rfl
  rw [h3];exact List.Pairwise.map _ (fun a b zh e=>zh (by omega)) h2
 have cp:B.jw (qv ks cs)≤4072:=by
  have:=wH (qv ks cs);rw [hk] at this;omega
 have ey:qv ks cs≠[]:=fun e=>h1 (by rw [← hk,e];rfl)
 unfold B.mX;rw [if_neg ey,if_neg (by rw [hf,hm];simp),if_neg (by simpa using hri),if_neg (by simpa using ji),if_neg (by omega),if_neg (by simp)]
theorem Ax{PG:Int→Option PD}{w:World}{P:Nat→Nat}(hP:∀ j,2≤P j∧P j<1048576){h:Nat}{p:C.Ch}{t:Nd h}(hk:eo PG w h p t)(k:Nat):2≤eX h (aT P h t k).1∧eX h (aT P h t k).1<1048576:=by
 have hid:=xK hk;by_cases h0:eX h t=0
 ·cases h with
  | zero =>
   have h0:t.1=0:=h0;simp only [aT,h0,if_true];exact hP _
  | succ h =>
   have h0:t.1=0:=h0;simp only [aT,h0,if_true];exact hP _
 ·have h2:2≤eX h t:=by
   cases p with
   | pg id =>
    have hk:gC PG h id t:=hk;cases h with
    | zero =>
     have h3:=hk.2.1;have h4:=hk.1;show 2≤t.1
     omega
    | succ h =>
     have h3:=hk.2.1;have h4:=hk.1;show 2≤t.1
     omega
   | nd b=>exact absurd hk.1 h0
  cases h with
  | zero =>
   have PC:¬ t.1=0:=h0;simp only [aT,PC,if_false];exact ⟨h2,hid.2⟩
  | succ h =>
   have PC:¬ t.1=0:=h0;simp only [aT,PC,if_false];exact ⟨h2,hid.2⟩
theorem oj{PG Xk:Int→Option PD}:∀ (h:Nat) {id:Int} {t:Nd h},gC PG h id t→(∀ i ∈ cD h t,Xk (i:Int)=PG (i:Int))→gC Xk h id t
 | 0,id,t,hp,he=>by
  obtain ⟨h1,h2,h3⟩:=hp;have h0:t.1≠0:=by omega
  have:=he t.1 (by show t.1 ∈ cJ t.1;unfold cJ;rw [if_neg h0];simp)
  rw [h2] at this;exact ⟨h1,h2,this.trans h3⟩
 | h+1,id,t,hp,he=>by
  obtain ⟨h1,h2,f,lk,h3,h4,h5,h6⟩:=hp;have h0:t.1≠0:=by omega
  have:=he t.1 (by show t.1 ∈ cJ t.1++_;unfold cJ;rw [if_neg h0];simp)
  rw [h2] at this;refine ⟨h1,h2,f,lk,this.trans h3,h4,h5,fun i c x hc hx=>oj h (h6 i c x hc hx) fun j hj=>he j ?_⟩
  exact ch _ (List.mem_flatMap.2 ⟨c,cH hc,hj⟩)
theorem xH{PG Xk:Int→Option PD}{w:World}{P:Nat→Nat}(hP:∀ j,2≤P j∧P j<1048576):∀ (h:Nat) {p:C.Ch} {t:Nd h} (k:Nat),eo PG w h p t→(∃ lo hi,Ok h t lo hi)→(∀ i ∈ cD h t,Xk (i:Int)=PG (i:Int))→(∀ x ∈ (aT P h t k).2,Xk (x.1:Int)=some x.2)→gC Xk h (eX h (aT P h t k).1:Int) (aT P h t k).1
 | 0,p,t,k,hk,_,he,hs=>by
  cases p with
  | pg id =>
   have hk:gC PG 0 id t:=hk;have h0:¬ t.1=0:=by have:=hk.1;have:=hk.2.1;omega
   have e:(eX 0 t:Int)=id:=hk.2.1;simp only [aT,h0,if_false];rw [e];exact oj 0 hk he
  | nd b =>
   have h0:t.1=0:=hk.1;simp only [aT,h0,if_true] at hs ⊢;have h1:=hP k;exact ⟨by show 2≤(P k:Int)∧(P k:Int)<1048576;omega,rfl,hs (P k,.leaf t.2) (by simp)⟩
 | h+1,p,t,k,hk,ho,he,hs=>by
  cases p with
  | pg id =>
   have hk:gC PG (h+1) id t:=hk;have h0:¬ t.1=0:=by have:=hk.1;have:=hk.2.1;omega
   have e:(eX (h+1) t:Int)=id:=hk.2.1;simp only [aT,h0,if_false];rw [e];exact oj (h+1) hk he
  | nd b =>
   have h0:t.1=0:=hk.1;obtain ⟨_,n,pv,lv,cv,OS,hn⟩:=hk;obtain ⟨lo,hi,ho⟩:=ho;have Xb:=(iA h t lo hi).1 ho;have hl:=jI Xb;have Je:(bU (aT P h) t.2.2 k).1.length=t.2.1.length+1:=by rw [ir,hl]
   simp only [aT,h0,if_true] at hs ⊢;have h1:=hP (k+(bU (aT P h) t.2.2 k).2.length);refine ⟨by show 2≤(P (k+(bU (aT P h) t.2.2 k).2.length):Int)∧(P (k+(bU (aT P h) t.2.2 k).2.length):Int)<1048576;omega,rfl,_,_,hs (P (k+(bU (aT P h) t.2.2 k).2.length),.br (lz (bU (aT P h) t.2.2 k).1) (qv t.2.1 (bU (aT P h) t.2.2 k).1)) (by simp),(BK _ _ Je).symm,by show (bU (aT P h) t.2.2 k).1.length=_;rw [vQ _ _ Je,Je],fun i c' x uK hx=>?_⟩
   have uK:(bU (aT P h) t.2.2 k).1[i]?=some c':=uK;rw [D4 _ _ Je,aL,uK] at hx;simp only [jU,Option.some.injEq] at hx;have oE:i<t.2.2.length:=by
    have:=(List.getElem?_eq_some_iff.1 uK).1;rw [ir] at this;exact this
   have Ms:n.us.length=t.2.2.length:=hn.1;obtain ⟨q,hq⟩ : ∃ q,n.us[i]?=some q:=⟨_,af (by omega)⟩
   have KY:t.2.2[i]?=some t.2.2[i]:=af oE;obtain ⟨ki,g1,g2⟩:=r9 (aT P h) t.2.2 k i _ KY;rw [uK] at g1;cases g1;rw [← hx];obtain ⟨tn,sj,hf⟩:=ph Xb i _ KY;exact xH hP h ki (hn.rh hq KY) ⟨tn,sj,hf.1⟩ (fun j hj=>he j (ch _ (List.mem_flatMap.2 ⟨_,cH KY,hj⟩))) fun y hy=>hs y (dQ _ (g2 y hy))
theorem wJ{l:List Nat}{i x:Nat}(h:l[i]?=some x):(l.take (i+1)).sum=(l.take i).sum+x:=by
 rw [gq,h,jV];simp
theorem kX:∀ (l:List Nat) (i:Nat),(l.take i).sum≤l.sum
 | [],i=>by simp
 | x::l,0=>by simp
 | x::l,i+1=>by
  have:=kX l i;simp only [List.take_succ_cons,gD];omega
section
variable {PG:Int→Option PD}
theorem xA:∀ (h:Nat) (b:Nat) (t:Nd h) (w:World),eo PG w h (.nd b) t→fA h t≤1099511627776→Calls prog 290 #[.pointer (some ⟨b,0,none⟩)] w fun e w'=>e = .returned (.int .i64 (fA h t:Int))∧w=w'
 | 0,b,t,w,⟨h0,n,pv,lv,cv,hs,hn⟩,hc=>by
  have p3:=hs.c3;have hu:n.us=[]:=hn.1;obtain ⟨ca,cc,vq⟩:=hs.kids.form;rw [hu,List.length_nil] at vq;subst vq;have PC:t.1=0:=h0;have HC:Hid (fA 0 t=1):=if_pos PC;clear hs hn hc;go_enter func290,ntmps290;go_wp2;refine wp_loop_rounds 1 ?_
  rw [rounds_succ];go_wp2;go_ret;exact ⟨by rw [HC.out];rfl,rfl⟩
 | h+1,b,t,w,⟨h0,n,pv,lv,cv,hs,hn⟩,hc=>by
  have p3:=hs.c3;have PC:t.1=0:=h0;have fG:fA (h+1) t=(t.2.2.map (fA h)).sum+1:=if_pos PC;have FI:=ab fG;have HC:=ab hc;obtain ⟨ca,cc,vq,-,-,bE⟩:=hs.kids;rw [C.a7,Nat.mul_one] at vq;subst vq;have yY:=ab bE;have HK:Hid (∀ (i:Nat) (p:C.Ch) (c:Nd h),n.us[i]?=some p→t.2.2[i]?=some c→eo PG w h p c):=fun i p c h1 h2=>hn.rh h1 h2
  have HL:Hid (n.us.length≤4001∧n.us.length=t.2.2.length):=⟨hs.fine.2.2.2.2,hn.1⟩;clear hs hn bE fG hc;go_enter func290,ntmps290;go_wp2;go_loopw [3,11] (fun cv iv wr=>∃ (i:Nat),cv = .int .i64 ((((t.2.2.map (fA h)).take i).sum:Int)+1)∧iv = .int .i64 (i:Int)∧i≤n.us.length∧w=wr) (fun _ iv _=>n.us.length - (intOf iv).toNat)
  case atStart=>exact ⟨0,by simp,rfl,aC _,rfl⟩
  case round =>
   obtain ⟨i,rfl,rfl,hi,rfl⟩:=hrel;by_cases bX:i<n.us.length
   ·obtain ⟨g,o,rfl,c1⟩:=yY.out i _ (C.ib n.us i bX);have hI0:(0:Int)≤(i:Int):=by omega
    have hI1:(i:Int)<(n.us.length:Int):=by omega
    have hI2:(n.us.length:Int)≤4001:=by have:=HL.out.1;omega
    have hp:n.us[i]?=some n.us[i]:=af bX;obtain ⟨c,KY⟩ : ∃ c,t.2.2[i]?=some c:=⟨_,af (by have:=HL.out.2;omega)⟩
    have ri:=HK.out i n.us[i] c hp KY;have eS:((t.2.2.map (fA h)).take (i+1)).sum=((t.2.2.map (fA h)).take i).sum+fA h c:=wJ (by rw [aL,KY];rfl)
    have hle:=kX (t.2.2.map (fA h)) (i+1);have GX:=HC.out;rw [FI.out] at GX;generalize n.us[i]=p at *;obtain ⟨S,hS⟩ : ∃ S,S=((t.2.2.map (fA h)).take i).sum:=⟨_,rfl⟩;rw [← hS] at eS ⊢;have gN:Hid (((t.2.2.map (fA h)).take (i+1)).sum=S+fA h c∧S+fA h c≤1099511627776):=⟨eS,by omega⟩
    have hsb:(S:Int)≤1099511627776:=by omega
    have xT:(0:Int)≤(S:Int):=by omega
    have My:fA h c≤1099511627776:=by omega
    clear yY HK hp eS hle GX hS;cases p with
    | pg id =>
     have Ut:w.cell? ⟨g,o+i,none⟩=some (.iface 146 (.int .i64 id)):=c1;have Pd:gC PG h id c:=ri;have HZ:Hid (fA h c=0):=ET (by
      cases h with
      | zero=>have h1:=Pd.1;have h2:=Pd.2.1;show c.1≠0;omega
      | succ h=>have h1:=Pd.1;have h2:=Pd.2.1;show c.1≠0;omega)
     clear c1 ri Pd;go_wp2_with fail;refine (xe id w).mono ?_
     rintro e w1 ⟨rfl,rfl⟩;go_wp2;go_roundw
     case rel=>exact ⟨i+1,by have h1:=gN.out.1;have h2:=HZ.out;rw [h1,h2];simp,by go_num,bX,trivial⟩
     case measure=>simp [intOf];omega
    | nd b2 =>
     have Ut:w.cell? ⟨g,o+i,none⟩=some (.iface 152 (.pointer (some ⟨b2,0,none⟩))):=c1;have HR:=ab (xA h b2 c w ri My);have QT:(0:Int)≤(fA h c:Int):=by omega
     have sM:(S:Int)+(fA h c:Int)≤1099511627776:=by have:=gN.out.2;omega
     obtain ⟨X,hX⟩ : ∃ X,X=fA h c:=⟨_,rfl⟩;rw [← hX] at HR QT sM gN;clear c1 ri hX My;go_wp2_with fail;refine HR.out.mono ?_
     rintro e w1 ⟨rfl,rfl⟩;go_wp2;go_roundw
     case rel=>exact ⟨i+1,by have h1:=gN.out.1;rw [h1];congr 1;omega,by go_num,bX,trivial⟩
     case measure=>simp [intOf];omega
   ·have hI1:¬ (i:Int)<(n.us.length:Int):=by omega
    have he:(t.2.2.map (fA h)).take i=t.2.2.map (fA h):=ar (by rw [az];have:=HL.out.2;omega)
    have HE:Hid ((((t.2.2.map (fA h)).take i).sum:Int)+1=(fA (h+1) t:Int)):=by show _=_;rw [he,FI.out];omega
    rw [HE.out];clear he FI HK yY;go_wp2;go_ret;exact ⟨rfl,rfl⟩
end
def bY:cT→Nat
 | none=>0
 | some x=>fA x.1 x.2
section
variable {base:Nat} {A:Nat→Addr} {db:Nat} {F:Nat→Prop} {d:S.V.bD} {W0:World} {r:cT}
theorem eC{w:World}{tb:Nat}(hc:Ts base A db F d W0 w tb r)(hn:bY r≤1099511627776):Calls prog 20 #[.pointer (some ⟨tb,0,none⟩)] w fun e w'=>e = .returned (.int .i64 (bY r:Int))∧w=w':=by
 obtain ⟨rv,ht,zI⟩:=hc.tr;have c1:=ht.c1;clear ht hc;rcases zI with ⟨rfl,rfl⟩ | ⟨p,h,t,rfl,rfl,hp⟩
 ·have hq:=fun W=>oJ W
  go_enter func20,ntmps20;go_wp2;go_ret;exact ⟨rfl,rfl⟩
 ·cases p with
  | pg id =>
   have Ut:w.cell? ⟨tb,1,none⟩=some (.iface 146 (.int .i64 id)):=c1;have hq:=fun W=>kM 146 (.int .i64 id) W
   have Pd:gC (cU d) h id t:=hp;have HZ:Hid (bY (some ⟨h,t⟩)=0):=ET (by
    cases h with
    | zero=>have h1:=Pd.1;have h2:=Pd.2.1;show t.1≠0;omega
    | succ h=>have h1:=Pd.1;have h2:=Pd.2.1;show t.1≠0;omega)
   clear c1 hp Pd;go_enter func20,ntmps20;go_wp2_with fail;refine (xe id w).mono ?_
   rintro e w1 ⟨rfl,rfl⟩;go_wp2;go_ret;exact ⟨by rw [HZ.out];rfl,rfl⟩
  | nd b =>
   have Ut:w.cell? ⟨tb,1,none⟩=some (.iface 152 (.pointer (some ⟨b,0,none⟩))):=c1;have hq:=fun W=>kM 152 (.pointer (some ⟨b,0,none⟩)) W
   have HR:=ab (xA h b t w hp hn);clear c1 hp;go_enter func20,ntmps20;go_wp2_with fail;refine HR.out.mono ?_
   rintro e w1 ⟨rfl,rfl⟩;go_wp2;go_ret;exact ⟨rfl,rfl⟩
end
def u9(w:World)(base:Nat)(v:Value)(l:List Nat):Prop :=
 w.ownsRow base 3 1 v l.length (Q.kq l)∧∀ g,v.ownBlock=some g→∃ cur,w.heap[g]?=some (.cells cur 3 (0,0))∧∀ u ∈ cur.toList,Plain u
theorem u9.nil(w:World)(base:Nat):u9 w base (.slice none 0 0) []:=⟨World.ownsRow_nil _ _ _ _,fun g h=>by simp [Value.ownBlock] at h⟩
theorem u9.form{w:World}{base:Nat}{v:Value}{l:List Nat}(h:u9 w base v l):∃ a c,v = .slice a l.length c:=by
 rcases h.1.2 with ⟨rfl,h0⟩ | ⟨g0,cap,cur,rfl,_⟩
 ·cases l with
  | nil=>exact ⟨_,_,rfl⟩
  | cons _ _=>simp at h0
 ·exact ⟨_,_,rfl⟩
theorem u9.dy{w:World}{base:Nat}{v:Value}{l:List Nat}(h:u9 w base v l){g:Nat}(hg:v.ownBlock=some g):base≤g∧g<w.heap.size:=by
 rcases h.1.2 with ⟨rfl,h0⟩ | ⟨g0,cap,cur,rfl,mE,pZ,_⟩
 ·simp [Value.ownBlock] at hg
 ·simp only [Value.ownBlock,Option.some.injEq] at hg;subst hg;exact ⟨mE,(Array.getElem?_eq_some_iff.1 pZ).1⟩
theorem u9.odd{w:World}{base:Nat}{v:Value}{l:List Nat}(h:u9 w base v l){g:Nat}(hg:v.ownBlock=some g):Tp w g:=by
 obtain ⟨cur,h1,h2⟩:=h.2 g hg;refine ⟨fun j u hc=>?_,fun cs fr e=>?_,fun cs fr e=>?_⟩
 ·rw [cell_of_row w g j cur _ _ h1] at hc;exact (h2 u (by have:=Array.getElem?_eq_some_iff.1 hc;obtain ⟨h3,h4⟩:=this;rw [← h4];exact gG h3)).no
 ·rw [h1] at e;simp at e
 ·rw [h1] at e;simp at e
theorem u9.same{w w':World}{lo:Nat}{v:Value}{l:List Nat}(h:u9 w lo v l)(hb:∀ g,v.ownBlock=some g→w'.heap[g]?=w.heap[g]?):u9 w' lo v l:=by
 refine ⟨⟨h.1.1,?_⟩,fun g hg=>?_⟩
 ·rcases h.1.2 with h' | ⟨g,cap,cur,h',h1,h2,hr⟩
  ·exact .inl h'
  ·exact .inr ⟨g,cap,cur,h',h1,(hb g (by rw [h'];rfl)).trans h2,hr⟩
 ·obtain ⟨cur,h1,h2⟩:=h.2 g hg;exact ⟨cur,(hb g hg).trans h1,h2⟩
theorem xB(l:List Nat):∀ u ∈ Q.kq l,Plain u:=fun u hu=>by
 obtain ⟨n,_,rfl⟩:=List.mem_map.1 hu;exact .inr ⟨_,_,rfl⟩
theorem CK(n:Nat):∀ u ∈ (Builtin.zeroCells (Value.int .i64 0).cells n).toList,Plain u:=by
 intro u hu;simp only [Builtin.zeroCells,Value.cells] at hu;simp at hu
 obtain ⟨i,_,rfl⟩:=hu;have h:i % 1=0:=Nat.mod_one i
 first | exact .inr ⟨.i64,0,rfl⟩ | (simp [h];exact .inr ⟨.i64,0,rfl⟩)
theorem TV:(prog.info? 3).map (fun i=>(i.zero,i.size,i.bytes))=some (some (.int .i64 0),1,8):=by kernel_rfl
theorem u9.push(base:Nat)(v:Value)(l:List Nat)(p:Nat)(w:World)(h:u9 w base v l)(hn:l.length≤1099511627776)(dr:base≤w.heap.size):∃ a' c' w',(Builtin.append_ #[69,69] 69 #[v,.slice (some ⟨w.heap.size,0,none⟩) 1 1]).run prog (w.alloc (.cells #[.int .i64 (p:Int)] 3)) = .ok (.slice a' (l.length+1) c') w'∧u9 w' base (.slice a' (l.length+1) c') (l++[p])∧(w.alloc (.cells #[.int .i64 (p:Int)] 3)).grownBy w' v.ownBlock:=by
 obtain ⟨i0,hi,hz,cp,kL⟩:=info_parts TV;obtain ⟨W,hW⟩ : ∃ W,W=w.alloc (.cells #[.int .i64 (p:Int)] 3):=⟨_,rfl⟩;have hsW:W.heap.size=w.heap.size+1:=by rw [hW];simp
 have pO:=bM w #[.int .i64 (p:Int)] 3;rw [← hW] at pO;have ho:W.ownsRow base 3 1 v l.length (Q.kq l):=hW▸World.ownsRow.alloc h.1 _;have iR:∀ j u,([.int .i64 (p:Int)] : List Value)[j]?=some u→W.cell? ((⟨w.heap.size,0,none⟩ : Addr).add j)=some u:=fun j u hj=>by
  rw [bA,Nat.zero_add];match j,hj with
  | 0,hj=>cases hj;exact pO.2 0 (by simp)
 have qC:nh W (.slice (some ⟨w.heap.size,0,none⟩) 1 1) [.int .i64 (p:Int)]:=by
  refine ⟨_,_,rfl,aj _,(fun e=>by cases e),fun j u hj=>⟨_,_,rfl,?_⟩⟩
  have:=iR j u hj;rw [bA] at this;exact this
 obtain ⟨a',c',w',hr,aD,hg⟩:=ng 69 3 (.int .i64 0) 8 TV underlying69 rfl base l.length v (Q.kq l) W ho _ [.int .i64 (p:Int)] qC (by simp [Value.oneCell']) (by simp;omega) (by decide) (by omega)
 rw [aO] at hr aD;rw [← hW];have gk:w'.ownsRow base 3 1 (.slice a' (l.length+1) c') (l++[p]).length (Q.kq (l++[p])):=by
  rw [ae,Q.uA];exact aD
 have Sx:∀ u ∈ ([.int .i64 (p:Int)] : List Value),Plain u:=xB [p];suffices hh:∀ g,(Value.slice a' (l.length+1) c').ownBlock=some g→∃ cur,w'.heap[g]?=some (.cells cur 3 (0,0))∧∀ u ∈ cur.toList,Plain u from ⟨a',c',w',hr,⟨gk,hh⟩,hg⟩
 have Eh:(Q.kq l).length=l.length:=by unfold Q.kq;rw [az]
 rcases h.1.2 with ⟨rfl,h0⟩ | ⟨g0,cap,cur,rfl,mE,pZ,Cs,sO,fG,mC⟩
 ·have hq:=run_append_nil (P:=prog) W 69 69 3 i0 _ underlying69 hi hz ⟨w.heap.size,0,none⟩ 1 1 _ (by rw [cp];rfl) iR (by omega) (by omega) (by rw [kL];omega)
  rw [hq] at hr;simp only [Result.ok.injEq,Value.slice.injEq] at hr;obtain ⟨⟨rfl,-,-⟩,rfl⟩:=hr;intro g iq;simp only [Value.ownBlock,Option.some.injEq] at iq;subst iq;refine ⟨_,heap_alloc_new (World.drew _) _,fun u hu=>?_⟩
  simp only [cP,cN] at hu;rcases hu with hu | hu
  ·exact Sx u (by simpa using hu)
  ·exact CK _ u hu
 ·have fJ:W.heap[g0]?=some (.cells cur 3 (0,0)):=hW▸(heap_alloc_old w _ (Array.getElem?_eq_some_iff.1 pZ).1).trans pZ;have zf:∀ u ∈ cur.toList,Plain u:=by
   obtain ⟨fK,h1,h2⟩:=h.2 g0 rfl;rw [pZ] at h1;simp only [Option.some.injEq,Obj.cells.injEq,and_true] at h1;subst h1;exact h2
  by_cases dV:l.length+1≤cap
  ·have hq:=run_append_room (P:=prog) W 69 69 3 i0 underlying69 hi g0 l.length cap cur fJ ⟨w.heap.size,0,none⟩ 1 1 _ (by rw [cp];rfl) iR (by intro u hu;rcases Sx u hu with ⟨q,rfl⟩ | ⟨q,x,rfl⟩ <;> rfl) dV (by rw [cp,fG];simp;omega)
   rw [hq] at hr;simp only [Result.ok.injEq,Value.slice.injEq] at hr;obtain ⟨⟨rfl,-,-⟩,rfl⟩:=hr;intro g iq;simp only [Value.ownBlock,Option.some.injEq] at iq;subst iq;refine ⟨_,setRow_heap _ g0 cur _ _ _ fJ,fun u hu=>?_⟩
   simp only [cN] at hu;rcases hu with (hu | hu) | hu
   ·exact zf u (bF hu)
   ·exact Sx u hu
   ·exact zf u (bG hu)
  ·have holds:∀ j u,(Q.kq l)[j]?=some u→W.cell? ((⟨g0,0,none⟩ : Addr).add j)=some u:=World.ownsRow.cells ho (g:=g0) rfl;have hq:=run_append_grow (P:=prog) W 69 69 3 i0 _ underlying69 hi hz ⟨g0,0,none⟩ l.length cap (Q.kq l) (by rw [cp,Eh];omega) holds ⟨w.heap.size,0,none⟩ 1 1 _ (by rw [cp];rfl) iR (by omega) (by omega) (growslice_fits (by omega) (by rw [kL];omega))
   rw [hq] at hr;simp only [Result.ok.injEq,Value.slice.injEq] at hr;obtain ⟨⟨rfl,-,-⟩,rfl⟩:=hr;intro g iq;simp only [Value.ownBlock,Option.some.injEq] at iq;subst iq;refine ⟨_,heap_alloc_new (World.drew _) _,fun u hu=>?_⟩
   simp only [cP,cN] at hu;rcases hu with (hu | hu) | hu
   ·exact xB l u (by simpa using hu)
   ·exact Sx u (by simpa using hu)
   ·exact CK _ u hu
end T
end Go.Proofs.YtihmgigfkmofnaaGreatDoor
