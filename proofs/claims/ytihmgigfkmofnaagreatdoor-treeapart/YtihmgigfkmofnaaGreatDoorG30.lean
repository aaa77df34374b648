import Derived.Test.YtihmgigfkmofnaaGreatDoorG29
import Derived.BigRegion
set_option maxHeartbeats 4000000
set_option maxRecDepth 100000
open Go.Proofs.Tryz
namespace Go.Proofs.YtihmgigfkmofnaaGreatDoor
namespace T
open Go.RowKit
structure Bv where
 m:Nat
 mb:Nat
 f:Nat
 e:Nat
 t:Nat
 v:Nat
 p:Nat
structure Vs(base:Nat)(A:Nat→Addr)(db:Nat)(F:Nat→Prop)(d:S.V.bq)(w0:World)(tb:Nat)(x:Bv)(lo:Nat)(w:World)(v:Value)(acc M:List Nat):Prop where
 dv:Dv base A db F d w
 mv:Mv db F w0 w
 cm:w.cell? ⟨x.m,0,none⟩=some (.map (some x.mb))
 ce:w.cell? ⟨x.e,0,none⟩=some (.func (.func 66) #[] #[.pointer (some ⟨x.p,0,none⟩)])
 ct:w.cell? ⟨x.t,0,none⟩=some (.pointer (some ⟨tb,0,none⟩))
 cv:w.cell? ⟨x.v,0,none⟩=some (.func (.func 103) #[] #[.pointer (some ⟨x.m,0,none⟩),.pointer (some ⟨x.f,0,none⟩),.pointer (some ⟨x.e,0,none⟩),.pointer (some ⟨x.t,0,none⟩),.pointer (some ⟨x.v,0,none⟩)])
 cf:B.au w x.f #[.nilIface] 32
 row:B.au w x.p #[v] 69
 ps:uI w lo v acc
 met:Met w x.mb M
 Dq:M.length<1099511627776
 ord:∀ b ∈ [x.m,x.f,x.e,x.t,x.v,x.p,x.mb],w0.heap.size≤b∧b<lo
 no:∀ b ∈ [x.m,x.e,x.t,x.v],b≠x.f∧b≠x.p
 fp:x.f≠x.p
 Tl:db<w0.heap.size
 lo:lo≤w.heap.size
section
variable {base:Nat} {A:Nat→Addr} {db:Nat} {F:Nat→Prop} {d:S.V.bq} {w0:World} {tb:Nat} {x:Bv} {lo:Nat} {w w':World} {v v':Value} {acc Mj M M':List Nat}
theorem Vs.keep(h:Vs base A db F d w0 tb x lo w v acc M)(hv:Dv base A db F d w')(hm:Mv db F w0 w')(hs:w.heap.size≤w'.heap.size)(hb:∀ k,k<lo→k≠db→k≠x.mb→k≠x.f→k≠x.p→w'.heap[k]?=w.heap[k]?)(hf:B.au w' x.f #[.nilIface] 32)(hr:B.au w' x.p #[v'] 69)(hp:uI w' lo v' Mj)(Zi:Met w' x.mb M')(mT:M'.length<1099511627776):Vs base A db F d w0 tb x lo w' v' Mj M':=by
 have hc:∀ b ∈ [x.m,x.e,x.t,x.v],∀ u,w.cell? ⟨b,0,none⟩=some u→w'.cell? ⟨b,0,none⟩=some u:=fun b MI u hc=>by
  have ho:=h.ord b (by simp only [dK,dx,or_false] at MI ⊢;rcases MI with rfl | rfl | rfl | rfl <;> simp)
  have hn:=h.no b MI;have:=h.Tl;exact bB (hb b ho.2 (by omega) (h.met.ne hc) hn.1 hn.2) hc
 exact ⟨hv,hm,hc _ (by simp) _ h.cm,hc _ (by simp) _ h.ce,hc _ (by simp) _ h.ct,hc _ (by simp) _ h.cv,hf,hr,hp,Zi,mT,h.ord,h.no,h.fp,h.Tl,ar h.lo hs⟩
theorem Vs.cC(h:Vs base A db F d w0 tb x lo w v acc M)(hs:w.heap.size≤w'.heap.size)(hb:∀ k,k<w.heap.size→k≠db→k≠x.mb→k≠x.f→k≠x.p→v.ownBlock≠some k→w'.heap[k]?=w.heap[k]?):cP w w':=⟨hs,fun k hk=>by
 by_cases h1:k=db
 ·subst h1;obtain ⟨d',_,hd⟩:=h.dv.dev;refine .inr ⟨fun j u hc=>jF hd hc,?_,?_⟩
  ·intro cs fr h1;obtain ⟨mb,nb,FX,av,Dn,hb⟩:=hd;rw [hb.dr] at h1;simp at h1
  ·intro cs fr h1;obtain ⟨mb,nb,FX,av,Dn,hb⟩:=hd;rw [hb.dr] at h1;simp at h1
 ·by_cases h2:k=x.mb
  ·subst h2;obtain ⟨es,clock,h2,_⟩:=h.met.map;refine .inr ⟨fun j u hc=>absurd rfl (h.met.ne hc),?_,?_⟩
   ·intro cs fr e;rw [h2] at e;cases e
   ·intro cs fr e;rw [h2] at e;cases e
  ·by_cases h3:k=x.f
   ·subst h3;have hf:=h.cf;unfold B.au at hf;refine .inr ⟨fun j u hc=>?_,?_,?_⟩
    ·rw [cell_of_row w _ j _ _ _ hf] at hc;obtain ⟨h5,h6⟩:=Array.getElem?_eq_some_iff.1 hc;have:j=0:=by simp at h5;omega
     subst this;have h6:Value.nilIface=u:=h6;subst h6;exact ⟨(fun s e=>by cases e),(fun t x e=>by cases e)⟩
    ·intro cs fr e;rw [hf] at e;simp at e
    ·intro cs fr e;rw [hf] at e;simp at e
   ·by_cases h4:k=x.p
    ·subst h4;have hf:=h.row;unfold B.au at hf;obtain ⟨a,c,kL⟩:=h.ps.form;refine .inr ⟨fun j u hc=>?_,?_,?_⟩
     ·rw [cell_of_row w _ j _ _ _ hf] at hc;obtain ⟨h5,h6⟩:=Array.getElem?_eq_some_iff.1 hc;have:j=0:=by simp at h5;omega
      subst this;have h6:v=u:=h6;subst h6;rw [kL];exact ⟨(fun s e=>by cases e),(fun t x e=>by cases e)⟩
     ·intro cs fr e;rw [hf] at e;simp at e
     ·intro cs fr e;rw [hf] at e;simp at e
    ·by_cases h5:v.ownBlock=some k
     ·exact .inr (h.ps.odd h5)
     ·exact .inl (hb k hk h1 h2 h3 h4 h5)⟩
theorem Vs.go(h:Vs base A db F d w0 tb x lo w v acc M)(hm:Mv db F w w')(hv:Dv base A db F d w'):Vs base A db F d w0 tb x lo w' v acc M:=by
 have ho:=h.ord;have hd:=h.Tl;have dE:∀ b ∈ [x.m,x.f,x.e,x.t,x.v,x.p,x.mb],b≠db:=fun b hb=>by have:=ho b hb;omega
 exact h.keep hv (h.mv.trans hm) hm.size (fun k hk h1 _ _ _=>hm.one.block k (aq hk h.lo) h1) ((hm.one.block x.f h.cf.lt (dE _ (by simp))).trans h.cf) ((hm.one.block x.p h.row.lt (dE _ (by simp))).trans h.row) (h.ps.same fun g hg=>by
  have:=h.ps.dr hg;have:=ho x.p (by simp)
  exact hm.one.block g (by omega) (by omega)) (h.met.same (hm.one.block x.mb h.met.lt (dE _ (by simp)))) h.Dq
theorem Vs.below(h:Vs base A db F d w0 tb x lo w v acc M)(hb:Below w.heap.size w w'):Vs base A db F d w0 tb x lo w' v acc M:=h.go (Mv.of hb) (h.dv.below hb)
theorem Vs.meet(h:Vs base A db F d w0 tb x lo w v acc M)(iF:Dv base A db F d w0)(hm:Met w' x.mb M')(mT:M'.length<1099511627776)(hg:w.grownBy w' (some x.mb)):Vs base A db F d w0 tb x lo w' v acc M'∧cP w w':=by
 have ho:=h.ord;have o8:=h.lo;have pE:w.heap.size≤w'.heap.size:=hg.size;have dE:∀ k,k≠x.mb→some k≠some x.mb:=fun k hk e=>hk (Option.some.inj e)
 have hom:=ho x.mb (by simp)
 have nN:Below w0.heap.size w w':=⟨hg.os,hg.tape,hg.output,pE,fun k hk=>hg.block k (by omega) (dE k (by omega))⟩
 obtain ⟨GW,K0⟩:=h.dv.grown nN h.mv iF;refine ⟨h.keep GW K0 pE (fun k hk _ h2 _ _=>hg.block k (by omega) (dE k h2)) ((hg.block x.f h.cf.lt (dE _ (h.met.ne (h.cf.cell 0 (by simp))))).trans h.cf) ((hg.block x.p h.row.lt (dE _ (h.met.ne (h.row.cell 0 (by simp))))).trans h.row) (h.ps.same fun g GR=>?_) hm mT,h.cC pE fun k hk _ h2 _ _ _=>hg.block k hk (dE k h2)⟩
 have:=h.ps.dr GR;exact hg.block g this.2 (dE _ (by omega))
theorem Vs.nil(h:Vs base A db F d w0 tb x lo w v acc M)(iF:Dv base A db F d w0):Vs base A db F d w0 tb x lo (w.setCell ⟨x.f,0,none⟩ .nilIface) v acc M∧cP w (w.setCell ⟨x.f,0,none⟩ .nilIface):=by
 have ho:=h.ord;have o8:=h.lo;have dC:=bJ.set x.f 0 w .nilIface;have hof:=ho x.f (by simp)
 have nN:Below w0.heap.size w (w.setCell ⟨x.f,0,none⟩ .nilIface):=⟨dC.os,dC.tape,dC.output,dC.size,fun k hk=>dC.block k (by omega) (by omega)⟩
 obtain ⟨GW,K0⟩:=h.dv.grown nN h.mv iF;refine ⟨h.keep GW K0 dC.size (fun k hk _ _ h3 _=>dC.block k (by omega) h3) (qX h.cf _) ((dC.block x.p h.row.lt h.fp.symm).trans h.row) (h.ps.same fun g GR=>?_) (h.met.same (dC.block x.mb h.met.lt (fun e=>h.met.ne (h.cf.cell 0 (by simp)) e.symm))) h.Dq,h.cC dC.size fun k hk _ _ h3 _ _=>dC.block k hk h3⟩
 have:=h.ps.dr GR;exact dC.block g this.2 (by omega)
theorem Vs.push(h:Vs base A db F d w0 tb x lo w v acc M)(iF:Dv base A db F d w0)(p:Nat)(hn:acc.length≤1099511627776):∃ a' c' w',(Builtin.append_ #[69,69] 69 #[v,.slice (some ⟨w.heap.size,0,none⟩) 1 1]).run prog (w.alloc (.cells #[.int .i64 (p:Int)] 3)) = .ok (.slice a' (acc.length+1) c') w'∧w'.frozen? ⟨x.p,0,none⟩=false∧w'.cell? ⟨x.p,0,none⟩=some v∧Vs base A db F d w0 tb x lo (w'.setCell ⟨x.p,0,none⟩ (.slice a' (acc.length+1) c')) (.slice a' (acc.length+1) c') (acc++[p]) M∧cP w (w'.setCell ⟨x.p,0,none⟩ (.slice a' (acc.length+1) c')):=by
 have ho:=h.ord;have o8:=h.lo;obtain ⟨a',c',w',hr,j6,hg⟩:=uI.push lo v acc p w h.ps hn o8;have aL:=ai w (.cells #[.int .i64 (p:Int)] 3);have b7:(w.alloc (.cells #[.int .i64 (p:Int)] 3)).heap.size=w.heap.size+1:=by simp
 have pE:=hg.size;have O8:=ho x.p (by simp)
 have fJ:∀ b,b<lo→some b≠v.ownBlock:=fun b hb e=>by
  have:=(h.ps.dr e.symm).1;omega
 have PC:∀ k,k<w.heap.size→some k≠v.ownBlock→w'.heap[k]?=w.heap[k]?:=fun k hk h1=>(hg.block k (by omega) h1).trans (aL.block k hk)
 have bE:B.au w' x.p #[v] 69:=(PC x.p h.row.lt (fJ _ O8.2)).trans h.row;have dC:=bJ.set x.p 0 w' (.slice a' (acc.length+1) c');have jm:=dC.size;have xA:w.heap.size≤(w'.setCell ⟨x.p,0,none⟩ (.slice a' (acc.length+1) c')).heap.size:=by omega
 have df:∀ k,k<w.heap.size→k≠x.p→some k≠v.ownBlock→(w'.setCell ⟨x.p,0,none⟩ (.slice a' (acc.length+1) c')).heap[k]?=w.heap[k]?:=fun k hk h1 h2=>(dC.block k (by omega) h1).trans (PC k hk h2)
 have nN:Below w0.heap.size w (w'.setCell ⟨x.p,0,none⟩ (.slice a' (acc.length+1) c')):=⟨dC.os.trans (hg.os.trans aL.os),dC.tape.trans (hg.tape.trans aL.tape),dC.output.trans (hg.output.trans aL.output),xA,fun k hk=>df k (by omega) (by omega) (fJ k (by omega))⟩
 obtain ⟨GW,K0⟩:=h.dv.grown nN h.mv iF;have hof:=ho x.f (by simp)
 have hom:=ho x.mb (by simp)
 refine ⟨a',c',w',hr,by unfold B.au at bE;simp [World.frozen?,bE],bE.cell 0 (by simp),h.keep GW K0 xA (fun k hk _ _ _ h4=>df k (by omega) h4 (fJ k hk)) ((df x.f h.cf.lt h.fp (fJ _ hof.2)).trans h.cf) (qX bE _) (j6.same fun g GR=>?_) (h.met.same (df x.mb h.met.lt (fun e=>h.met.ne (h.row.cell 0 (by simp)) e.symm) (fJ _ hom.2))) h.Dq,h.cC xA fun k hk _ _ _ h4 h5=>df k hk h4 (fun e=>h5 e.symm)⟩
 have:=j6.dr GR;exact dC.block g this.2 (by omega)
theorem Vs.again{h:Nat}{p:C.Ch}{t:Nd h}(hg:Vs base A db F d w0 tb x lo w v acc M)(iF:Dv base A db F d w0)(hk:eh (cM d) w0 h p t)(lK:∀ i ∈ dB h t,i ∉ M)(mT:M.length+(dB h t).length<1099511627776):Calls prog 91 #[.map (some x.mb),p.val] w fun e w'=>e = .returned (.bool false)∧Vs base A db F d w0 tb x lo w' v acc (M++cY (ft h t))∧cP w w':=by
 obtain ⟨h1,h2⟩:=xo hk;have fJ:decide (ft h t ∈ M)=false:=by
  rw [decide_eq_false_iff_not];intro hm;have h3:=hg.met.ok _ hm;refine lK _ (Gd _ ?_) hm;unfold cY;rw [if_neg (by omega)]
  simp
 refine (rp p (ft h t) h1 h2 x.mb M w hg.met hg.Dq).mono ?_
 rintro e w' ⟨rfl,hm,As⟩;rw [IW] at hm;have hl:=IN (t:=t);obtain ⟨g1,g2⟩:=hg.meet iF hm (by rw [ae];omega) As
 exact ⟨by rw [fJ],g1,g2⟩
end
attribute [local go_sem ↓] Go.wp_at_zero Go.wp_at_succ
theorem sB{ops:Array Oper}{rest:List Oper}{o:Oper}{a:Act}{Q:Exit→Act→World→Prop}(w:World)(hg:o.guard=none)(t:TypeId)(x y:Operand)(ho:o.op = .call { callee:=.builtin .append,args:=#[x,y],argTypes:=#[t,t] })(yS:o.type=t)(vx vy:Value)(hx:a.eval x=vx)(hy:a.eval y=vy)(v:Value)(w':World)
  (bn:(Builtin.append_ #[t,t] t #[vx,vy]).run prog w = .ok v w') (hK:wpList prog ops Q rest (a.put o.dst v) w'):wpList prog ops Q (o::rest) a w:=by
 refine wpList_plain hg fun K' hK'=>?_
 unfold Oper.wp;simp [execOp,ho,resolve,invoke,builtin,hx,hy,yS,bn,Result.andThen]
 exact hK' _ _ hK
section
variable {base:Nat} {A:Nat→Addr} {db:Nat} {F:Nat→Prop} {d:S.V.bq} {w0:World} {tb:Nat} {x:Bv} {lo:Nat} {w:World} {v:Value} {acc M:List Nat}
theorem Cx(p:C.Ch)(i:Nat)(hi:SA p=(i:Int))(s:ByteArray)(lv:Int)(h:Vs base A db F d w0 tb x lo w v acc M)(iF:Dv base A db F d w0)(hn:acc.length≤1099511627776):Calls prog 66 #[p.val,.string s,.int .i64 lv,.pointer (some ⟨x.p,0,none⟩)] w fun e w'=>e = .returned (.tuple #[])∧(∃ v',Vs base A db F d w0 tb x lo w' v' (acc++cY i) M)∧cP w w':=by
 have HP:=ab (wP p w);rw [hi] at HP;obtain ⟨pt,px,iS⟩:=bM p;rw [iS] at HP ⊢;have HS:=ab h;have hpu:=h.push iF i hn;have kp:w.cell? ⟨x.p,0,none⟩=some v:=h.row.cell 0 (by simp)
 obtain ⟨va,vc,kL⟩:=h.ps.form;obtain ⟨a',c',w',bn,kfz,kp',hvs,haw⟩:=hpu;have rV:=ab bn;have mB:Hid ((∃ v',Vs base A db F d w0 tb x lo (w'.setCell ⟨x.p,0,none⟩ (.slice a' (acc.length+1) c')) v' (acc++[i]) M)∧cP w (w'.setCell ⟨x.p,0,none⟩ (.slice a' (acc.length+1) c'))):=⟨⟨_,hvs⟩,haw⟩;clear h iS hi iF hn hvs haw bn;by_cases h0:i=0
 ·subst h0;clear mB rV kfz kp';go_enter func66,ntmps66;go_wp2_with fail;refine HP.out.mono ?_
  rintro e w1 ⟨rfl,rfl⟩;go_wp2;go_end0
  exact ⟨rfl,⟨v,by rw [show cY 0=[] from rfl,List.append_nil];exact HS.out⟩,cP.refl _⟩
 ·have h1:((i:Int) != 0)=true:=by simp;omega
  have HO:Hid (cY i=[i]):=by show cY i=[i];unfold cY;rw [if_neg h0]
  subst kL;clear h0;go_enter func66,ntmps66;go_wp2_with fail;refine HP.out.mono ?_
  rintro e w1 ⟨rfl,rfl⟩;go_wp2_with (first | (at_builtin;refine sB _ rfl 69 _ _ rfl rfl _ _ rfl rfl _ _ rV.out ?_))
  go_end0
  exact ⟨rfl,by rw [HO.out];exact mB.out.1,mB.out.2⟩
end
attribute [local go_sem ↓] Go.wp_at_zero Go.wp_at_succ
section
variable {w0:World} {lo pb:Nat} {pv:Value} {P:List Nat} {tx:Nat} {w:World} {sv:Value} {Z Z1:List S.Sh}
theorem tU(b:Nat)(kd cn:Int)(body:ByteArray)(hP:pH w0 lo pb pv P tx w sv Z)(Fe:Calls prog 149 #[.pointer (some ⟨pb,0,none⟩),.pointer (some ⟨b,0,none⟩)] w fun e w'=>∃ Xg,e = .returned (.agg #[.int .i64 kd,.int .i64 0,.int .u64 0,.int .i64 cn,.string body])∧pH w0 lo pb pv P tx w' Xg Z1∧mx pb w sv w' Xg)(id:Nat)(hid:P[Z1.length]?=some id):Calls prog 112 #[.pointer (some ⟨pb,0,none⟩),.pointer (some ⟨b,0,none⟩)] w fun e w'=>∃ nZ,e = .returned (.int .i64 (id:Int))∧pH w0 lo pb pv P tx w' nZ (Z1++[⟨kd,id,tx,cn,body⟩])∧mx pb w sv w' nZ:=by
 have E1:=ab Fe;have HID:=ab hid;have rW:Hid (P.length≤1000000∧Z1.length<P.length):=⟨hP.pl,(List.getElem?_eq_some_iff.1 hid).1⟩;clear Fe hP hid;go_enter func112,ntmps112;go_wp2_with fail;refine E1.out.mono ?_
 rintro e w1 ⟨Xg,rfl,h1,DV⟩;obtain ⟨pa,pn,iS,Y0,YZ,Ra⟩:=h1.pg;have Fg:(Q.kE P).length=P.length:=by unfold Q.kE;rw [az]
 obtain ⟨pg,po,O6,Bp⟩:=Ra Z1.length (.int .i64 (id:Int)) (by unfold Q.kE;rw [aM,HID.out];rfl)
 subst O6;rw [Fg] at iS Y0;subst iS;obtain ⟨sa,sc,hsv⟩:=h1.sh.form;subst hsv;obtain ⟨K,hK⟩ : ∃ K,w1.heap.size=K:=⟨_,rfl⟩;obtain ⟨W1,gF⟩ : ∃ W1,w1.alloc (.cells #[.int .i64 kd,.int .i64 0,.int .u64 0,.int .i64 cn,.string body] 87)=W1:=⟨_,rfl⟩;have aL:Below w1.heap.size w1 W1:=gF▸ai w1 _;have rK:B.au W1 K #[.int .i64 kd,.int .i64 0,.int .u64 0,.int .i64 cn,.string body] 87:=by rw [← hK];exact gF▸B.au.new w1 _ _
 have h2:=h1.below aL;have n0:=h2.row.cell 0 (by simp)
 have n1:=h2.row.cell 1 (by simp)
 have n2:=h2.row.cell 2 (by simp)
 have B3:pb≠K:=by have:=h1.row.lt;omega
 have hgk:pg≠K:=by
  have:=World.block_lt_of_cell? w0 _ Bp;have:=h1.ew.size;have:pg<w0.heap.size:=by assumption
  omega
 have q0:W1.cell? ⟨pb,0,none⟩=some (.slice (some ⟨pg,po,none⟩) P.length pn):=n0;have q1:W1.cell? ⟨pb,1,none⟩=some (.int .u64 (tx:Int)):=n1;have q2:W1.cell? ⟨pb,2,none⟩=some (.slice sa Z1.length sc):=n2;have q3:W1.cell? ⟨pg,po+Z1.length,none⟩=some (.int .i64 (id:Int)):=(h2.ew.cell (p:=⟨pg,po+Z1.length,none⟩) (World.block_lt_of_cell? w0 _ Bp)).trans Bp;have c0:W1.cell? ⟨K,0,none⟩=some (.int .i64 kd):=rK.cell 0 (by simp)
 have c1:W1.cell? ⟨K,1,none⟩=some (.int .i64 0):=rK.cell 1 (by simp)
 have c2:W1.cell? ⟨K,2,none⟩=some (.int .u64 0):=rK.cell 2 (by simp)
 have c3:W1.cell? ⟨K,3,none⟩=some (.int .i64 cn):=rK.cell 3 (by simp)
 have c4:W1.cell? ⟨K,4,none⟩=some (.string body):=rK.cell 4 (by simp)
 have f1:=rK.free 1;have f2:=rK.free 2;have nK:(0:Int)≤(Z1.length:Int):=by omega
 have mG:(Z1.length:Int)<(P.length:Int):=by have:=rW.out.2;omega
 have HKW:Hid (w0.heap.size≤K):=by have:=h1.ew.size;show _≤_;omega
 have TX:Hid (w.heap.size≤K):=by have:=DV.size;show _≤_;omega
 have RD:Hid (pb<K∧lo≤K):=⟨by have:=h1.row.lt;omega,by have:=h1.lo;omega⟩
 have HKO:Hid (∀ g,(Value.slice sa Z1.length sc).ownBlock=some g→g<K):=fun g hg=>by have:=(h1.sh.dr hg).2;omega
 have H2:=ab h2;have HRK:=ab rK;have Hs:=ab (DV.trans (mx.below _ aL));clear h1 DV Ra YZ Fg n0 n1 n2 h2 rK aL E1 Bp Y0;go_wp2_with fail;go_region
 obtain ⟨W2,Lh⟩ : ∃ W2,(W1.setCell ⟨K,1,none⟩ (.int .i64 (id:Int))).setCell ⟨K,2,none⟩ (.int .u64 (tx:Int))=W2:=⟨_,rfl⟩;have tX:bJ K W1 W2:=Lh▸(bJ.set K 1 W1 _).trans (bJ.set K 2 _ _);have Vu:B.au W2 K #[.int .i64 kd,.int .i64 (id:Int),.int .u64 (tx:Int),.int .i64 cn,.string body] 87:=by
  have h9:=HRK.out;unfold B.au at h9 ⊢;rw [← Lh,setCell_eq_setRow W1 K 1 _ _ (0,0) _ h9];have h8:=setRow_heap W1 K _ ((#[.int .i64 kd,.int .i64 0,.int .u64 0,.int .i64 cn,.string body] : Array Value).setIfInBounds 1 (.int .i64 (id:Int))) _ (0,0) h9;rw [setCell_eq_setRow _ K 2 _ _ (0,0) _ h8];exact setRow_heap _ K _ _ _ (0,0) h8
 have h3:=H2.out;have acD:K<W1.heap.size:=HRK.out.lt;have dE:∀ k,k<K→W2.heap[k]?=W1.heap[k]?:=fun k hk=>tX.block k (by omega) (by omega)
 have hK1:=TX.out;have acL:pb<K:=RD.out.1;have YD:mx pb w sv W2 (.slice sa Z1.length sc):=by
  have h9:=Hs.out;exact ⟨ar h9.size tX.size,fun k hk h1 h2=>(dE k (by omega)).trans (h9.block k hk h1 h2),h9.own⟩
 have hP3:pH w0 lo pb (.slice (some ⟨pg,po,none⟩) P.length pn) P tx W2 (.slice sa Z1.length sc) Z1:=by
  have o8:=RD.out.2;refine ⟨⟨tX.os.trans h3.ew.os,tX.tape.trans h3.ew.tape,tX.output.trans h3.ew.output,ar h3.ew.size tX.size,fun k hk=>(dE k (by have:=HKW.out;omega)).trans (h3.ew.block k hk)⟩,(dE pb acL).trans h3.row,h3.sh.same fun g hg=>dE g (HKO.out g hg),h3.ord,ar h3.lo tX.size,h3.pg,h3.pl⟩
 have Pt:Below W2.heap.size W2 W2.drew.drew:=B.aO (B.aO (Below.refl _ _));obtain ⟨a',c',w',bn,kfz,kp,hPn,Z8⟩:=(hP3.below Pt).push ⟨kd,id,tx,cn,body⟩ (by have:=rW.out;omega)
 have Ut:(Builtin.append_ #[83,83] 83 #[.slice sa Z1.length sc,.slice (some ⟨W2.heap.size,0,none⟩) 1 1]).run prog (W2.alloc (.cells #[.int .i64 kd,.int .i64 (id:Int),.int .u64 (tx:Int),.int .i64 cn,.string body] 87)).drew.drew = .ok (.slice a' (Z1.length+1) c') w':=bn;have hPt:=(mx.below (.slice sa Z1.length sc) Pt).trans Z8;have rV:=ab Ut;have mB:Hid (pH w0 lo pb (.slice (some ⟨pg,po,none⟩) P.length pn) P tx (w'.setCell ⟨pb,2,none⟩ (.slice a' (Z1.length+1) c')) (.slice a' (Z1.length+1) c') (Z1++[⟨kd,id,tx,cn,body⟩])∧mx pb w sv (w'.setCell ⟨pb,2,none⟩ (.slice a' (Z1.length+1) c')) (.slice a' (Z1.length+1) c')):=⟨hPn,YD.trans hPt⟩;have d0:W2.cell? ⟨K,0,none⟩=some (.int .i64 kd):=Vu.cell 0 (by simp)
 have d1:W2.cell? ⟨K,1,none⟩=some (.int .i64 (id:Int)):=Vu.cell 1 (by simp)
 have d2:W2.cell? ⟨K,2,none⟩=some (.int .u64 (tx:Int)):=Vu.cell 2 (by simp)
 have d3:W2.cell? ⟨K,3,none⟩=some (.int .i64 cn):=Vu.cell 3 (by simp)
 have d4:W2.cell? ⟨K,4,none⟩=some (.string body):=Vu.cell 4 (by simp)
 have e2:W2.cell? ⟨pb,2,none⟩=some (.slice sa Z1.length sc):=hP3.row.cell 2 (by simp)
 have e3:(W2.alloc (.cells #[.int .i64 kd,.int .i64 (id:Int),.int .u64 (tx:Int),.int .i64 cn,.string body] 87)).cell? ⟨pb,2,none⟩=some (.slice sa Z1.length sc):=((ai W2 _).cell (p:=⟨pb,2,none⟩) (World.block_lt_of_cell? W2 _ e2)).trans e2;have qL:(w'.setCell ⟨pb,2,none⟩ (.slice a' (Z1.length+1) c')).cell? ⟨K,1,none⟩=some (.int .i64 (id:Int)):=bB (hPt.block K Vu.lt (by omega) (fun e=>by have:=HKO.out K e;omega)) d1
 clear tX Vu h3 acD dE hK1 YD hP3 bn Ut hPn hPt Z8 Pt q0 q1 q2 q3 c0 c1 c2 c3 c4 f1 f2 gF Hs H2 HRK nK mG;go_wp2_with fail;go_region_law (first | (refine kj 83 rfl (.tmp 30) (.tmp 32) rfl rfl _ _ rfl rfl _ _ rV.out ?_))
 all_goals
  go_wp2;go_ret;exact ⟨_,rfl,mB.out.1,mB.out.2⟩
end
theorem sP{α β γ:Type}(g:α→Nat→β × List γ):∀ (cs:List α) (c:α) (k:Nat),bY g (cs++[c]) k=((bY g cs k).1++[(g c (k+(bY g cs k).2.length)).1],(bY g cs k).2++(g c (k+(bY g cs k).2.length)).2)
 | [],c,k=>by simp [bY]
 | d::cs,c,k=>by
  have:=sP g cs c (k+(g d k).2.length);simp only [List.cons_append,bY,this,ae,ax,dJ]
theorem DN{α β γ:Type}(g:α→Nat→β × List γ):∀ (xs bs:List α) (k:Nat),bY g (xs++bs) k=((bY g xs k).1++(bY g bs (k+(bY g xs k).2.length)).1,(bY g xs k).2++(bY g bs (k+(bY g xs k).2.length)).2)
 | [],bs,k=>by simp [bY]
 | d::xs,bs,k=>by
  have:=DN g xs bs (k+(g d k).2.length);simp only [List.cons_append,bY,this,ae,ax,dJ]
theorem KO{α β γ:Type}(g:α→Nat→β × List γ)(cs:List α)(k i:Nat):(bY g (cs.take i) k).1=(bY g cs k).1.take i:=by
 by_cases h:i≤cs.length
 ·conv=>rhs;rw [← aH i cs,DN]
  exact (List.take_left' (by rw [ik,ag];omega)).symm
 ·have e:cs.take i=cs:=al (by omega)
  rw [e];exact (al (by rw [ik];omega)).symm
theorem I1{α β γ:Type}(g:α→Nat→β × List γ)(cs:List α)(k i:Nat)(c:α)(hc:cs[i]?=some c):(bY g cs k).1[i]?=some (g c (k+(bY g (cs.take i) k).2.length)).1∧(bY g (cs.take (i+1)) k).2=(bY g (cs.take i) k).2++(g c (k+(bY g (cs.take i) k).2.length)).2:=by
 have hi:=(List.getElem?_eq_some_iff.1 hc).1;have e:cs.take (i+1)=cs.take i++[c]:=by rw [gm,hc];rfl
 have h1:=KO g cs k (i+1);rw [e,sP] at h1;refine ⟨?_,by rw [e,sP]⟩
 have h2:((bY g cs k).1.take (i+1))[i]?=(bY g cs k).1[i]?:=by rw [List.getElem?_take_of_lt (by omega)]
 rw [← h2,← h1];simp only;rw [a6 (by rw [ik,ag];omega),ik,ag,a7 (by omega),dL]
 rfl
theorem wW{h:Nat}{cs:List (Nd h)}{i:Nat}{c:Nd h}(hn:(cs.flatMap (dB h)).Nodup)(hc:cs[i]?=some c):(dB h c).Nodup:=by
 obtain ⟨hi,hv⟩:=List.getElem?_eq_some_iff.1 hc;have hm:c ∈ cs:=hv▸aG hi;obtain ⟨a,b,rfl⟩:=List.append_of_mem hm;rw [aR,List.flatMap_cons] at hn;exact hn.sublist ((List.sublist_append_left _ _).trans (dz _ _))
def qi(a b:List B.Lk)(i:Nat):List B.Lk:=a.take i++b.drop i
theorem Oh{a b:List B.Lk}{i:Nat}{x:B.Lk}(hl:a.length=b.length)(hx:a[i]?=some x):(qi a b i).set i x=qi a b (i+1):=by
 obtain ⟨hi,hv⟩:=List.getElem?_eq_some_iff.1 hx;unfold qi;rw [bV _ _ (by rw [ag];omega),ag,a7 (by omega),dL,aZ (by omega:i<b.length),List.set_cons_zero,gm,hx]
 simp
theorem Oj{a b:List B.Lk}{i:Nat}(hl:a.length=b.length)(hi:i<b.length):(qi a b i)[i]?=some b[i]:=by
 unfold qi;rw [a6 (by rw [ag];omega),ag,a7 (by omega),dL,dk,Nat.add_zero,af hi]
theorem Oi{a b:List B.Lk}{i:Nat}(hl:a.length=b.length)(hi:i≤b.length):(qi a b i).length=b.length:=by
 unfold qi;rw [ae,ag,ao];omega
theorem Ol{a b:List B.Lk}{i:Nat}(hl:a.length=b.length)(hi:b.length≤i):qi a b i=a:=by
 unfold qi;rw [dy hi,List.append_nil,al (by omega)]
theorem Dz(x:Int):∀ (l:List B.Lk) (k:Nat) (q:B.Lk),l[k]?=some q→(B.a8 l).set (k*2+1) (.int .i64 x)=B.a8 (l.set k (q.1,x))
 | [],k,q,h=>by simp at h
 | p::l,0,q,h=>by
  cases h;rw [List.set_cons_zero,B.eu,B.eu];rfl
 | p::l,k+1,q,h=>by
  rw [List.set_cons_succ,B.eu,B.eu,← Dz x l k q h,show (k+1)*2+1=k*2+1+1+1 by omega]
  simp only [List.set_cons_succ]
theorem KI{w:World}{base g n cap:Nat}{l:List B.Lk}(h:B.b6 w base (.slice (some ⟨g,0,none⟩) n cap) l)(k:Nat)(q:B.Lk)(hq:l[k]?=some q)(x:Int):B.b6 (w.setCell ⟨g,k*2+1,none⟩ (.int .i64 x)) base (.slice (some ⟨g,0,none⟩) n cap) (l.set k (q.1,x)):=by
 obtain rfl:=h.cnt;unfold B.b6 at h;have:=(World.ownsRow.stored h (k*2+1) (.int .i64 x)).1;rw [Dz x l k q hq] at this;unfold B.b6;rw [cx];exact this
theorem ru{w w':World}{base:Nat}{v:Value}{l:List B.Lk}(h:B.b6 w base v l)(hb:∀ g,v.ownBlock=some g→w'.heap[g]?=w.heap[g]?):B.b6 w' base v l:=by
 refine ⟨h.1,?_⟩;rcases h.2 with h' | ⟨g,cap,cur,h',h1,h2,hr⟩
 ·exact .inl h'
 ·exact .inr ⟨g,cap,cur,h',h1,(hb g (by rw [h'];rfl)).trans h2,hr⟩
theorem St{h:Nat}{ks:List ByteArray}{cs:List (Nd h)}{i:Nat}{k:ByteArray}{c:Nd h}(hk:ks[i]?=some k)(hc:cs[i+1]?=some c):(qj ks cs)[i]?=some (k,(ft h c:Int)):=by
 unfold qj;rw [List.getElem?_zip_eq_some];refine ⟨hk,?_⟩;rw [aM,List.getElem?_tail,hc];rfl
def fe(P:List Nat)(j:Nat):Nat:=P.getD j 2
def TN(PG:Int→Option PD)(w0:World)(lo pb:Nat)(pv:Value)(P:List Nat)(tx:Nat)(h:Nat):Prop :=
 ∀ (p:C.Ch) (t:Nd h) (w:World) (sv:Value) (Z:List S.Sh),eh PG w0 h p t→QE h t→pH w0 lo pb pv P tx w sv Z→Z.length+iX h t≤P.length→(dB h (aW (fe P) h t Z.length).1).Nodup →
  Calls prog 72 #[.pointer (some ⟨pb,0,none⟩),p.val] w fun e w'=>∃ nZ,e = .returned (.int .i64 (ft h (aW (fe P) h t Z.length).1:Int))∧pH w0 lo pb pv P tx w' nZ (Z++(aW (fe P) h t Z.length).2.map (jT tx))∧mx pb w sv w' nZ
structure zu(w0:World)(lo pb:Nat)(pv:Value)(P:List Nat)(tx:Nat){h:Nat}(cs:List (Nd h))(k0:Nat)(a l:List B.Lk)(f:Int)(w:World)(sv:Value)(Z:List S.Sh)(H K ug uc:Nat)(i j:Nat)(wx:World)(sx:Value):Prop where
 yv:pH w0 lo pb pv P tx wx sx (Z++(bY (aW (fe P) h) (cs.take j) k0).2.map (jT tx))
 MB:mx pb w sv wx sx
 row:B.au wx K #[.int .i64 f,.slice (some ⟨ug,0,none⟩) l.length uc] 150
 lk:B.b6 wx w.heap.size (.slice (some ⟨ug,0,none⟩) l.length uc) (qi a l i)
 res:B.au wx H #[.int .i64 0,.slice none 0 0] 150
 ne:K≠ug∧H≠K∧H≠ug
 nb:K≠pb∧H≠pb∧ug≠pb
 no:∀ b ∈ [K,H,ug],sx.ownBlock≠some b
 ge:w.heap.size≤K∧w.heap.size≤H
section
variable {PG:Int→Option PD} {w0:World} {lo pb:Nat} {pv:Value} {P:List Nat} {tx:Nat} {h:Nat} {cs:List (Nd h)} {k0:Nat} {a l:List B.Lk} {f:Int} {w:World} {sv:Value} {Z:List S.Sh} {H K ug uc:Nat} {i j:Nat} {wx:World} {sx:Value}
theorem zu.Na(hB:zu w0 lo pb pv P tx cs k0 a l f w sv Z H K ug uc i j wx sx):ug<wx.heap.size:=(hB.lk.dr ug rfl).2
theorem zu.move{wy:World}{sy:Value}{j':Nat}(hB:zu w0 lo pb pv P tx cs k0 a l f w sv Z H K ug uc i j wx sx)(ht:mx pb wx sx wy sy)(hp:pH w0 lo pb pv P tx wy sy (Z++(bY (aW (fe P) h) (cs.take j') k0).2.map (jT tx))):zu w0 lo pb pv P tx cs k0 a l f w sv Z H K ug uc i j' wy sy:=by
 have hug:=hB.Na;have hK:=hB.row.lt;have hH:=hB.res.lt;refine ⟨hp,hB.MB.trans ht,(ht.block K hK hB.nb.1 (hB.no K (by simp))).trans hB.row,ru hB.lk fun g hg=>?_,(ht.block H hH hB.nb.2.1 (hB.no H (by simp))).trans hB.res,hB.ne,hB.nb,fun b hb e=>?_,hB.ge⟩
 ·have e:ug=g:=by simpa [Value.ownBlock] using hg
  subst e;exact ht.block ug hug hB.nb.2.2 (hB.no ug (by simp))
 ·rcases ht.own b e with e' | e'
  ·exact hB.no b hb e'
  ·simp only [dK,dx,or_false] at hb;omega
theorem zu.below{wy:World}(hB:zu w0 lo pb pv P tx cs k0 a l f w sv Z H K ug uc i j wx sx)(hb:Below wx.heap.size wx wy):zu w0 lo pb pv P tx cs k0 a l f w sv Z H K ug uc i j wy sx:=hB.move (mx.below _ hb) (hB.yv.below hb)
theorem zu.call{c:Nd h}{q:C.Ch}(IH:TN PG w0 lo pb pv P tx h)(Rk:k0=Z.length)(jo:((bY (aW (fe P) h) cs k0).1.flatMap (dB h)).Nodup)(xK:k0+(cs.map (iX h)).sum≤P.length)(hB:zu w0 lo pb pv P tx cs k0 a l f w sv Z H K ug uc i j wx sx)(hc:cs[j]?=some c)(hk:eh PG w0 h q c)(ho:QE h c):Calls prog 72 #[.pointer (some ⟨pb,0,none⟩),q.val] wx fun e w'=>∃ nZ c',(bY (aW (fe P) h) cs k0).1[j]?=some c'∧e = .returned (.int .i64 (ft h c':Int))∧zu w0 lo pb pv P tx cs k0 a l f w sv Z H K ug uc i (j+1) w' nZ:=by
 obtain ⟨h1,h2⟩:=I1 (aW (fe P) h) cs k0 j c hc;have hlen:(Z++(bY (aW (fe P) h) (cs.take j) k0).2.map (jT tx)).length=k0+(bY (aW (fe P) h) (cs.take j) k0).2.length:=by rw [ae,az,Rk]
 have KV:(bY (aW (fe P) h) (cs.take j) k0).2.length+iX h c≤(cs.map (iX h)).sum:=by
  rw [rB (oX h),jZ];have e1:=vX (l:=cs.map (iX h)) (i:=j) (x:=iX h c) (by rw [aM,hc];rfl)
  have e2:=lx (cs.map (iX h)) (j+1);omega
 refine (IH q c wx sx _ hk ho hB.yv (by rw [hlen];omega) (by rw [hlen];exact wW jo h1)).mono ?_
 rintro e w' ⟨nZ,rfl,g1,g2⟩;rw [hlen] at g1 ⊢;refine ⟨nZ,_,h1,rfl,hB.move g2 ?_⟩;rw [h2,bt,← ax];exact g1
theorem zu.put{ks:List ByteArray}{c':Nd h}(HW:w0.heap.size≤w.heap.size)(hB:zu w0 lo pb pv P tx cs k0 a l f w sv Z H K ug uc i j wx sx)(ju:l.map (·.1)=ks)(ha:a=qj ks (bY (aW (fe P) h) cs k0).1)(Fm:a.length=l.length)(hi:i<l.length)(hc:(bY (aW (fe P) h) cs k0).1[i+1]?=some c'):(∃ u,wx.cell? ⟨ug,i*2+1,none⟩=some u)∧wx.frozen? ⟨ug,i*2+1,none⟩=false∧zu w0 lo pb pv P tx cs k0 a l f w sv Z H K ug uc (i+1) j (wx.setCell ⟨ug,i*2+1,none⟩ (.int .i64 (ft h c':Int))) sx:=by
 have Fc:=hB.lk.spot i (by rw [Oi Fm (by omega)];exact hi)
 have Xw:=Oj (a:=a) Fm hi;have ac1:ks[i]?=some l[i].1:=by rw [← ju,aM,af hi];rfl
 have Z2:a[i]?=some (l[i].1,(ft h c':Int)):=by rw [ha];exact St ac1 hc
 have mf:=KI hB.lk i l[i] Xw (ft h c':Int);rw [Oh Fm Z2] at mf;have dC:=bJ.set ug (i*2+1) wx (.int .i64 (ft h c':Int));have hug:=hB.Na;have ahJ:w.heap.size≤ug:=(hB.lk.dr ug rfl).1;have acI:mx pb w sv (wx.setCell ⟨ug,i*2+1,none⟩ (.int .i64 (ft h c':Int))) sx:=by
  have h9:=hB.MB;exact ⟨ar h9.size dC.size,fun k hk h1 h2=>(dC.block k (aq hk h9.size) (by omega)).trans (h9.block k hk h1 h2),h9.own⟩
 refine ⟨Fc.2.1,Fc.2.2.2,⟨?_,acI,(dC.block K hB.row.lt hB.ne.1).trans hB.row,mf,(dC.block H hB.res.lt hB.ne.2.2).trans hB.res,hB.ne,hB.nb,hB.no,hB.ge⟩⟩;have h3:=hB.yv;exact ⟨⟨dC.os.trans h3.ew.os,dC.tape.trans h3.ew.tape,dC.output.trans h3.ew.output,ar h3.ew.size dC.size,fun k hk=>(dC.block k (aq hk h3.ew.size) (by omega)).trans (h3.ew.block k hk)⟩,(dC.block pb h3.row.lt (fun e=>hB.nb.2.2 e.symm)).trans h3.row,h3.sh.same fun g hg=>dC.block g (h3.sh.dr hg).2 (fun e=>hB.no ug (by simp) (e▸hg)),h3.ord,ar h3.lo dC.size,h3.pg,h3.pl⟩
end
structure sk(w0:World)(lo pb:Nat)(pv:Value)(P:List Nat)(tx:Nat)(l:List B.Lk)(w:World)(sv:Value)(H:Nat)(wx:World)(sx:Value)(Zc:List S.Sh)(kk:Option Nat)(uu:Option (Nat × Nat)):Prop where
 yv:pH w0 lo pb pv P tx wx sx Zc
 MB:mx pb w sv wx sx
 res:B.au wx H #[.int .i64 0,.slice none 0 0] 150
 Bw:w.heap.size≤H∧H≠pb∧sx.ownBlock≠some H
 kr:∀ K,kk=some K→B.au wx K #[.int .i64 0,.slice none 0 0] 150∧w.heap.size≤K∧K≠pb∧sx.ownBlock≠some K∧H≠K
 ur:∀ g c,uu=some (g,c)→B.b6 wx w.heap.size (.slice (some ⟨g,0,none⟩) l.length c) l∧g≠pb∧sx.ownBlock≠some g∧H≠g
 ku:∀ K g c,kk=some K→uu=some (g,c)→K≠g
section
variable {w0:World} {lo pb:Nat} {pv:Value} {P:List Nat} {tx:Nat} {l:List B.Lk} {w:World} {sv:Value} {H:Nat} {wx wy:World} {sx sy:Value} {Zc Zd:List S.Sh} {kk:Option Nat} {uu:Option (Nat × Nat)}
theorem sk.move(h:sk w0 lo pb pv P tx l w sv H wx sx Zc kk uu)(ht:mx pb wx sx wy sy)(hp:pH w0 lo pb pv P tx wy sy Zd):sk w0 lo pb pv P tx l w sv H wy sy Zd kk uu:=by
 have hH:=h.res.lt;have fJ:∀ b,b<wx.heap.size→sx.ownBlock≠some b→sy.ownBlock≠some b:=fun b hb h1 e=>by
  rcases ht.own b e with e' | e'
  ·exact h1 e'
  ·omega
 refine ⟨hp,h.MB.trans ht,(ht.block H hH h.Bw.2.1 h.Bw.2.2).trans h.res,⟨h.Bw.1,h.Bw.2.1,fJ H hH h.Bw.2.2⟩,fun K hK=>?_,fun g c hu=>?_,h.ku⟩
 ·obtain ⟨h1,h2,h3,h4,h5⟩:=h.kr K hK;exact ⟨(ht.block K h1.lt h3 h4).trans h1,h2,h3,fJ K h1.lt h4,h5⟩
 ·obtain ⟨h1,h2,h3,h4⟩:=h.ur g c hu;have hg:=(h1.dr g rfl).2;refine ⟨ru h1 fun g' zb=>?_,h2,fJ g hg h3,h4⟩
  have e:g=g':=by simpa [Value.ownBlock] using zb
  subst e;exact ht.block g hg h2 h3
theorem sk.below(h:sk w0 lo pb pv P tx l w sv H wx sx Zc kk uu)(hb:Below wx.heap.size wx wy):sk w0 lo pb pv P tx l w sv H wy sx Zc kk uu:=h.move (mx.below _ hb) (h.yv.below hb)
theorem sk.drew(h:sk w0 lo pb pv P tx l w sv H wx sx Zc kk uu):sk w0 lo pb pv P tx l w sv H wx.drew sx Zc kk uu:=h.below (B.aO (Below.refl _ _))
theorem sk.alloc(h:sk w0 lo pb pv P tx l w sv H wx sx Zc none uu):sk w0 lo pb pv P tx l w sv H (wx.alloc (.cells #[.int .i64 0,.slice none 0 0] 150)) sx Zc (some wx.heap.size) uu:=by
 have hq:=h.below (ai wx (.cells #[.int .i64 0,.slice none 0 0] 150));refine ⟨hq.yv,hq.MB,hq.res,hq.Bw,fun K hK=>?_,hq.ur,fun K g c hK hu e=>?_⟩
 ·cases hK;have h1:=h.MB.size;have h2:=h.yv.row.lt;have h3:=h.res.lt;exact ⟨B.au.new wx _ _,h1,by omega,fun e=>by have:=(h.yv.sh.dr e).2;omega,by omega⟩
 ·cases hK;have:=((h.ur g c hu).1.dr g rfl).2;omega
theorem sk.clone{g c:Nat}(h:sk w0 lo pb pv P tx l w sv H wx sx Zc kk none)(ho:B.b6 wy wx.heap.size (.slice (some ⟨g,0,none⟩) l.length c) l)(hb:Below wx.heap.size wx wy):sk w0 lo pb pv P tx l w sv H wy sx Zc kk (some (g,c)):=by
 have hq:=h.below hb;have hg:=(ho.dr g rfl).1;have h1:=h.MB.size;refine ⟨hq.yv,hq.MB,hq.res,hq.Bw,hq.kr,fun g' c' hu=>?_,fun K g' c' hK hu e=>?_⟩
 ·cases hu;have h2:=h.yv.row.lt;have h3:=h.res.lt;exact ⟨ho.mono h1,by omega,fun e=>by have:=(h.yv.sh.dr e).2;omega,by omega⟩
 ·cases hu;have:=(h.kr K hK).1.lt;omega
theorem sk.done{h:Nat}{cs:List (Nd h)}{k0:Nat}{a:List B.Lk}{f:Int}{Z:List S.Sh}{K g c:Nat}(hq:sk w0 lo pb pv P tx l w sv H wx sx (Z++(bY (aW (fe P) h) (cs.take 1) k0).2.map (jT tx)) (some K) (some (g,c)))(hw0:w0.heap.size≤w.heap.size):zu w0 lo pb pv P tx cs k0 a l f w sv Z H K g c 0 1 ((wx.setCell ⟨K,0,none⟩ (.int .i64 f)).setCell ⟨K,1,none⟩ (.slice (some ⟨g,0,none⟩) l.length c)) sx:=by
 obtain ⟨k1,k2,k3,k4,k5⟩:=hq.kr K rfl;obtain ⟨u1,u2,u3,u4⟩:=hq.ur g c rfl;have hkg:=hq.ku K g c rfl rfl;have dC:=(bJ.set K 0 wx (.int .i64 f)).trans (bJ.set K 1 (wx.setCell ⟨K,0,none⟩ (.int .i64 f)) (.slice (some ⟨g,0,none⟩) l.length c));have h3:=hq.yv;have hH:=hq.Bw;refine ⟨⟨⟨dC.os.trans h3.ew.os,dC.tape.trans h3.ew.tape,dC.output.trans h3.ew.output,ar h3.ew.size dC.size,fun k hk=>(dC.block k (aq hk h3.ew.size) (by omega)).trans (h3.ew.block k hk)⟩,(dC.block pb h3.row.lt (fun e=>k3 e.symm)).trans h3.row,h3.sh.same fun g' zb=>dC.block g' (h3.sh.dr zb).2 (fun e=>k4 (e▸zb)),h3.ord,ar h3.lo dC.size,h3.pg,h3.pl⟩,?_,B.au.two k1 _ _,?_,(dC.block H hq.res.lt k5).trans hq.res,⟨hkg,k5,u4⟩,⟨k3,hH.2.1,u2⟩,fun b hb=>?_,k2,hH.1⟩
 ·have h9:=hq.MB;exact ⟨ar h9.size dC.size,fun k hk h1 h2=>(dC.block k (aq hk h9.size) (by omega)).trans (h9.block k hk h1 h2),h9.own⟩
 ·have e:qi a l 0=l:=by simp [qi]
  rw [e];refine ru u1 fun g' zb=>?_
  have e:g=g':=by simpa [Value.ownBlock] using zb
  subst e;exact dC.block g (u1.dr g rfl).2 (fun e=>hkg e.symm)
 ·simp only [dK,dx,or_false] at hb;rcases hb with rfl | rfl | rfl
  ·exact k4
  ·exact hH.2.2
  ·exact u3
theorem zu.fin{h:Nat}{cs:List (Nd h)}{k0:Nat}{a:List B.Lk}{f:Int}{Z:List S.Sh}{K g c i j:Nat}(hB:zu w0 lo pb pv P tx cs k0 a l f w sv Z H K g c i j wx sx)(hw0:w0.heap.size≤w.heap.size)(x y:Value):B.di ((wx.setCell ⟨H,0,none⟩ x).setCell ⟨H,1,none⟩ y) (.slice (some ⟨g,0,none⟩) l.length c) (qi a l i)∧pH w0 lo pb pv P tx ((wx.setCell ⟨H,0,none⟩ x).setCell ⟨H,1,none⟩ y) sx (Z++(bY (aW (fe P) h) (cs.take j) k0).2.map (jT tx))∧mx pb w sv ((wx.setCell ⟨H,0,none⟩ x).setCell ⟨H,1,none⟩ y) sx:=by
 have dC:=(bJ.set H 0 wx x).trans (bJ.set H 1 (wx.setCell ⟨H,0,none⟩ x) y);have h3:=hB.yv;have Bw:=hB.ge;refine ⟨(ru hB.lk fun g' zb=>?_).at,⟨⟨dC.os.trans h3.ew.os,dC.tape.trans h3.ew.tape,dC.output.trans h3.ew.output,ar h3.ew.size dC.size,fun k hk=>(dC.block k (aq hk h3.ew.size) (by omega)).trans (h3.ew.block k hk)⟩,(dC.block pb h3.row.lt (fun e=>hB.nb.2.1 e.symm)).trans h3.row,h3.sh.same fun g' zb=>dC.block g' (h3.sh.dr zb).2 (fun e=>hB.no H (by simp) (e▸zb)),h3.ord,ar h3.lo dC.size,h3.pg,h3.pl⟩,?_⟩
 ·have e:g=g':=by simpa [Value.ownBlock] using zb
  subst e;exact dC.block g hB.Na (fun e=>hB.ne.2.2 e.symm)
 ·have h9:=hB.MB;exact ⟨ar h9.size dC.size,fun k hk h1 h2=>(dC.block k (aq hk h9.size) (by omega)).trans (h9.block k hk h1 h2),h9.own⟩
theorem sk.UP{h:Nat}{cs:List (Nd h)}{k0:Nat}{a:List B.Lk}{f:Int}{Z:List S.Sh}{g c:Nat}(hq:sk w0 lo pb pv P tx l w sv H wx sx (Z++(bY (aW (fe P) h) (cs.take 1) k0).2.map (jT tx)) none (some (g,c))):zu w0 lo pb pv P tx cs k0 a l f w sv Z H wx.heap.size g c 0 1 (wx.alloc (.cells #[.int .i64 f,.slice (some ⟨g,0,none⟩) l.length c] 150)) sx:=by
 have hb:=hq.below (ai wx (.cells #[.int .i64 f,.slice (some ⟨g,0,none⟩) l.length c] 150));obtain ⟨u1,u2,u3,u4⟩:=hb.ur g c rfl;have hg:=((hq.ur g c rfl).1.dr g rfl).2;have h1:=hq.MB.size;have h2:=hq.yv.row.lt;have h3:=hq.res.lt;have hH:=hb.Bw;have hnk:sx.ownBlock≠some wx.heap.size:=fun e=>by have:=(hq.yv.sh.dr e).2;omega
 refine ⟨hb.yv,hb.MB,B.au.new wx _ _,?_,hb.res,⟨by omega,by omega,u4⟩,⟨by omega,hH.2.1,u2⟩,fun b MI=>?_,h1,hH.1⟩
 ·have e:qi a l 0=l:=by simp [qi]
  rw [e];exact u1
 ·simp only [dK,dx,or_false] at MI;rcases MI with rfl | rfl | rfl
  ·exact hnk
  ·exact hH.2.2
  ·exact u3
end
attribute [local go_sem ↓] Go.wp_at_zero Go.wp_at_succ
section
variable {base:Nat} {A:Nat→Addr} {db:Nat} {F:Nat→Prop} {d:S.V.bq} {w0:World} {tb:Nat} {x:Bx} {fr en:ByteArray} {lim lo:Nat}
def JB(base:Nat)(A:Nat→Addr)(db:Nat)(F:Nat→Prop)(d:S.V.bq)(w0:World)(tb:Nat)(x:Bx)(fr en:ByteArray)(lim lo:Nat)(h:Nat):Prop :=
 ∀ (p:C.Ch) (t:Nd h) (dp:Nat) (w:World) (v:Value) (acc:List Pr) (M:List Nat),eh (cM d) w0 h p t→jl ⟨h,t⟩→Gs base A db F d w0 tb x fr en lim lo w v acc M→dp+h≤64→(acc.length+(flat h t).length)*32≤140737488355328→(dB h t).Nodup→(∀ i ∈ dB h t,i ∉ M)→M.length+(dB h t).length<1099511627776 →
  Calls prog 90 #[p.val,.int .i64 (dp:Int),.pointer (some ⟨x.m,0,none⟩),.pointer (some ⟨x.f,0,none⟩),.pointer (some ⟨x.t,0,none⟩),.pointer (some ⟨x.fr,0,none⟩),.pointer (some ⟨x.en,0,none⟩),.pointer (some ⟨x.p,0,none⟩),.pointer (some ⟨x.l,0,none⟩),.pointer (some ⟨x.g,0,none⟩)] w
   (E6 base A db F d w0 tb x fr en lim lo w v M (dB h t) (fo fr en lim h t acc))
structure Ia(base:Nat)(A:Nat→Addr)(db:Nat)(F:Nat→Prop)(d:S.V.bq)(w0:World)(tb:Nat)(x:Bx)(fr en:ByteArray)(lim lo:Nat){h:Nat}(t:Nd (h+1))(w:World)(v:Value)(acc:List Pr)(M:List Nat)(b:Nat)(n:SN)(pv lv cv:Value)(k:Nat)(wr:World)(vk:Value)(ak:List Pr)(Mk:List Nat):Prop where
 gs:Gs base A db F d w0 tb x fr en lim lo wr vk ak Mk
 gth:vJ db x.p x.mb w v wr vk
 br:Br wr b n pv lv cv
 room:ak.length+((t.2.2.drop k).flatMap (flat h)).length≤acc.length+(flat (h+1) t).length
 mem:∀ i ∈ Mk,i ∈ M∨i ∈ cY t.1++(t.2.2.take k).flatMap (dB h)
 len:Mk.length≤M.length+(cY t.1++(t.2.2.take k).flatMap (dB h)).length
variable {h:Nat} {t:Nd (h+1)} {w:World} {v:Value} {acc:List Pr} {M:List Nat} {b:Nat} {n:SN} {pv lv cv:Value} {k:Nat} {wr:World} {vk:Value} {ak:List Pr} {Mk:List Nat}
theorem rh(k:Nat):(cY t.1++(t.2.2.take k).flatMap (dB h)).Sublist (dB (h+1) t):=List.Sublist.append_left (IF k) _
theorem Ia.below{W:World}(hl:Ia base A db F d w0 tb x fr en lim lo t w v acc M b n pv lv cv k wr vk ak Mk)(hb:Below wr.heap.size wr W):Ia base A db F d w0 tb x fr en lim lo t w v acc M b n pv lv cv k W vk ak Mk :=
 ⟨hl.gs.below hb,hl.gth.trans (vJ.below vk hb),⟨hl.br.row.below hb,hl.br.a8.below hb,hl.br.kids.below hb⟩,hl.room,hl.mem,hl.len⟩
theorem Ia.out{e:Bool}(hl:Ia base A db F d w0 tb x fr en lim lo t w v acc M b n pv lv cv k wr vk ak Mk)(hr:fo fr en lim (h+1) t acc=(ak,e)):E6 base A db F d w0 tb x fr en lim lo w v M (dB (h+1) t) (fo fr en lim (h+1) t acc) (.returned (.bool e)) wr:=by
 refine ⟨vk,Mk,by rw [hr],by rw [hr];exact hl.gs,hl.gth,fun i hi=>(hl.mem i hi).imp id fun h=>(rh k).subset h,?_⟩
 have:=(rh (t:=t) k).length_le;have:=hl.len;omega
theorem drop_cons{α:Type}{l:List α}{i:Nat}{c:α}(h:l[i]?=some c):l.drop i=c::l.drop (i+1):=by
 obtain ⟨hi,hv⟩:=List.getElem?_eq_some_iff.1 h;rw [aZ hi,hv]
theorem PQ{c:Nd h}{ak:List Pr}(hg:jl ⟨h,c⟩)(hl:ak.length≤lim):(fo fr en lim h c ak).1.length≤ak.length+(flat h c).length:=by
 have ho:∃ lo hi,Ok h c lo hi:=by
  cases h with
  | zero=>exact hg.1
  | succ h=>exact hg.1
 obtain ⟨lo,hi,ho⟩:=ho;have:=(BD (fr:=fr) (en:=en) h ho hl).1;rw [this,ae,ag];have:=List.length_filter_le (je fr en) (flat h c);omega
theorem Ia.qL{c:Nd h}{p:C.Ch}{dp:Nat}(IH:JB base A db F d w0 tb x fr en lim lo h)(nx:jl ⟨h+1,t⟩)(hl:Ia base A db F d w0 tb x fr en lim lo t w v acc M b n pv lv cv k wr vk ak Mk)(hc:t.2.2[k]?=some c)(hk:eh (cM d) w0 h p c)(Pu:dp+(h+1)≤64)(dW:(acc.length+(flat (h+1) t).length)*32≤140737488355328)(jo:(dB (h+1) t).Nodup)(lK:∀ i ∈ dB (h+1) t,i ∉ M)(mT:M.length+(dB (h+1) t).length<1099511627776):Calls prog 90 #[p.val,.int .i64 ((dp:Int)+1),.pointer (some ⟨x.m,0,none⟩),.pointer (some ⟨x.f,0,none⟩),.pointer (some ⟨x.t,0,none⟩),.pointer (some ⟨x.fr,0,none⟩),.pointer (some ⟨x.en,0,none⟩),.pointer (some ⟨x.p,0,none⟩),.pointer (some ⟨x.l,0,none⟩),.pointer (some ⟨x.g,0,none⟩)] wr fun e w'=>∃ v' M',e = .returned (.bool (fo fr en lim h c ak).2)∧Ia base A db F d w0 tb x fr en lim lo t w v acc M b n pv lv cv (k+1) w' v' (fo fr en lim h c ak).1 M':=by
 have UG:jl ⟨h,c⟩:=kX nx hc;have hdc:=drop_cons hc;have hrm:=hl.room;rw [hdc,List.flatMap_cons,ae] at hrm;obtain ⟨Aq,Pd⟩:=IG hc jo;have Ff:=wK hc;have oy:=(rh (t:=t) (k+1)).length_le;rw [Ff] at oy;simp only [ae] at oy;have hlen:=hl.len;rw [ae] at hlen;refine (IH p c (dp+1) wr vk ak Mk hk UG hl.gs (by omega) (by omega) Aq (fun i hi hm=>?_) (by omega)).mono ?_
 ·rcases hl.mem i hm with h1 | h1
  ·exact lK i ((rh (k+1)).subset (by rw [Ff];simp [hi])) h1
  ·rcases List.mem_append.1 h1 with h2 | h2
   ·exact (Pd i hi).1 h2
   ·exact (Pd i hi).2 h2
 ·rintro e w' ⟨v',M',rfl,h1,h2,h3,h4⟩;refine ⟨v',M',rfl,h1,hl.gth.trans h2,hl.br.gth h2 hl.gs.dv hl.gs.row (by decide) hl.gs.ps hl.gs.met,?_,fun i hi=>?_,?_⟩
  ·have:=PQ (fr:=fr) (en:=en) UG hl.gs.len;omega
  ·rw [Ff];rcases h3 i hi with h | h
   ·rcases hl.mem i h with h | h
    ·exact .inl h
    ·exact .inr (by
      rcases List.mem_append.1 h with h | h
      ·exact dR _ h
      ·exact cd _ (dR _ h))
   ·exact .inr (cd _ (cd _ h))
  ·rw [Ff];simp only [ae];omega
end
end T
end Go.Proofs.YtihmgigfkmofnaaGreatDoor
