import Derived.Test.YtihmgigfkmofnaaGreatDoorG30
import Derived.BigRegion
set_option maxHeartbeats 4000000
set_option maxRecDepth 100000
open Go.Proofs.Tryz
namespace Go.Proofs.YtihmgigfkmofnaaGreatDoor
namespace T
open Go.RowKit
structure Bv where
 m:Nat
 mb:Nat
 f:Nat
 e:Nat
 t:Nat
 v:Nat
 p:Nat
structure Vs(base:Nat)(A:Nat→Addr)(db:Nat)(F:Nat→Prop)(d:S.V.bw)(w0:World)(tb:Nat)(x:Bv)(lo:Nat)(w:World)(v:Value)(acc M:List Nat):Prop where
 dv:Dv base A db F d w
 mv:Mv db F w0 w
 cm:w.cell? ⟨x.m,0,none⟩=some (.map (some x.mb))
 ce:w.cell? ⟨x.e,0,none⟩=some (.func (.func 66) #[] #[.pointer (some ⟨x.p,0,none⟩)])
 ct:w.cell? ⟨x.t,0,none⟩=some (.pointer (some ⟨tb,0,none⟩))
 cv:w.cell? ⟨x.v,0,none⟩=some (.func (.func 103) #[] #[.pointer (some ⟨x.m,0,none⟩),.pointer (some ⟨x.f,0,none⟩),.pointer (some ⟨x.e,0,none⟩),.pointer (some ⟨x.t,0,none⟩),.pointer (some ⟨x.v,0,none⟩)])
 cf:B.au w x.f #[.nilIface] 32
 row:B.au w x.p #[v] 69
 ps:uV w lo v acc
 met:Met w x.mb M
 DN:M.length<1099511627776
 ord:∀ b ∈ [x.m,x.f,x.e,x.t,x.v,x.p,x.mb],w0.heap.size≤b∧b<lo
 no:∀ b ∈ [x.m,x.e,x.t,x.v],b≠x.f∧b≠x.p
 fp:x.f≠x.p
 TY:db<w0.heap.size
 lo:lo≤w.heap.size
section
variable {base:Nat} {A:Nat→Addr} {db:Nat} {F:Nat→Prop} {d:S.V.bw} {w0:World} {tb:Nat} {x:Bv} {lo:Nat} {w w':World} {v v':Value} {acc MC M M':List Nat}
theorem Vs.keep(h:Vs base A db F d w0 tb x lo w v acc M)(hv:Dv base A db F d w')(hm:Mv db F w0 w')(hs:w.heap.size≤w'.heap.size)(hb:∀ k,k<lo→k≠db→k≠x.mb→k≠x.f→k≠x.p→w'.heap[k]?=w.heap[k]?)(hf:B.au w' x.f #[.nilIface] 32)(hr:B.au w' x.p #[v'] 69)(hp:uV w' lo v' MC)(ZU:Met w' x.mb M')(nx:M'.length<1099511627776):Vs base A db F d w0 tb x lo w' v' MC M':=by
 have hc:∀ b ∈ [x.m,x.e,x.t,x.v],∀ u,w.cell? ⟨b,0,none⟩=some u→w'.cell? ⟨b,0,none⟩=some u:=fun b M5 u hc=>by
  have ho:=h.ord b (by simp only [dP,dA,or_false] at M5 ⊢;rcases M5 with rfl | rfl | rfl | rfl <;> simp)
  have hn:=h.no b M5;have:=h.TY;exact bL (hb b ho.2 (by omega) (h.met.ne hc) hn.1 hn.2) hc
 exact ⟨hv,hm,hc _ (by simp) _ h.cm,hc _ (by simp) _ h.ce,hc _ (by simp) _ h.ct,hc _ (by simp) _ h.cv,hf,hr,hp,ZU,nx,h.ord,h.no,h.fp,h.TY,ar h.lo hs⟩
theorem Vs.cH(h:Vs base A db F d w0 tb x lo w v acc M)(hs:w.heap.size≤w'.heap.size)(hb:∀ k,k<w.heap.size→k≠db→k≠x.mb→k≠x.f→k≠x.p→v.ownBlock≠some k→w'.heap[k]?=w.heap[k]?):cW w w':=⟨hs,fun k hk=>by
 by_cases h1:k=db
 ·subst h1;obtain ⟨d',_,hd⟩:=h.dv.dev;refine .inr ⟨fun j u hc=>kU hd hc,?_,?_⟩
  ·intro cs fr h1;obtain ⟨mb,nb,Kz,av,Dn,hb⟩:=hd;rw [hb.dF] at h1;simp at h1
  ·intro cs fr h1;obtain ⟨mb,nb,Kz,av,Dn,hb⟩:=hd;rw [hb.dF] at h1;simp at h1
 ·by_cases h2:k=x.mb
  ·subst h2;obtain ⟨es,clock,h2,_⟩:=h.met.map;refine .inr ⟨fun j u hc=>absurd rfl (h.met.ne hc),?_,?_⟩
   ·intro cs fr e;rw [h2] at e;cases e
   ·intro cs fr e;rw [h2] at e;cases e
  ·by_cases h3:k=x.f
   ·subst h3;have hf:=h.cf;unfold B.au at hf;refine .inr ⟨fun j u hc=>?_,?_,?_⟩
    ·rw [cell_of_row w _ j _ _ _ hf] at hc;obtain ⟨h5,h6⟩:=Array.getElem?_eq_some_iff.1 hc;have:j=0:=by simp at h5;omega
     subst this;have h6:Value.nilIface=u:=h6;subst h6;exact ⟨(fun s e=>by cases e),(fun t x e=>by cases e)⟩
    ·intro cs fr e;rw [hf] at e;simp at e
    ·intro cs fr e;rw [hf] at e;simp at e
   ·by_cases h4:k=x.p
    ·subst h4;have hf:=h.row;unfold B.au at hf;obtain ⟨a,c,kq⟩:=h.ps.form;refine .inr ⟨fun j u hc=>?_,?_,?_⟩
     ·rw [cell_of_row w _ j _ _ _ hf] at hc;obtain ⟨h5,h6⟩:=Array.getElem?_eq_some_iff.1 hc;have:j=0:=by simp at h5;omega
      subst this;have h6:v=u:=h6;subst h6;rw [kq];exact ⟨(fun s e=>by cases e),(fun t x e=>by cases e)⟩
     ·intro cs fr e;rw [hf] at e;simp at e
     ·intro cs fr e;rw [hf] at e;simp at e
    ·by_cases h5:v.ownBlock=some k
     ·exact .inr (h.ps.odd h5)
     ·exact .inl (hb k hk h1 h2 h3 h4 h5)⟩
theorem Vs.go(h:Vs base A db F d w0 tb x lo w v acc M)(hm:Mv db F w w')(hv:Dv base A db F d w'):Vs base A db F d w0 tb x lo w' v acc M:=by
 have ho:=h.ord;have hd:=h.TY;have dH:∀ b ∈ [x.m,x.f,x.e,x.t,x.v,x.p,x.mb],b≠db:=fun b hb=>by have:=ho b hb;omega
 exact h.keep hv (h.mv.trans hm) hm.size (fun k hk h1 _ _ _=>hm.one.block k (aq hk h.lo) h1) ((hm.one.block x.f h.cf.lt (dH _ (by simp))).trans h.cf) ((hm.one.block x.p h.row.lt (dH _ (by simp))).trans h.row) (h.ps.same fun g hg=>by
  have:=h.ps.dF hg;have:=ho x.p (by simp)
  exact hm.one.block g (by omega) (by omega)) (h.met.same (hm.one.block x.mb h.met.lt (dH _ (by simp)))) h.DN
theorem Vs.below(h:Vs base A db F d w0 tb x lo w v acc M)(hb:Below w.heap.size w w'):Vs base A db F d w0 tb x lo w' v acc M:=h.go (Mv.of hb) (h.dv.below hb)
theorem Vs.meet(h:Vs base A db F d w0 tb x lo w v acc M)(iL:Dv base A db F d w0)(hm:Met w' x.mb M')(nx:M'.length<1099511627776)(hg:w.grownBy w' (some x.mb)):Vs base A db F d w0 tb x lo w' v acc M'∧cW w w':=by
 have ho:=h.ord;have pz:=h.lo;have pO:w.heap.size≤w'.heap.size:=hg.size;have dH:∀ k,k≠x.mb→some k≠some x.mb:=fun k hk e=>hk (Option.some.inj e)
 have hom:=ho x.mb (by simp)
 have nV:Below w0.heap.size w w':=⟨hg.os,hg.tape,hg.output,pO,fun k hk=>hg.block k (by omega) (dH k (by omega))⟩
 obtain ⟨EC,Ll⟩:=h.dv.grown nV h.mv iL;refine ⟨h.keep EC Ll pO (fun k hk _ h2 _ _=>hg.block k (by omega) (dH k h2)) ((hg.block x.f h.cf.lt (dH _ (h.met.ne (h.cf.cell 0 (by simp))))).trans h.cf) ((hg.block x.p h.row.lt (dH _ (h.met.ne (h.row.cell 0 (by simp))))).trans h.row) (h.ps.same fun g Ct=>?_) hm nx,h.cH pO fun k hk _ h2 _ _ _=>hg.block k hk (dH k h2)⟩
 have:=h.ps.dF Ct;exact hg.block g this.2 (dH _ (by omega))
theorem Vs.nil(h:Vs base A db F d w0 tb x lo w v acc M)(iL:Dv base A db F d w0):Vs base A db F d w0 tb x lo (w.setCell ⟨x.f,0,none⟩ .nilIface) v acc M∧cW w (w.setCell ⟨x.f,0,none⟩ .nilIface):=by
 have ho:=h.ord;have pz:=h.lo;have dE:=bJ.set x.f 0 w .nilIface;have hof:=ho x.f (by simp)
 have nV:Below w0.heap.size w (w.setCell ⟨x.f,0,none⟩ .nilIface):=⟨dE.os,dE.tape,dE.output,dE.size,fun k hk=>dE.block k (by omega) (by omega)⟩
 obtain ⟨EC,Ll⟩:=h.dv.grown nV h.mv iL;refine ⟨h.keep EC Ll dE.size (fun k hk _ _ h3 _=>dE.block k (by omega) h3) (rj h.cf _) ((dE.block x.p h.row.lt h.fp.symm).trans h.row) (h.ps.same fun g Ct=>?_) (h.met.same (dE.block x.mb h.met.lt (fun e=>h.met.ne (h.cf.cell 0 (by simp)) e.symm))) h.DN,h.cH dE.size fun k hk _ _ h3 _ _=>dE.block k hk h3⟩
 have:=h.ps.dF Ct;exact dE.block g this.2 (by omega)
theorem Vs.push(h:Vs base A db F d w0 tb x lo w v acc M)(iL:Dv base A db F d w0)(p:Nat)(hn:acc.length≤1099511627776):∃ a' c' w',(Builtin.append_ #[69,69] 69 #[v,.slice (some ⟨w.heap.size,0,none⟩) 1 1]).run prog (w.alloc (.cells #[.int .i64 (p:Int)] 3)) = .ok (.slice a' (acc.length+1) c') w'∧w'.frozen? ⟨x.p,0,none⟩=false∧w'.cell? ⟨x.p,0,none⟩=some v∧Vs base A db F d w0 tb x lo (w'.setCell ⟨x.p,0,none⟩ (.slice a' (acc.length+1) c')) (.slice a' (acc.length+1) c') (acc++[p]) M∧cW w (w'.setCell ⟨x.p,0,none⟩ (.slice a' (acc.length+1) c')):=by
 have ho:=h.ord;have pz:=h.lo;obtain ⟨a',c',w',hr,kt,hg⟩:=uV.push lo v acc p w h.ps hn pz;have aM:=ai w (.cells #[.int .i64 (p:Int)] 3);have b8:(w.alloc (.cells #[.int .i64 (p:Int)] 3)).heap.size=w.heap.size+1:=by simp
 have pO:=hg.size;have PJ:=ho x.p (by simp)
 have fQ:∀ b,b<lo→some b≠v.ownBlock:=fun b hb e=>by
  have:=(h.ps.dF e.symm).1;omega
 have Qb:∀ k,k<w.heap.size→some k≠v.ownBlock→w'.heap[k]?=w.heap[k]?:=fun k hk h1=>(hg.block k (by omega) h1).trans (aM.block k hk)
 have bE:B.au w' x.p #[v] 69:=(Qb x.p h.row.lt (fQ _ PJ.2)).trans h.row;have dE:=bJ.set x.p 0 w' (.slice a' (acc.length+1) c');have jv:=dE.size;have yd:w.heap.size≤(w'.setCell ⟨x.p,0,none⟩ (.slice a' (acc.length+1) c')).heap.size:=by omega
 have df:∀ k,k<w.heap.size→k≠x.p→some k≠v.ownBlock→(w'.setCell ⟨x.p,0,none⟩ (.slice a' (acc.length+1) c')).heap[k]?=w.heap[k]?:=fun k hk h1 h2=>(dE.block k (by omega) h1).trans (Qb k hk h2)
 have nV:Below w0.heap.size w (w'.setCell ⟨x.p,0,none⟩ (.slice a' (acc.length+1) c')):=⟨dE.os.trans (hg.os.trans aM.os),dE.tape.trans (hg.tape.trans aM.tape),dE.output.trans (hg.output.trans aM.output),yd,fun k hk=>df k (by omega) (by omega) (fQ k (by omega))⟩
 obtain ⟨EC,Ll⟩:=h.dv.grown nV h.mv iL;have hof:=ho x.f (by simp)
 have hom:=ho x.mb (by simp)
 refine ⟨a',c',w',hr,by unfold B.au at bE;simp [World.frozen?,bE],bE.cell 0 (by simp),h.keep EC Ll yd (fun k hk _ _ _ h4=>df k (by omega) h4 (fQ k hk)) ((df x.f h.cf.lt h.fp (fQ _ hof.2)).trans h.cf) (rj bE _) (kt.same fun g Ct=>?_) (h.met.same (df x.mb h.met.lt (fun e=>h.met.ne (h.row.cell 0 (by simp)) e.symm) (fQ _ hom.2))) h.DN,h.cH yd fun k hk _ _ _ h4 h5=>df k hk h4 (fun e=>h5 e.symm)⟩
 have:=kt.dF Ct;exact dE.block g this.2 (by omega)
theorem Vs.again{h:Nat}{p:C.Ch}{t:Nd h}(hg:Vs base A db F d w0 tb x lo w v acc M)(iL:Dv base A db F d w0)(hk:ew (cM d) w0 h p t)(lX:∀ i ∈ dG h t,i ∉ M)(nx:M.length+(dG h t).length<1099511627776):Calls prog 91 #[.map (some x.mb),p.val] w fun e w'=>e = .returned (.bool false)∧Vs base A db F d w0 tb x lo w' v acc (M++cY (fy h t))∧cW w w':=by
 obtain ⟨h1,h2⟩:=xU hk;have fQ:decide (fy h t ∈ M)=false:=by
  rw [decide_eq_false_iff_not];intro hm;have h3:=hg.met.ok _ hm;refine lX _ (Gz _ ?_) hm;unfold cY;rw [if_neg (by omega)]
  simp
 refine (rC p (fy h t) h1 h2 x.mb M w hg.met hg.DN).mono ?_
 rintro e w' ⟨rfl,hm,AT⟩;rw [Ja] at hm;have hl:=I3 (t:=t);obtain ⟨g1,g2⟩:=hg.meet iL hm (by rw [ae];omega) AT
 exact ⟨by rw [fQ],g1,g2⟩
end
attribute [local go_sem ↓] Go.wp_at_zero Go.wp_at_succ
theorem sM{ops:Array Oper}{rest:List Oper}{o:Oper}{a:Act}{Q:Exit→Act→World→Prop}(w:World)(hg:o.guard=none)(t:TypeId)(x y:Operand)(ho:o.op = .call { callee:=.builtin .append,args:=#[x,y],argTypes:=#[t,t] })(zr:o.type=t)(vx vy:Value)(hx:a.eval x=vx)(hy:a.eval y=vy)(v:Value)(w':World)
  (bq:(Builtin.append_ #[t,t] t #[vx,vy]).run prog w = .ok v w') (hK:wpList prog ops Q rest (a.put o.dst v) w'):wpList prog ops Q (o::rest) a w:=by
 refine wpList_plain hg fun K' hK'=>?_
 unfold Oper.wp;simp [execOp,ho,resolve,invoke,builtin,hx,hy,zr,bq,Result.andThen]
 exact hK' _ _ hK
section
variable {base:Nat} {A:Nat→Addr} {db:Nat} {F:Nat→Prop} {d:S.V.bw} {w0:World} {tb:Nat} {x:Bv} {lo:Nat} {w:World} {v:Value} {acc M:List Nat}
theorem CX(p:C.Ch)(i:Nat)(hi:Te p=(i:Int))(s:ByteArray)(lv:Int)(h:Vs base A db F d w0 tb x lo w v acc M)(iL:Dv base A db F d w0)(hn:acc.length≤1099511627776):Calls prog 66 #[p.val,.string s,.int .i64 lv,.pointer (some ⟨x.p,0,none⟩)] w fun e w'=>e = .returned (.tuple #[])∧(∃ v',Vs base A db F d w0 tb x lo w' v' (acc++cY i) M)∧cW w w':=by
 have HP:=ab (xy p w);rw [hi] at HP;obtain ⟨pt,px,iV⟩:=bP p;rw [iV] at HP ⊢;have HS:=ab h;have hpu:=h.push iL i hn;have kp:w.cell? ⟨x.p,0,none⟩=some v:=h.row.cell 0 (by simp)
 obtain ⟨va,vc,kq⟩:=h.ps.form;obtain ⟨a',c',w',bq,kfz,kp',hvs,haw⟩:=hpu;have sk:=ab bq;have me:Hid ((∃ v',Vs base A db F d w0 tb x lo (w'.setCell ⟨x.p,0,none⟩ (.slice a' (acc.length+1) c')) v' (acc++[i]) M)∧cW w (w'.setCell ⟨x.p,0,none⟩ (.slice a' (acc.length+1) c'))):=⟨⟨_,hvs⟩,haw⟩;clear h iV hi iL hn hvs haw bq;by_cases h0:i=0
 ·subst h0;clear me sk kfz kp';go_enter func66,ntmps66;go_wp2_with fail;refine HP.out.mono ?_
  rintro e w1 ⟨rfl,rfl⟩;go_wp2;go_end0
  exact ⟨rfl,⟨v,by rw [show cY 0=[] from rfl,List.append_nil];exact HS.out⟩,cW.refl _⟩
 ·have h1:((i:Int) != 0)=true:=by simp;omega
  have HO:Hid (cY i=[i]):=by show cY i=[i];unfold cY;rw [if_neg h0]
  subst kq;clear h0;go_enter func66,ntmps66;go_wp2_with fail;refine HP.out.mono ?_
  rintro e w1 ⟨rfl,rfl⟩;go_wp2_with (first | (at_builtin;refine sM _ rfl 69 _ _ rfl rfl _ _ rfl rfl _ _ sk.out ?_))
  go_end0
  exact ⟨rfl,by rw [HO.out];exact me.out.1,me.out.2⟩
end
attribute [local go_sem ↓] Go.wp_at_zero Go.wp_at_succ
section
variable {w0:World} {lo pb:Nat} {pv:Value} {P:List Nat} {tx:Nat} {w:World} {sv:Value} {Z Z1:List S.Sh}
theorem uq(b:Nat)(kd cn:Int)(body:ByteArray)(hP:pR w0 lo pb pv P tx w sv Z)(AM:Calls prog 149 #[.pointer (some ⟨pb,0,none⟩),.pointer (some ⟨b,0,none⟩)] w fun e w'=>∃ XQ,e = .returned (.agg #[.int .i64 kd,.int .i64 0,.int .u64 0,.int .i64 cn,.string body])∧pR w0 lo pb pv P tx w' XQ Z1∧mL pb w sv w' XQ)(id:Nat)(hid:P[Z1.length]?=some id):Calls prog 112 #[.pointer (some ⟨pb,0,none⟩),.pointer (some ⟨b,0,none⟩)] w fun e w'=>∃ oe,e = .returned (.int .i64 (id:Int))∧pR w0 lo pb pv P tx w' oe (Z1++[⟨kd,id,tx,cn,body⟩])∧mL pb w sv w' oe:=by
 have Fv:=ab AM;have HID:=ab hid;have pS:Hid (P.length≤1000000∧Z1.length<P.length):=⟨hP.pl,(List.getElem?_eq_some_iff.1 hid).1⟩;clear AM hP hid;go_enter func112,ntmps112;go_wp2_with fail;refine Fv.out.mono ?_
 rintro e w1 ⟨XQ,rfl,h1,Eg⟩;obtain ⟨pa,pn,iV,ZG,ZF,RH⟩:=h1.pg;have zB:(Q.j7 P).length=P.length:=by unfold Q.j7;rw [az]
 obtain ⟨pg,po,PH,BO⟩:=RH Z1.length (.int .i64 (id:Int)) (by unfold Q.j7;rw [aL,HID.out];rfl)
 subst PH;rw [zB] at iV ZG;subst iV;obtain ⟨sa,sc,Zk⟩:=h1.sh.form;subst Zk;obtain ⟨K,hK⟩ : ∃ K,w1.heap.size=K:=⟨_,rfl⟩;obtain ⟨W1,gL⟩ : ∃ W1,w1.alloc (.cells #[.int .i64 kd,.int .i64 0,.int .u64 0,.int .i64 cn,.string body] 87)=W1:=⟨_,rfl⟩;have aM:Below w1.heap.size w1 W1:=gL▸ai w1 _;have rK:B.au W1 K #[.int .i64 kd,.int .i64 0,.int .u64 0,.int .i64 cn,.string body] 87:=by rw [← hK];exact gL▸B.au.new w1 _ _
 have h2:=h1.below aM;have n0:=h2.row.cell 0 (by simp)
 have n1:=h2.row.cell 1 (by simp)
 have n2:=h2.row.cell 2 (by simp)
 have Co:pb≠K:=by have:=h1.row.lt;omega
 have hgk:pg≠K:=by
  have:=World.block_lt_of_cell? w0 _ BO;have:=h1.eZ.size;have:pg<w0.heap.size:=by assumption
  omega
 have q0:W1.cell? ⟨pb,0,none⟩=some (.slice (some ⟨pg,po,none⟩) P.length pn):=n0;have q1:W1.cell? ⟨pb,1,none⟩=some (.int .u64 (tx:Int)):=n1;have q2:W1.cell? ⟨pb,2,none⟩=some (.slice sa Z1.length sc):=n2;have q3:W1.cell? ⟨pg,po+Z1.length,none⟩=some (.int .i64 (id:Int)):=(h2.eZ.cell (p:=⟨pg,po+Z1.length,none⟩) (World.block_lt_of_cell? w0 _ BO)).trans BO;have c0:W1.cell? ⟨K,0,none⟩=some (.int .i64 kd):=rK.cell 0 (by simp)
 have c1:W1.cell? ⟨K,1,none⟩=some (.int .i64 0):=rK.cell 1 (by simp)
 have c2:W1.cell? ⟨K,2,none⟩=some (.int .u64 0):=rK.cell 2 (by simp)
 have c3:W1.cell? ⟨K,3,none⟩=some (.int .i64 cn):=rK.cell 3 (by simp)
 have c4:W1.cell? ⟨K,4,none⟩=some (.string body):=rK.cell 4 (by simp)
 have f1:=rK.free 1;have f2:=rK.free 2;have mV:(0:Int)≤(Z1.length:Int):=by omega
 have mU:(Z1.length:Int)<(P.length:Int):=by have:=pS.out.2;omega
 have HKW:Hid (w0.heap.size≤K):=by have:=h1.eZ.size;show _≤_;omega
 have Uz:Hid (w.heap.size≤K):=by have:=Eg.size;show _≤_;omega
 have R6:Hid (pb<K∧lo≤K):=⟨by have:=h1.row.lt;omega,by have:=h1.lo;omega⟩
 have HKO:Hid (∀ g,(Value.slice sa Z1.length sc).ownBlock=some g→g<K):=fun g hg=>by have:=(h1.sh.dF hg).2;omega
 have H2:=ab h2;have HRK:=ab rK;have Ig:=ab (Eg.trans (mL.below _ aM));clear h1 Eg RH ZF zB n0 n1 n2 h2 rK aM Fv BO ZG;go_wp2_with fail;go_region
 obtain ⟨W2,Lx⟩ : ∃ W2,(W1.setCell ⟨K,1,none⟩ (.int .i64 (id:Int))).setCell ⟨K,2,none⟩ (.int .u64 (tx:Int))=W2:=⟨_,rfl⟩;have uy:bJ K W1 W2:=Lx▸(bJ.set K 1 W1 _).trans (bJ.set K 2 _ _);have V0:B.au W2 K #[.int .i64 kd,.int .i64 (id:Int),.int .u64 (tx:Int),.int .i64 cn,.string body] 87:=by
  have h9:=HRK.out;unfold B.au at h9 ⊢;rw [← Lx,setCell_eq_setRow W1 K 1 _ _ (0,0) _ h9];have h8:=setRow_heap W1 K _ ((#[.int .i64 kd,.int .i64 0,.int .u64 0,.int .i64 cn,.string body] : Array Value).setIfInBounds 1 (.int .i64 (id:Int))) _ (0,0) h9;rw [setCell_eq_setRow _ K 2 _ _ (0,0) _ h8];exact setRow_heap _ K _ _ _ (0,0) h8
 have h3:=H2.out;have ac6:K<W1.heap.size:=HRK.out.lt;have dH:∀ k,k<K→W2.heap[k]?=W1.heap[k]?:=fun k hk=>uy.block k (by omega) (by omega)
 have hK1:=Uz.out;have adh:pb<K:=R6.out.1;have Zf:mL pb w sv W2 (.slice sa Z1.length sc):=by
  have h9:=Ig.out;exact ⟨ar h9.size uy.size,fun k hk h1 h2=>(dH k (by omega)).trans (h9.block k hk h1 h2),h9.own⟩
 have hP3:pR w0 lo pb (.slice (some ⟨pg,po,none⟩) P.length pn) P tx W2 (.slice sa Z1.length sc) Z1:=by
  have pz:=R6.out.2;refine ⟨⟨uy.os.trans h3.eZ.os,uy.tape.trans h3.eZ.tape,uy.output.trans h3.eZ.output,ar h3.eZ.size uy.size,fun k hk=>(dH k (by have:=HKW.out;omega)).trans (h3.eZ.block k hk)⟩,(dH pb adh).trans h3.row,h3.sh.same fun g hg=>dH g (HKO.out g hg),h3.ord,ar h3.lo uy.size,h3.pg,h3.pl⟩
 have P2:Below W2.heap.size W2 W2.drew.drew:=B.aK (B.aK (Below.refl _ _));obtain ⟨a',c',w',bq,kfz,kp,hPn,aaH⟩:=(hP3.below P2).push ⟨kd,id,tx,cn,body⟩ (by have:=pS.out;omega)
 have U1:(Builtin.append_ #[83,83] 83 #[.slice sa Z1.length sc,.slice (some ⟨W2.heap.size,0,none⟩) 1 1]).run prog (W2.alloc (.cells #[.int .i64 kd,.int .i64 (id:Int),.int .u64 (tx:Int),.int .i64 cn,.string body] 87)).drew.drew = .ok (.slice a' (Z1.length+1) c') w':=bq;have hPt:=(mL.below (.slice sa Z1.length sc) P2).trans aaH;have sk:=ab U1;have me:Hid (pR w0 lo pb (.slice (some ⟨pg,po,none⟩) P.length pn) P tx (w'.setCell ⟨pb,2,none⟩ (.slice a' (Z1.length+1) c')) (.slice a' (Z1.length+1) c') (Z1++[⟨kd,id,tx,cn,body⟩])∧mL pb w sv (w'.setCell ⟨pb,2,none⟩ (.slice a' (Z1.length+1) c')) (.slice a' (Z1.length+1) c')):=⟨hPn,Zf.trans hPt⟩;have d0:W2.cell? ⟨K,0,none⟩=some (.int .i64 kd):=V0.cell 0 (by simp)
 have d1:W2.cell? ⟨K,1,none⟩=some (.int .i64 (id:Int)):=V0.cell 1 (by simp)
 have d2:W2.cell? ⟨K,2,none⟩=some (.int .u64 (tx:Int)):=V0.cell 2 (by simp)
 have d3:W2.cell? ⟨K,3,none⟩=some (.int .i64 cn):=V0.cell 3 (by simp)
 have d4:W2.cell? ⟨K,4,none⟩=some (.string body):=V0.cell 4 (by simp)
 have e2:W2.cell? ⟨pb,2,none⟩=some (.slice sa Z1.length sc):=hP3.row.cell 2 (by simp)
 have e3:(W2.alloc (.cells #[.int .i64 kd,.int .i64 (id:Int),.int .u64 (tx:Int),.int .i64 cn,.string body] 87)).cell? ⟨pb,2,none⟩=some (.slice sa Z1.length sc):=((ai W2 _).cell (p:=⟨pb,2,none⟩) (World.block_lt_of_cell? W2 _ e2)).trans e2;have qT:(w'.setCell ⟨pb,2,none⟩ (.slice a' (Z1.length+1) c')).cell? ⟨K,1,none⟩=some (.int .i64 (id:Int)):=bL (hPt.block K V0.lt (by omega) (fun e=>by have:=HKO.out K e;omega)) d1
 clear uy V0 h3 ac6 dH hK1 Zf hP3 bq U1 hPn hPt aaH P2 q0 q1 q2 q3 c0 c1 c2 c3 c4 f1 f2 gL Ig H2 HRK mV mU;go_wp2_with fail;go_region_law (first | (refine kC 83 rfl (.tmp 30) (.tmp 32) rfl rfl _ _ rfl rfl _ _ sk.out ?_))
 all_goals
  go_wp2;go_ret;exact ⟨_,rfl,me.out.1,me.out.2⟩
end
theorem s7{α β γ:Type}(g:α→Nat→β × List γ):∀ (cs:List α) (c:α) (k:Nat),bZ g (cs++[c]) k=((bZ g cs k).1++[(g c (k+(bZ g cs k).2.length)).1],(bZ g cs k).2++(g c (k+(bZ g cs k).2.length)).2)
 | [],c,k=>by simp [bZ]
 | d::cs,c,k=>by
  have:=s7 g cs c (k+(g d k).2.length);simp only [List.cons_append,bZ,this,ae,ay,dt]
theorem D8{α β γ:Type}(g:α→Nat→β × List γ):∀ (xs bs:List α) (k:Nat),bZ g (xs++bs) k=((bZ g xs k).1++(bZ g bs (k+(bZ g xs k).2.length)).1,(bZ g xs k).2++(bZ g bs (k+(bZ g xs k).2.length)).2)
 | [],bs,k=>by simp [bZ]
 | d::xs,bs,k=>by
  have:=D8 g xs bs (k+(g d k).2.length);simp only [List.cons_append,bZ,this,ae,ay,dt]
theorem K9{α β γ:Type}(g:α→Nat→β × List γ)(cs:List α)(k i:Nat):(bZ g (cs.take i) k).1=(bZ g cs k).1.take i:=by
 by_cases h:i≤cs.length
 ·conv=>rhs;rw [← aH i cs,D8]
  exact (List.take_left' (by rw [iw,ag];omega)).symm
 ·have e:cs.take i=cs:=al (by omega)
  rw [e];exact (al (by rw [iw];omega)).symm
theorem Jf{α β γ:Type}(g:α→Nat→β × List γ)(cs:List α)(k i:Nat)(c:α)(hc:cs[i]?=some c):(bZ g cs k).1[i]?=some (g c (k+(bZ g (cs.take i) k).2.length)).1∧(bZ g (cs.take (i+1)) k).2=(bZ g (cs.take i) k).2++(g c (k+(bZ g (cs.take i) k).2.length)).2:=by
 have hi:=(List.getElem?_eq_some_iff.1 hc).1;have e:cs.take (i+1)=cs.take i++[c]:=by rw [gw,hc];rfl
 have h1:=K9 g cs k (i+1);rw [e,s7] at h1;refine ⟨?_,by rw [e,s7]⟩
 have h2:((bZ g cs k).1.take (i+1))[i]?=(bZ g cs k).1[i]?:=by rw [List.getElem?_take_of_lt (by omega)]
 rw [← h2,← h1];simp only;rw [bf (by rw [iw,ag];omega),iw,ag,a6 (by omega),dR]
 rfl
theorem xF{h:Nat}{cs:List (Nd h)}{i:Nat}{c:Nd h}(hn:(cs.flatMap (dG h)).Nodup)(hc:cs[i]?=some c):(dG h c).Nodup:=by
 obtain ⟨hi,hv⟩:=List.getElem?_eq_some_iff.1 hc;have hm:c ∈ cs:=hv▸aI hi;obtain ⟨a,b,rfl⟩:=List.append_of_mem hm;rw [aR,List.flatMap_cons] at hn;exact hn.sublist ((List.sublist_append_left _ _).trans (dD _ _))
def qu(a b:List B.Lk)(i:Nat):List B.Lk:=a.take i++b.drop i
theorem OO{a b:List B.Lk}{i:Nat}{x:B.Lk}(hl:a.length=b.length)(hx:a[i]?=some x):(qu a b i).set i x=qu a b (i+1):=by
 obtain ⟨hi,hv⟩:=List.getElem?_eq_some_iff.1 hx;unfold qu;rw [bW _ _ (by rw [ag];omega),ag,a6 (by omega),dR,a7 (by omega:i<b.length),List.set_cons_zero,gw,hx]
 simp
theorem OQ{a b:List B.Lk}{i:Nat}(hl:a.length=b.length)(hi:i<b.length):(qu a b i)[i]?=some b[i]:=by
 unfold qu;rw [bf (by rw [ag];omega),ag,a6 (by omega),dR,dn,Nat.add_zero,af hi]
theorem OP{a b:List B.Lk}{i:Nat}(hl:a.length=b.length)(hi:i≤b.length):(qu a b i).length=b.length:=by
 unfold qu;rw [ae,ag,ao];omega
theorem OR{a b:List B.Lk}{i:Nat}(hl:a.length=b.length)(hi:b.length≤i):qu a b i=a:=by
 unfold qu;rw [dB hi,List.append_nil,al (by omega)]
theorem DT(x:Int):∀ (l:List B.Lk) (k:Nat) (q:B.Lk),l[k]?=some q→(B.bh l).set (k*2+1) (.int .i64 x)=B.bh (l.set k (q.1,x))
 | [],k,q,h=>by simp at h
 | p::l,0,q,h=>by
  cases h;rw [List.set_cons_zero,B.eE,B.eE];rfl
 | p::l,k+1,q,h=>by
  rw [List.set_cons_succ,B.eE,B.eE,← DT x l k q h,show (k+1)*2+1=k*2+1+1+1 by omega]
  simp only [List.set_cons_succ]
theorem K3{w:World}{base g n cap:Nat}{l:List B.Lk}(h:B.b7 w base (.slice (some ⟨g,0,none⟩) n cap) l)(k:Nat)(q:B.Lk)(hq:l[k]?=some q)(x:Int):B.b7 (w.setCell ⟨g,k*2+1,none⟩ (.int .i64 x)) base (.slice (some ⟨g,0,none⟩) n cap) (l.set k (q.1,x)):=by
 obtain rfl:=h.cnt;unfold B.b7 at h;have:=(World.ownsRow.stored h (k*2+1) (.int .i64 x)).1;rw [DT x l k q hq] at this;unfold B.b7;rw [cx];exact this
theorem rF{w w':World}{base:Nat}{v:Value}{l:List B.Lk}(h:B.b7 w base v l)(hb:∀ g,v.ownBlock=some g→w'.heap[g]?=w.heap[g]?):B.b7 w' base v l:=by
 refine ⟨h.1,?_⟩;rcases h.2 with h' | ⟨g,cap,cur,h',h1,h2,hr⟩
 ·exact .inl h'
 ·exact .inr ⟨g,cap,cur,h',h1,(hb g (by rw [h'];rfl)).trans h2,hr⟩
theorem S4{h:Nat}{ks:List ByteArray}{cs:List (Nd h)}{i:Nat}{k:ByteArray}{c:Nd h}(hk:ks[i]?=some k)(hc:cs[i+1]?=some c):(qv ks cs)[i]?=some (k,(fy h c:Int)):=by
 unfold qv;rw [List.getElem?_zip_eq_some];refine ⟨hk,?_⟩;rw [aL,List.getElem?_tail,hc];rfl
def eB(P:List Nat)(j:Nat):Nat:=P.getD j 2
def Uq(PG:Int→Option PD)(w0:World)(lo pb:Nat)(pv:Value)(P:List Nat)(tx:Nat)(h:Nat):Prop :=
 ∀ (p:C.Ch) (t:Nd h) (w:World) (sv:Value) (Z:List S.Sh),ew PG w0 h p t→Re h t→pR w0 lo pb pv P tx w sv Z→Z.length+jc h t≤P.length→(dG h (aV (eB P) h t Z.length).1).Nodup →
  Calls prog 72 #[.pointer (some ⟨pb,0,none⟩),p.val] w fun e w'=>∃ oe,e = .returned (.int .i64 (fy h (aV (eB P) h t Z.length).1:Int))∧pR w0 lo pb pv P tx w' oe (Z++(aV (eB P) h t Z.length).2.map (gK tx))∧mL pb w sv w' oe
structure zU(w0:World)(lo pb:Nat)(pv:Value)(P:List Nat)(tx:Nat){h:Nat}(cs:List (Nd h))(k0:Nat)(a l:List B.Lk)(f:Int)(w:World)(sv:Value)(Z:List S.Sh)(H K ug uc:Nat)(i j:Nat)(wx:World)(sx:Value):Prop where
 yU:pR w0 lo pb pv P tx wx sx (Z++(bZ (aV (eB P) h) (cs.take j) k0).2.map (gK tx))
 MU:mL pb w sv wx sx
 row:B.au wx K #[.int .i64 f,.slice (some ⟨ug,0,none⟩) l.length uc] 150
 lk:B.b7 wx w.heap.size (.slice (some ⟨ug,0,none⟩) l.length uc) (qu a l i)
 res:B.au wx H #[.int .i64 0,.slice none 0 0] 150
 ne:K≠ug∧H≠K∧H≠ug
 nb:K≠pb∧H≠pb∧ug≠pb
 no:∀ b ∈ [K,H,ug],sx.ownBlock≠some b
 ge:w.heap.size≤K∧w.heap.size≤H
section
variable {PG:Int→Option PD} {w0:World} {lo pb:Nat} {pv:Value} {P:List Nat} {tx:Nat} {h:Nat} {cs:List (Nd h)} {k0:Nat} {a l:List B.Lk} {f:Int} {w:World} {sv:Value} {Z:List S.Sh} {H K ug uc:Nat} {i j:Nat} {wx:World} {sx:Value}
theorem zU.NB(hB:zU w0 lo pb pv P tx cs k0 a l f w sv Z H K ug uc i j wx sx):ug<wx.heap.size:=(hB.lk.dF ug rfl).2
theorem zU.move{wy:World}{sy:Value}{j':Nat}(hB:zU w0 lo pb pv P tx cs k0 a l f w sv Z H K ug uc i j wx sx)(ht:mL pb wx sx wy sy)(hp:pR w0 lo pb pv P tx wy sy (Z++(bZ (aV (eB P) h) (cs.take j') k0).2.map (gK tx))):zU w0 lo pb pv P tx cs k0 a l f w sv Z H K ug uc i j' wy sy:=by
 have hug:=hB.NB;have hK:=hB.row.lt;have hH:=hB.res.lt;refine ⟨hp,hB.MU.trans ht,(ht.block K hK hB.nb.1 (hB.no K (by simp))).trans hB.row,rF hB.lk fun g hg=>?_,(ht.block H hH hB.nb.2.1 (hB.no H (by simp))).trans hB.res,hB.ne,hB.nb,fun b hb e=>?_,hB.ge⟩
 ·have e:ug=g:=by simpa [Value.ownBlock] using hg
  subst e;exact ht.block ug hug hB.nb.2.2 (hB.no ug (by simp))
 ·rcases ht.own b e with e' | e'
  ·exact hB.no b hb e'
  ·simp only [dP,dA,or_false] at hb;omega
theorem zU.below{wy:World}(hB:zU w0 lo pb pv P tx cs k0 a l f w sv Z H K ug uc i j wx sx)(hb:Below wx.heap.size wx wy):zU w0 lo pb pv P tx cs k0 a l f w sv Z H K ug uc i j wy sx:=hB.move (mL.below _ hb) (hB.yU.below hb)
theorem zU.call{c:Nd h}{q:C.Ch}(IH:Uq PG w0 lo pb pv P tx h)(RO:k0=Z.length)(jw:((bZ (aV (eB P) h) cs k0).1.flatMap (dG h)).Nodup)(ym:k0+(cs.map (jc h)).sum≤P.length)(hB:zU w0 lo pb pv P tx cs k0 a l f w sv Z H K ug uc i j wx sx)(hc:cs[j]?=some c)(hk:ew PG w0 h q c)(ho:Re h c):Calls prog 72 #[.pointer (some ⟨pb,0,none⟩),q.val] wx fun e w'=>∃ oe c',(bZ (aV (eB P) h) cs k0).1[j]?=some c'∧e = .returned (.int .i64 (fy h c':Int))∧zU w0 lo pb pv P tx cs k0 a l f w sv Z H K ug uc i (j+1) w' oe:=by
 obtain ⟨h1,h2⟩:=Jf (aV (eB P) h) cs k0 j c hc;have hlen:(Z++(bZ (aV (eB P) h) (cs.take j) k0).2.map (gK tx)).length=k0+(bZ (aV (eB P) h) (cs.take j) k0).2.length:=by rw [ae,az,RO]
 have Lg:(bZ (aV (eB P) h) (cs.take j) k0).2.length+jc h c≤(cs.map (jc h)).sum:=by
  rw [rL (nu h),ko];have e1:=wN (l:=cs.map (jc h)) (i:=j) (x:=jc h c) (by rw [aL,hc];rfl)
  have e2:=lK (cs.map (jc h)) (j+1);omega
 refine (IH q c wx sx _ hk ho hB.yU (by rw [hlen];omega) (by rw [hlen];exact xF jw h1)).mono ?_
 rintro e w' ⟨oe,rfl,g1,g2⟩;rw [hlen] at g1 ⊢;refine ⟨oe,_,h1,rfl,hB.move g2 ?_⟩;rw [h2,bz,← ay];exact g1
theorem zU.put{ks:List ByteArray}{c':Nd h}(HW:w0.heap.size≤w.heap.size)(hB:zU w0 lo pb pv P tx cs k0 a l f w sv Z H K ug uc i j wx sx)(jo:l.map (·.1)=ks)(ha:a=qv ks (bZ (aV (eB P) h) cs k0).1)(FK:a.length=l.length)(hi:i<l.length)(hc:(bZ (aV (eB P) h) cs k0).1[i+1]?=some c'):(∃ u,wx.cell? ⟨ug,i*2+1,none⟩=some u)∧wx.frozen? ⟨ug,i*2+1,none⟩=false∧zU w0 lo pb pv P tx cs k0 a l f w sv Z H K ug uc (i+1) j (wx.setCell ⟨ug,i*2+1,none⟩ (.int .i64 (fy h c':Int))) sx:=by
 have FF:=hB.lk.spot i (by rw [OP FK (by omega)];exact hi)
 have Vd:=OQ (a:=a) FK hi;have adx:ks[i]?=some l[i].1:=by rw [← jo,aL,af hi];rfl
 have hag:a[i]?=some (l[i].1,(fy h c':Int)):=by rw [ha];exact S4 adx hc
 have my:=K3 hB.lk i l[i] Vd (fy h c':Int);rw [OO FK hag] at my;have dE:=bJ.set ug (i*2+1) wx (.int .i64 (fy h c':Int));have hug:=hB.NB;have ah5:w.heap.size≤ug:=(hB.lk.dF ug rfl).1;have ade:mL pb w sv (wx.setCell ⟨ug,i*2+1,none⟩ (.int .i64 (fy h c':Int))) sx:=by
  have h9:=hB.MU;exact ⟨ar h9.size dE.size,fun k hk h1 h2=>(dE.block k (aq hk h9.size) (by omega)).trans (h9.block k hk h1 h2),h9.own⟩
 refine ⟨FF.2.1,FF.2.2.2,⟨?_,ade,(dE.block K hB.row.lt hB.ne.1).trans hB.row,my,(dE.block H hB.res.lt hB.ne.2.2).trans hB.res,hB.ne,hB.nb,hB.no,hB.ge⟩⟩;have h3:=hB.yU;exact ⟨⟨dE.os.trans h3.eZ.os,dE.tape.trans h3.eZ.tape,dE.output.trans h3.eZ.output,ar h3.eZ.size dE.size,fun k hk=>(dE.block k (aq hk h3.eZ.size) (by omega)).trans (h3.eZ.block k hk)⟩,(dE.block pb h3.row.lt (fun e=>hB.nb.2.2 e.symm)).trans h3.row,h3.sh.same fun g hg=>dE.block g (h3.sh.dF hg).2 (fun e=>hB.no ug (by simp) (e▸hg)),h3.ord,ar h3.lo dE.size,h3.pg,h3.pl⟩
end
structure sE(w0:World)(lo pb:Nat)(pv:Value)(P:List Nat)(tx:Nat)(l:List B.Lk)(w:World)(sv:Value)(H:Nat)(wx:World)(sx:Value)(Zc:List S.Sh)(kk:Option Nat)(uu:Option (Nat × Nat)):Prop where
 yU:pR w0 lo pb pv P tx wx sx Zc
 MU:mL pb w sv wx sx
 res:B.au wx H #[.int .i64 0,.slice none 0 0] 150
 BS:w.heap.size≤H∧H≠pb∧sx.ownBlock≠some H
 kr:∀ K,kk=some K→B.au wx K #[.int .i64 0,.slice none 0 0] 150∧w.heap.size≤K∧K≠pb∧sx.ownBlock≠some K∧H≠K
 ur:∀ g c,uu=some (g,c)→B.b7 wx w.heap.size (.slice (some ⟨g,0,none⟩) l.length c) l∧g≠pb∧sx.ownBlock≠some g∧H≠g
 ku:∀ K g c,kk=some K→uu=some (g,c)→K≠g
section
variable {w0:World} {lo pb:Nat} {pv:Value} {P:List Nat} {tx:Nat} {l:List B.Lk} {w:World} {sv:Value} {H:Nat} {wx wy:World} {sx sy:Value} {Zc Zd:List S.Sh} {kk:Option Nat} {uu:Option (Nat × Nat)}
theorem sE.move(h:sE w0 lo pb pv P tx l w sv H wx sx Zc kk uu)(ht:mL pb wx sx wy sy)(hp:pR w0 lo pb pv P tx wy sy Zd):sE w0 lo pb pv P tx l w sv H wy sy Zd kk uu:=by
 have hH:=h.res.lt;have fQ:∀ b,b<wx.heap.size→sx.ownBlock≠some b→sy.ownBlock≠some b:=fun b hb h1 e=>by
  rcases ht.own b e with e' | e'
  ·exact h1 e'
  ·omega
 refine ⟨hp,h.MU.trans ht,(ht.block H hH h.BS.2.1 h.BS.2.2).trans h.res,⟨h.BS.1,h.BS.2.1,fQ H hH h.BS.2.2⟩,fun K hK=>?_,fun g c hu=>?_,h.ku⟩
 ·obtain ⟨h1,h2,h3,h4,h5⟩:=h.kr K hK;exact ⟨(ht.block K h1.lt h3 h4).trans h1,h2,h3,fQ K h1.lt h4,h5⟩
 ·obtain ⟨h1,h2,h3,h4⟩:=h.ur g c hu;have hg:=(h1.dF g rfl).2;refine ⟨rF h1 fun g' vT=>?_,h2,fQ g hg h3,h4⟩
  have e:g=g':=by simpa [Value.ownBlock] using vT
  subst e;exact ht.block g hg h2 h3
theorem sE.below(h:sE w0 lo pb pv P tx l w sv H wx sx Zc kk uu)(hb:Below wx.heap.size wx wy):sE w0 lo pb pv P tx l w sv H wy sx Zc kk uu:=h.move (mL.below _ hb) (h.yU.below hb)
theorem sE.drew(h:sE w0 lo pb pv P tx l w sv H wx sx Zc kk uu):sE w0 lo pb pv P tx l w sv H wx.drew sx Zc kk uu:=h.below (B.aK (Below.refl _ _))
theorem sE.alloc(h:sE w0 lo pb pv P tx l w sv H wx sx Zc none uu):sE w0 lo pb pv P tx l w sv H (wx.alloc (.cells #[.int .i64 0,.slice none 0 0] 150)) sx Zc (some wx.heap.size) uu:=by
 have hq:=h.below (ai wx (.cells #[.int .i64 0,.slice none 0 0] 150));refine ⟨hq.yU,hq.MU,hq.res,hq.BS,fun K hK=>?_,hq.ur,fun K g c hK hu e=>?_⟩
 ·cases hK;have h1:=h.MU.size;have h2:=h.yU.row.lt;have h3:=h.res.lt;exact ⟨B.au.new wx _ _,h1,by omega,fun e=>by have:=(h.yU.sh.dF e).2;omega,by omega⟩
 ·cases hK;have:=((h.ur g c hu).1.dF g rfl).2;omega
theorem sE.clone{g c:Nat}(h:sE w0 lo pb pv P tx l w sv H wx sx Zc kk none)(ho:B.b7 wy wx.heap.size (.slice (some ⟨g,0,none⟩) l.length c) l)(hb:Below wx.heap.size wx wy):sE w0 lo pb pv P tx l w sv H wy sx Zc kk (some (g,c)):=by
 have hq:=h.below hb;have hg:=(ho.dF g rfl).1;have h1:=h.MU.size;refine ⟨hq.yU,hq.MU,hq.res,hq.BS,hq.kr,fun g' c' hu=>?_,fun K g' c' hK hu e=>?_⟩
 ·cases hu;have h2:=h.yU.row.lt;have h3:=h.res.lt;exact ⟨ho.mono h1,by omega,fun e=>by have:=(h.yU.sh.dF e).2;omega,by omega⟩
 ·cases hu;have:=(h.kr K hK).1.lt;omega
theorem sE.done{h:Nat}{cs:List (Nd h)}{k0:Nat}{a:List B.Lk}{f:Int}{Z:List S.Sh}{K g c:Nat}(hq:sE w0 lo pb pv P tx l w sv H wx sx (Z++(bZ (aV (eB P) h) (cs.take 1) k0).2.map (gK tx)) (some K) (some (g,c)))(hw0:w0.heap.size≤w.heap.size):zU w0 lo pb pv P tx cs k0 a l f w sv Z H K g c 0 1 ((wx.setCell ⟨K,0,none⟩ (.int .i64 f)).setCell ⟨K,1,none⟩ (.slice (some ⟨g,0,none⟩) l.length c)) sx:=by
 obtain ⟨k1,k2,k3,k4,k5⟩:=hq.kr K rfl;obtain ⟨u1,u2,u3,u4⟩:=hq.ur g c rfl;have hkg:=hq.ku K g c rfl rfl;have dE:=(bJ.set K 0 wx (.int .i64 f)).trans (bJ.set K 1 (wx.setCell ⟨K,0,none⟩ (.int .i64 f)) (.slice (some ⟨g,0,none⟩) l.length c));have h3:=hq.yU;have hH:=hq.BS;refine ⟨⟨⟨dE.os.trans h3.eZ.os,dE.tape.trans h3.eZ.tape,dE.output.trans h3.eZ.output,ar h3.eZ.size dE.size,fun k hk=>(dE.block k (aq hk h3.eZ.size) (by omega)).trans (h3.eZ.block k hk)⟩,(dE.block pb h3.row.lt (fun e=>k3 e.symm)).trans h3.row,h3.sh.same fun g' vT=>dE.block g' (h3.sh.dF vT).2 (fun e=>k4 (e▸vT)),h3.ord,ar h3.lo dE.size,h3.pg,h3.pl⟩,?_,B.au.two k1 _ _,?_,(dE.block H hq.res.lt k5).trans hq.res,⟨hkg,k5,u4⟩,⟨k3,hH.2.1,u2⟩,fun b hb=>?_,k2,hH.1⟩
 ·have h9:=hq.MU;exact ⟨ar h9.size dE.size,fun k hk h1 h2=>(dE.block k (aq hk h9.size) (by omega)).trans (h9.block k hk h1 h2),h9.own⟩
 ·have e:qu a l 0=l:=by simp [qu]
  rw [e];refine rF u1 fun g' vT=>?_
  have e:g=g':=by simpa [Value.ownBlock] using vT
  subst e;exact dE.block g (u1.dF g rfl).2 (fun e=>hkg e.symm)
 ·simp only [dP,dA,or_false] at hb;rcases hb with rfl | rfl | rfl
  ·exact k4
  ·exact hH.2.2
  ·exact u3
theorem zU.fin{h:Nat}{cs:List (Nd h)}{k0:Nat}{a:List B.Lk}{f:Int}{Z:List S.Sh}{K g c i j:Nat}(hB:zU w0 lo pb pv P tx cs k0 a l f w sv Z H K g c i j wx sx)(hw0:w0.heap.size≤w.heap.size)(x y:Value):B.di ((wx.setCell ⟨H,0,none⟩ x).setCell ⟨H,1,none⟩ y) (.slice (some ⟨g,0,none⟩) l.length c) (qu a l i)∧pR w0 lo pb pv P tx ((wx.setCell ⟨H,0,none⟩ x).setCell ⟨H,1,none⟩ y) sx (Z++(bZ (aV (eB P) h) (cs.take j) k0).2.map (gK tx))∧mL pb w sv ((wx.setCell ⟨H,0,none⟩ x).setCell ⟨H,1,none⟩ y) sx:=by
 have dE:=(bJ.set H 0 wx x).trans (bJ.set H 1 (wx.setCell ⟨H,0,none⟩ x) y);have h3:=hB.yU;have BS:=hB.ge;refine ⟨(rF hB.lk fun g' vT=>?_).at,⟨⟨dE.os.trans h3.eZ.os,dE.tape.trans h3.eZ.tape,dE.output.trans h3.eZ.output,ar h3.eZ.size dE.size,fun k hk=>(dE.block k (aq hk h3.eZ.size) (by omega)).trans (h3.eZ.block k hk)⟩,(dE.block pb h3.row.lt (fun e=>hB.nb.2.1 e.symm)).trans h3.row,h3.sh.same fun g' vT=>dE.block g' (h3.sh.dF vT).2 (fun e=>hB.no H (by simp) (e▸vT)),h3.ord,ar h3.lo dE.size,h3.pg,h3.pl⟩,?_⟩
 ·have e:g=g':=by simpa [Value.ownBlock] using vT
  subst e;exact dE.block g hB.NB (fun e=>hB.ne.2.2 e.symm)
 ·have h9:=hB.MU;exact ⟨ar h9.size dE.size,fun k hk h1 h2=>(dE.block k (aq hk h9.size) (by omega)).trans (h9.block k hk h1 h2),h9.own⟩
theorem sE.Vm{h:Nat}{cs:List (Nd h)}{k0:Nat}{a:List B.Lk}{f:Int}{Z:List S.Sh}{g c:Nat}(hq:sE w0 lo pb pv P tx l w sv H wx sx (Z++(bZ (aV (eB P) h) (cs.take 1) k0).2.map (gK tx)) none (some (g,c))):zU w0 lo pb pv P tx cs k0 a l f w sv Z H wx.heap.size g c 0 1 (wx.alloc (.cells #[.int .i64 f,.slice (some ⟨g,0,none⟩) l.length c] 150)) sx:=by
 have hb:=hq.below (ai wx (.cells #[.int .i64 f,.slice (some ⟨g,0,none⟩) l.length c] 150));obtain ⟨u1,u2,u3,u4⟩:=hb.ur g c rfl;have hg:=((hq.ur g c rfl).1.dF g rfl).2;have h1:=hq.MU.size;have h2:=hq.yU.row.lt;have h3:=hq.res.lt;have hH:=hb.BS;have hnk:sx.ownBlock≠some wx.heap.size:=fun e=>by have:=(hq.yU.sh.dF e).2;omega
 refine ⟨hb.yU,hb.MU,B.au.new wx _ _,?_,hb.res,⟨by omega,by omega,u4⟩,⟨by omega,hH.2.1,u2⟩,fun b M5=>?_,h1,hH.1⟩
 ·have e:qu a l 0=l:=by simp [qu]
  rw [e];exact u1
 ·simp only [dP,dA,or_false] at M5;rcases M5 with rfl | rfl | rfl
  ·exact hnk
  ·exact hH.2.2
  ·exact u3
end
attribute [local go_sem ↓] Go.wp_at_zero Go.wp_at_succ
section
variable {base:Nat} {A:Nat→Addr} {db:Nat} {F:Nat→Prop} {d:S.V.bw} {w0:World} {tb:Nat} {x:Bx} {fr en:ByteArray} {lim lo:Nat}
def JU(base:Nat)(A:Nat→Addr)(db:Nat)(F:Nat→Prop)(d:S.V.bw)(w0:World)(tb:Nat)(x:Bx)(fr en:ByteArray)(lim lo:Nat)(h:Nat):Prop :=
 ∀ (p:C.Ch) (t:Nd h) (dp:Nat) (w:World) (v:Value) (acc:List Pr) (M:List Nat),ew (cM d) w0 h p t→jF ⟨h,t⟩→Gs base A db F d w0 tb x fr en lim lo w v acc M→dp+h≤64→(acc.length+(flat h t).length)*32≤140737488355328→(dG h t).Nodup→(∀ i ∈ dG h t,i ∉ M)→M.length+(dG h t).length<1099511627776 →
  Calls prog 90 #[p.val,.int .i64 (dp:Int),.pointer (some ⟨x.m,0,none⟩),.pointer (some ⟨x.f,0,none⟩),.pointer (some ⟨x.t,0,none⟩),.pointer (some ⟨x.fr,0,none⟩),.pointer (some ⟨x.en,0,none⟩),.pointer (some ⟨x.p,0,none⟩),.pointer (some ⟨x.l,0,none⟩),.pointer (some ⟨x.g,0,none⟩)] w
   (FA base A db F d w0 tb x fr en lim lo w v M (dG h t) (fw fr en lim h t acc))
structure Is(base:Nat)(A:Nat→Addr)(db:Nat)(F:Nat→Prop)(d:S.V.bw)(w0:World)(tb:Nat)(x:Bx)(fr en:ByteArray)(lim lo:Nat){h:Nat}(t:Nd (h+1))(w:World)(v:Value)(acc:List Pr)(M:List Nat)(b:Nat)(n:SN)(pv lv cv:Value)(k:Nat)(wr:World)(vk:Value)(ak:List Pr)(Mk:List Nat):Prop where
 gs:Gs base A db F d w0 tb x fr en lim lo wr vk ak Mk
 gth:wo db x.p x.mb w v wr vk
 br:Br wr b n pv lv cv
 room:ak.length+((t.2.2.drop k).flatMap (flat h)).length≤acc.length+(flat (h+1) t).length
 mem:∀ i ∈ Mk,i ∈ M∨i ∈ cY t.1++(t.2.2.take k).flatMap (dG h)
 len:Mk.length≤M.length+(cY t.1++(t.2.2.take k).flatMap (dG h)).length
variable {h:Nat} {t:Nd (h+1)} {w:World} {v:Value} {acc:List Pr} {M:List Nat} {b:Nat} {n:SN} {pv lv cv:Value} {k:Nat} {wr:World} {vk:Value} {ak:List Pr} {Mk:List Nat}
theorem ru(k:Nat):(cY t.1++(t.2.2.take k).flatMap (dG h)).Sublist (dG (h+1) t):=List.Sublist.append_left (IW k) _
theorem Is.below{W:World}(hl:Is base A db F d w0 tb x fr en lim lo t w v acc M b n pv lv cv k wr vk ak Mk)(hb:Below wr.heap.size wr W):Is base A db F d w0 tb x fr en lim lo t w v acc M b n pv lv cv k W vk ak Mk :=
 ⟨hl.gs.below hb,hl.gth.trans (wo.below vk hb),⟨hl.br.row.below hb,hl.br.bh.below hb,hl.br.kids.below hb⟩,hl.room,hl.mem,hl.len⟩
theorem Is.out{e:Bool}(hl:Is base A db F d w0 tb x fr en lim lo t w v acc M b n pv lv cv k wr vk ak Mk)(hr:fw fr en lim (h+1) t acc=(ak,e)):FA base A db F d w0 tb x fr en lim lo w v M (dG (h+1) t) (fw fr en lim (h+1) t acc) (.returned (.bool e)) wr:=by
 refine ⟨vk,Mk,by rw [hr],by rw [hr];exact hl.gs,hl.gth,fun i hi=>(hl.mem i hi).imp id fun h=>(ru k).subset h,?_⟩
 have:=(ru (t:=t) k).length_le;have:=hl.len;omega
theorem drop_cons{α:Type}{l:List α}{i:Nat}{c:α}(h:l[i]?=some c):l.drop i=c::l.drop (i+1):=by
 obtain ⟨hi,hv⟩:=List.getElem?_eq_some_iff.1 h;rw [a7 hi,hv]
theorem Qm{c:Nd h}{ak:List Pr}(hg:jF ⟨h,c⟩)(hl:ak.length≤lim):(fw fr en lim h c ak).1.length≤ak.length+(flat h c).length:=by
 have ho:∃ lo hi,Ok h c lo hi:=by
  cases h with
  | zero=>exact hg.1
  | succ h=>exact hg.1
 obtain ⟨lo,hi,ho⟩:=ho;have:=(BZ (fr:=fr) (en:=en) h ho hl).1;rw [this,ae,ag];have:=List.length_filter_le (jk fr en) (flat h c);omega
theorem Is.qT{c:Nd h}{p:C.Ch}{dp:Nat}(IH:JU base A db F d w0 tb x fr en lim lo h)(nK:jF ⟨h+1,t⟩)(hl:Is base A db F d w0 tb x fr en lim lo t w v acc M b n pv lv cv k wr vk ak Mk)(hc:t.2.2[k]?=some c)(hk:ew (cM d) w0 h p c)(P3:dp+(h+1)≤64)(eh:(acc.length+(flat (h+1) t).length)*32≤140737488355328)(jw:(dG (h+1) t).Nodup)(lX:∀ i ∈ dG (h+1) t,i ∉ M)(nx:M.length+(dG (h+1) t).length<1099511627776):Calls prog 90 #[p.val,.int .i64 ((dp:Int)+1),.pointer (some ⟨x.m,0,none⟩),.pointer (some ⟨x.f,0,none⟩),.pointer (some ⟨x.t,0,none⟩),.pointer (some ⟨x.fr,0,none⟩),.pointer (some ⟨x.en,0,none⟩),.pointer (some ⟨x.p,0,none⟩),.pointer (some ⟨x.l,0,none⟩),.pointer (some ⟨x.g,0,none⟩)] wr fun e w'=>∃ v' M',e = .returned (.bool (fw fr en lim h c ak).2)∧Is base A db F d w0 tb x fr en lim lo t w v acc M b n pv lv cv (k+1) w' v' (fw fr en lim h c ak).1 M':=by
 have hgc:jF ⟨h,c⟩:=mB nK hc;have hdc:=drop_cons hc;have hrm:=hl.room;rw [hdc,List.flatMap_cons,ae] at hrm;obtain ⟨vj,G7⟩:=IX hc jw;have FG:=xo hc;have oD:=(ru (t:=t) (k+1)).length_le;rw [FG] at oD;simp only [ae] at oD;have hlen:=hl.len;rw [ae] at hlen;refine (IH p c (dp+1) wr vk ak Mk hk hgc hl.gs (by omega) (by omega) vj (fun i hi hm=>?_) (by omega)).mono ?_
 ·rcases hl.mem i hm with h1 | h1
  ·exact lX i ((ru (k+1)).subset (by rw [FG];simp [hi])) h1
  ·rcases List.mem_append.1 h1 with h2 | h2
   ·exact (G7 i hi).1 h2
   ·exact (G7 i hi).2 h2
 ·rintro e w' ⟨v',M',rfl,h1,h2,h3,h4⟩;refine ⟨v',M',rfl,h1,hl.gth.trans h2,hl.br.gth h2 hl.gs.dv hl.gs.row (by decide) hl.gs.ps hl.gs.met,?_,fun i hi=>?_,?_⟩
  ·have:=Qm (fr:=fr) (en:=en) hgc hl.gs.len;omega
  ·rw [FG];rcases h3 i hi with h | h
   ·rcases hl.mem i h with h | h
    ·exact .inl h
    ·exact .inr (by
      rcases List.mem_append.1 h with h | h
      ·exact dZ _ h
      ·exact cd _ (dZ _ h))
   ·exact .inr (cd _ (cd _ h))
  ·rw [FG];simp only [ae];omega
end
end T
end Go.Proofs.YtihmgigfkmofnaaGreatDoor
