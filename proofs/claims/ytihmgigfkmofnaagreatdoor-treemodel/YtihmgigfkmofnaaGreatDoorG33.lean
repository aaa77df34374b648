import Derived.Test.YtihmgigfkmofnaaGreatDoorG32
import Derived.BigRegion
set_option maxHeartbeats 4000000
set_option maxRecDepth 100000
open Go.Proofs.Tryz
namespace Go.Proofs.YtihmgigfkmofnaaGreatDoor
namespace T
open Go.RowKit
structure Bv where
 m:Nat
 mb:Nat
 f:Nat
 e:Nat
 t:Nat
 v:Nat
 p:Nat
structure Vs(base:Nat)(A:Nat→Addr)(db:Nat)(F:Nat→Prop)(d:S.V.bq)(w0:World)(tb:Nat)(x:Bv)(lo:Nat)(w:World)(v:Value)(acc M:List Nat):Prop where
 dv:Dv base A db F d w
 mv:Mv db F w0 w
 cm:w.cell? ⟨x.m,0,none⟩=some (.map (some x.mb))
 ce:w.cell? ⟨x.e,0,none⟩=some (.func (.func 66) #[] #[.pointer (some ⟨x.p,0,none⟩)])
 ct:w.cell? ⟨x.t,0,none⟩=some (.pointer (some ⟨tb,0,none⟩))
 cv:w.cell? ⟨x.v,0,none⟩=some (.func (.func 103) #[] #[.pointer (some ⟨x.m,0,none⟩),.pointer (some ⟨x.f,0,none⟩),.pointer (some ⟨x.e,0,none⟩),.pointer (some ⟨x.t,0,none⟩),.pointer (some ⟨x.v,0,none⟩)])
 cf:B.ax w x.f #[.nilIface] 32
 row:B.ax w x.p #[v] 69
 ps:vi w lo v acc
 met:Met w x.mb M
 DM:M.length<1099511627776
 ord:∀ b ∈ [x.m,x.f,x.e,x.t,x.v,x.p,x.mb],w0.heap.size≤b∧b<lo
 no:∀ b ∈ [x.m,x.e,x.t,x.v],b≠x.f∧b≠x.p
 fp:x.f≠x.p
 Tx:db<w0.heap.size
 lo:lo≤w.heap.size
section
variable {base:Nat} {A:Nat→Addr} {db:Nat} {F:Nat→Prop} {d:S.V.bq} {w0:World} {tb:Nat} {x:Bv} {lo:Nat} {w w':World} {v v':Value} {acc Mq M M':List Nat}
theorem Vs.keep(h:Vs base A db F d w0 tb x lo w v acc M)(hv:Dv base A db F d w')(hm:Mv db F w0 w')(hs:w.heap.size≤w'.heap.size)(hb:∀ k,k<lo→k≠db→k≠x.mb→k≠x.f→k≠x.p→w'.heap[k]?=w.heap[k]?)(hf:B.ax w' x.f #[.nilIface] 32)(hr:B.ax w' x.p #[v'] 69)(hp:vi w' lo v' Mq)(Y6:Met w' x.mb M')(ny:M'.length<1099511627776):Vs base A db F d w0 tb x lo w' v' Mq M':=by
 have hc:∀ b ∈ [x.m,x.e,x.t,x.v],∀ u,w.cell? ⟨b,0,none⟩=some u→w'.cell? ⟨b,0,none⟩=some u:=fun b MR u hc=>by
  have ho:=h.ord b (by simp only [dN,dA,or_false] at MR ⊢;rcases MR with rfl | rfl | rfl | rfl <;> simp)
  have hn:=h.no b MR;have:=h.Tx;exact bV (hb b ho.2 (by omega) (h.met.ne hc) hn.1 hn.2) hc
 exact ⟨hv,hm,hc _ (by simp) _ h.cm,hc _ (by simp) _ h.ce,hc _ (by simp) _ h.ct,hc _ (by simp) _ h.cv,hf,hr,hp,Y6,ny,h.ord,h.no,h.fp,h.Tx,al h.lo hs⟩
theorem Vs.bU(h:Vs base A db F d w0 tb x lo w v acc M)(hs:w.heap.size≤w'.heap.size)(hb:∀ k,k<w.heap.size→k≠db→k≠x.mb→k≠x.f→k≠x.p→v.ownBlock≠some k→w'.heap[k]?=w.heap[k]?):cM w w':=⟨hs,fun k hk=>by
 by_cases h1:k=db
 ·subst h1;obtain ⟨d',_,hd⟩:=h.dv.dev;refine .inr ⟨fun j u hc=>kZ hd hc,?_,?_⟩
  ·intro cs fr h1;obtain ⟨mb,nb,Ku,av,Dn,hb⟩:=hd;rw [hb.dn] at h1;simp at h1
  ·intro cs fr h1;obtain ⟨mb,nb,Ku,av,Dn,hb⟩:=hd;rw [hb.dn] at h1;simp at h1
 ·by_cases h2:k=x.mb
  ·subst h2;obtain ⟨es,clock,h2,_⟩:=h.met.map;refine .inr ⟨fun j u hc=>absurd rfl (h.met.ne hc),?_,?_⟩
   ·intro cs fr e;rw [h2] at e;cases e
   ·intro cs fr e;rw [h2] at e;cases e
  ·by_cases h3:k=x.f
   ·subst h3;have hf:=h.cf;unfold B.ax at hf;refine .inr ⟨fun j u hc=>?_,?_,?_⟩
    ·rw [cell_of_row w _ j _ _ _ hf] at hc;obtain ⟨h5,h6⟩:=Array.getElem?_eq_some_iff.1 hc;have:j=0:=by simp at h5;omega
     subst this;have h6:Value.nilIface=u:=h6;subst h6;exact ⟨(fun s e=>by cases e),(fun t x e=>by cases e)⟩
    ·intro cs fr e;rw [hf] at e;simp at e
    ·intro cs fr e;rw [hf] at e;simp at e
   ·by_cases h4:k=x.p
    ·subst h4;have hf:=h.row;unfold B.ax at hf;obtain ⟨a,c,jS⟩:=h.ps.form;refine .inr ⟨fun j u hc=>?_,?_,?_⟩
     ·rw [cell_of_row w _ j _ _ _ hf] at hc;obtain ⟨h5,h6⟩:=Array.getElem?_eq_some_iff.1 hc;have:j=0:=by simp at h5;omega
      subst this;have h6:v=u:=h6;subst h6;rw [jS];exact ⟨(fun s e=>by cases e),(fun t x e=>by cases e)⟩
     ·intro cs fr e;rw [hf] at e;simp at e
     ·intro cs fr e;rw [hf] at e;simp at e
    ·by_cases h5:v.ownBlock=some k
     ·exact .inr (h.ps.odd h5)
     ·exact .inl (hb k hk h1 h2 h3 h4 h5)⟩
theorem Vs.go(h:Vs base A db F d w0 tb x lo w v acc M)(hm:Mv db F w w')(hv:Dv base A db F d w'):Vs base A db F d w0 tb x lo w' v acc M:=by
 have ho:=h.ord;have hd:=h.Tx;have dK:∀ b ∈ [x.m,x.f,x.e,x.t,x.v,x.p,x.mb],b≠db:=fun b hb=>by have:=ho b hb;omega
 exact h.keep hv (h.mv.trans hm) hm.size (fun k hk h1 _ _ _=>hm.one.block k (ar hk h.lo) h1) ((hm.one.block x.f h.cf.lt (dK _ (by simp))).trans h.cf) ((hm.one.block x.p h.row.lt (dK _ (by simp))).trans h.row) (h.ps.same fun g hg=>by
  have:=h.ps.dn hg;have:=ho x.p (by simp)
  exact hm.one.block g (by omega) (by omega)) (h.met.same (hm.one.block x.mb h.met.lt (dK _ (by simp)))) h.DM
theorem Vs.below(h:Vs base A db F d w0 tb x lo w v acc M)(hb:Below w.heap.size w w'):Vs base A db F d w0 tb x lo w' v acc M:=h.go (Mv.of hb) (h.dv.below hb)
theorem Vs.meet(h:Vs base A db F d w0 tb x lo w v acc M)(gi:Dv base A db F d w0)(hm:Met w' x.mb M')(ny:M'.length<1099511627776)(hg:w.grownBy w' (some x.mb)):Vs base A db F d w0 tb x lo w' v acc M'∧cM w w':=by
 have ho:=h.ord;have si:=h.lo;have pW:w.heap.size≤w'.heap.size:=hg.size;have dK:∀ k,k≠x.mb→some k≠some x.mb:=fun k hk e=>hk (Option.some.inj e)
 have hom:=ho x.mb (by simp)
 have lU:Below w0.heap.size w w':=⟨hg.os,hg.tape,hg.output,pW,fun k hk=>hg.block k (by omega) (dK k (by omega))⟩
 obtain ⟨ye,zD⟩:=h.dv.grown lU h.mv gi;refine ⟨h.keep ye zD pW (fun k hk _ h2 _ _=>hg.block k (by omega) (dK k h2)) ((hg.block x.f h.cf.lt (dK _ (h.met.ne (h.cf.cell 0 (by simp))))).trans h.cf) ((hg.block x.p h.row.lt (dK _ (h.met.ne (h.row.cell 0 (by simp))))).trans h.row) (h.ps.same fun g G7=>?_) hm ny,h.bU pW fun k hk _ h2 _ _ _=>hg.block k hk (dK k h2)⟩
 have:=h.ps.dn G7;exact hg.block g this.2 (dK _ (by omega))
theorem Vs.nil(h:Vs base A db F d w0 tb x lo w v acc M)(gi:Dv base A db F d w0):Vs base A db F d w0 tb x lo (w.setCell ⟨x.f,0,none⟩ .nilIface) v acc M∧cM w (w.setCell ⟨x.f,0,none⟩ .nilIface):=by
 have ho:=h.ord;have si:=h.lo;have dF:=bL.set x.f 0 w .nilIface;have hof:=ho x.f (by simp)
 have lU:Below w0.heap.size w (w.setCell ⟨x.f,0,none⟩ .nilIface):=⟨dF.os,dF.tape,dF.output,dF.size,fun k hk=>dF.block k (by omega) (by omega)⟩
 obtain ⟨ye,zD⟩:=h.dv.grown lU h.mv gi;refine ⟨h.keep ye zD dF.size (fun k hk _ _ h3 _=>dF.block k (by omega) h3) (rC h.cf _) ((dF.block x.p h.row.lt h.fp.symm).trans h.row) (h.ps.same fun g G7=>?_) (h.met.same (dF.block x.mb h.met.lt (fun e=>h.met.ne (h.cf.cell 0 (by simp)) e.symm))) h.DM,h.bU dF.size fun k hk _ _ h3 _ _=>dF.block k hk h3⟩
 have:=h.ps.dn G7;exact dF.block g this.2 (by omega)
theorem Vs.push(h:Vs base A db F d w0 tb x lo w v acc M)(gi:Dv base A db F d w0)(p:Nat)(hn:acc.length≤1099511627776):∃ a' c' w',(Builtin.append_ #[69,69] 69 #[v,.slice (some ⟨w.heap.size,0,none⟩) 1 1]).run prog (w.alloc (.cells #[.int .i64 (p:Int)] 3)) = .ok (.slice a' (acc.length+1) c') w'∧w'.frozen? ⟨x.p,0,none⟩=false∧w'.cell? ⟨x.p,0,none⟩=some v∧Vs base A db F d w0 tb x lo (w'.setCell ⟨x.p,0,none⟩ (.slice a' (acc.length+1) c')) (.slice a' (acc.length+1) c') (acc++[p]) M∧cM w (w'.setCell ⟨x.p,0,none⟩ (.slice a' (acc.length+1) c')):=by
 have ho:=h.ord;have si:=h.lo;obtain ⟨a',c',w',hr,kB,hg⟩:=vi.push lo v acc p w h.ps hn si;have aP:=ai w (.cells #[.int .i64 (p:Int)] 3);have cx:(w.alloc (.cells #[.int .i64 (p:Int)] 3)).heap.size=w.heap.size+1:=by simp
 have pW:=hg.size;have Pm:=ho x.p (by simp)
 have fM:∀ b,b<lo→some b≠v.ownBlock:=fun b hb e=>by
  have:=(h.ps.dn e.symm).1;omega
 have PS:∀ k,k<w.heap.size→some k≠v.ownBlock→w'.heap[k]?=w.heap[k]?:=fun k hk h1=>(hg.block k (by omega) h1).trans (aP.block k hk)
 have bG:B.ax w' x.p #[v] 69:=(PS x.p h.row.lt (fM _ Pm.2)).trans h.row;have dF:=bL.set x.p 0 w' (.slice a' (acc.length+1) c');have jy:=dF.size;have xS:w.heap.size≤(w'.setCell ⟨x.p,0,none⟩ (.slice a' (acc.length+1) c')).heap.size:=by omega
 have dj:∀ k,k<w.heap.size→k≠x.p→some k≠v.ownBlock→(w'.setCell ⟨x.p,0,none⟩ (.slice a' (acc.length+1) c')).heap[k]?=w.heap[k]?:=fun k hk h1 h2=>(dF.block k (by omega) h1).trans (PS k hk h2)
 have lU:Below w0.heap.size w (w'.setCell ⟨x.p,0,none⟩ (.slice a' (acc.length+1) c')):=⟨dF.os.trans (hg.os.trans aP.os),dF.tape.trans (hg.tape.trans aP.tape),dF.output.trans (hg.output.trans aP.output),xS,fun k hk=>dj k (by omega) (by omega) (fM k (by omega))⟩
 obtain ⟨ye,zD⟩:=h.dv.grown lU h.mv gi;have hof:=ho x.f (by simp)
 have hom:=ho x.mb (by simp)
 refine ⟨a',c',w',hr,by unfold B.ax at bG;simp [World.frozen?,bG],bG.cell 0 (by simp),h.keep ye zD xS (fun k hk _ _ _ h4=>dj k (by omega) h4 (fM k hk)) ((dj x.f h.cf.lt h.fp (fM _ hof.2)).trans h.cf) (rC bG _) (kB.same fun g G7=>?_) (h.met.same (dj x.mb h.met.lt (fun e=>h.met.ne (h.row.cell 0 (by simp)) e.symm) (fM _ hom.2))) h.DM,h.bU xS fun k hk _ _ _ h4 h5=>dj k hk h4 (fun e=>h5 e.symm)⟩
 have:=kB.dn G7;exact dF.block g this.2 (by omega)
theorem Vs.again{h:Nat}{p:C.Ch}{t:Nd h}(hg:Vs base A db F d w0 tb x lo w v acc M)(gi:Dv base A db F d w0)(hk:eu (cJ d) w0 h p t)(lZ:∀ i ∈ dE h t,i ∉ M)(ny:M.length+(dE h t).length<1099511627776):Calls prog 91 #[.map (some x.mb),p.val] w fun e w'=>e = .returned (.bool false)∧Vs base A db F d w0 tb x lo w' v acc (M++df (fx h t))∧cM w w':=by
 obtain ⟨h1,h2⟩:=xM hk;have fM:decide (fx h t ∈ M)=false:=by
  rw [decide_eq_false_iff_not];intro hm;have h3:=hg.met.ok _ hm;refine lZ _ (Gx _ ?_) hm;unfold df;rw [if_neg (by omega)]
  simp
 refine (rR p (fx h t) h1 h2 x.mb M w hg.met hg.DM).mono ?_
 rintro e w' ⟨rfl,hm,AQ⟩;rw [I4] at hm;have hl:=IW (t:=t);obtain ⟨g1,g2⟩:=hg.meet gi hm (by rw [ae];omega) AQ
 exact ⟨by rw [fM],g1,g2⟩
end
attribute [local go_sem ↓] Go.wp_at_zero Go.wp_at_succ
theorem s7{ops:Array Oper}{rest:List Oper}{o:Oper}{a:Act}{Q:Exit→Act→World→Prop}(w:World)(hg:o.guard=none)(t:TypeId)(x y:Operand)(ho:o.op = .call { callee:=.builtin .append,args:=#[x,y],argTypes:=#[t,t] })(zq:o.type=t)(vx vy:Value)(hx:a.eval x=vx)(hy:a.eval y=vy)(v:Value)(w':World)
  (bg:(Builtin.append_ #[t,t] t #[vx,vy]).run prog w = .ok v w') (hK:wpList prog ops Q rest (a.put o.dst v) w'):wpList prog ops Q (o::rest) a w:=by
 refine wpList_plain hg fun K' ZU=>?_
 unfold Oper.wp;simp [execOp,ho,resolve,invoke,builtin,hx,hy,zq,bg,Result.andThen]
 exact ZU _ _ hK
section
variable {base:Nat} {A:Nat→Addr} {db:Nat} {F:Nat→Prop} {d:S.V.bq} {w0:World} {tb:Nat} {x:Bv} {lo:Nat} {w:World} {v:Value} {acc M:List Nat}
theorem CT(p:C.Ch)(i:Nat)(hi:SO p=(i:Int))(s:ByteArray)(lv:Int)(h:Vs base A db F d w0 tb x lo w v acc M)(gi:Dv base A db F d w0)(hn:acc.length≤1099511627776):Calls prog 66 #[p.val,.string s,.int .i64 lv,.pointer (some ⟨x.p,0,none⟩)] w fun e w'=>e = .returned (.tuple #[])∧(∃ v',Vs base A db F d w0 tb x lo w' v' (acc++df i) M)∧cM w w':=by
 have HP:=ab (xm p w);rw [hi] at HP;obtain ⟨pt,px,gw⟩:=bz p;rw [gw] at HP ⊢;have HS:=ab h;have hpu:=h.push gi i hn;have kp:w.cell? ⟨x.p,0,none⟩=some v:=h.row.cell 0 (by simp)
 obtain ⟨va,vc,jS⟩:=h.ps.form;obtain ⟨a',c',w',bg,kfz,kp',hvs,haw⟩:=hpu;have sG:=ab bg;have nY:Hid ((∃ v',Vs base A db F d w0 tb x lo (w'.setCell ⟨x.p,0,none⟩ (.slice a' (acc.length+1) c')) v' (acc++[i]) M)∧cM w (w'.setCell ⟨x.p,0,none⟩ (.slice a' (acc.length+1) c'))):=⟨⟨_,hvs⟩,haw⟩;clear h gw hi gi hn hvs haw bg;by_cases h0:i=0
 ·subst h0;clear nY sG kfz kp';go_enter func66,ntmps66;go_wp2_with fail;refine HP.out.mono ?_
  rintro e w1 ⟨rfl,rfl⟩;go_wp2;go_end0
  exact ⟨rfl,⟨v,by rw [show df 0=[] from rfl,List.append_nil];exact HS.out⟩,cM.refl _⟩
 ·have h1:((i:Int) != 0)=true:=by simp;omega
  have HO:Hid (df i=[i]):=by show df i=[i];unfold df;rw [if_neg h0]
  subst jS;clear h0;go_enter func66,ntmps66;go_wp2_with fail;refine HP.out.mono ?_
  rintro e w1 ⟨rfl,rfl⟩;go_wp2_with (first | (at_builtin;refine s7 _ rfl 69 _ _ rfl rfl _ _ rfl rfl _ _ sG.out ?_))
  go_end0
  exact ⟨rfl,by rw [HO.out];exact nY.out.1,nY.out.2⟩
end
attribute [local go_sem ↓] Go.wp_at_zero Go.wp_at_succ
section
variable {w0:World} {lo pb:Nat} {pv:Value} {P:List Nat} {tx:Nat} {w:World} {sv:Value} {Z Z1:List S.Sh}
theorem uG(b:Nat)(kd cn:Int)(body:ByteArray)(hP:pY w0 lo pb pv P tx w sv Z)(FD:Calls prog 149 #[.pointer (some ⟨pb,0,none⟩),.pointer (some ⟨b,0,none⟩)] w fun e w'=>∃ Xg,e = .returned (.agg #[.int .i64 kd,.int .i64 0,.int .u64 0,.int .i64 cn,.string body])∧pY w0 lo pb pv P tx w' Xg Z1∧mN pb w sv w' Xg)(id:Nat)(hid:P[Z1.length]?=some id):Calls prog 112 #[.pointer (some ⟨pb,0,none⟩),.pointer (some ⟨b,0,none⟩)] w fun e w'=>∃ ov,e = .returned (.int .i64 (id:Int))∧pY w0 lo pb pv P tx w' ov (Z1++[⟨kd,id,tx,cn,body⟩])∧mN pb w sv w' ov:=by
 have FN:=ab FD;have HID:=ab hid;have o9:Hid (P.length≤1000000∧Z1.length<P.length):=⟨hP.pl,(List.getElem?_eq_some_iff.1 hid).1⟩;clear FD hP hid;go_enter func112,ntmps112;go_wp2_with fail;refine FN.out.mono ?_
 rintro e w1 ⟨Xg,rfl,h1,Eh⟩;obtain ⟨pa,pn,gw,YQ,YP,Cm⟩:=h1.pg;have FF:(Q.kS P).length=P.length:=by unfold Q.kS;rw [aA]
 obtain ⟨pg,po,Pj,BK⟩:=Cm Z1.length (.int .i64 (id:Int)) (by unfold Q.kS;rw [aL,HID.out];rfl)
 subst Pj;rw [FF] at gw YQ;subst gw;obtain ⟨sa,sc,hsv⟩:=h1.sh.form;subst hsv;obtain ⟨K,hK⟩ : ∃ K,w1.heap.size=K:=⟨_,rfl⟩;obtain ⟨W1,iy⟩ : ∃ W1,w1.alloc (.cells #[.int .i64 kd,.int .i64 0,.int .u64 0,.int .i64 cn,.string body] 87)=W1:=⟨_,rfl⟩;have aP:Below w1.heap.size w1 W1:=iy▸ai w1 _;have rK:B.ax W1 K #[.int .i64 kd,.int .i64 0,.int .u64 0,.int .i64 cn,.string body] 87:=by rw [← hK];exact iy▸B.ax.new w1 _ _
 have h2:=h1.below aP;have n0:=h2.row.cell 0 (by simp)
 have n1:=h2.row.cell 1 (by simp)
 have n2:=h2.row.cell 2 (by simp)
 have vU:pb≠K:=by have:=h1.row.lt;omega
 have hgk:pg≠K:=by
  have:=World.block_lt_of_cell? w0 _ BK;have:=h1.eV.size;have:pg<w0.heap.size:=by assumption
  omega
 have q0:W1.cell? ⟨pb,0,none⟩=some (.slice (some ⟨pg,po,none⟩) P.length pn):=n0;have q1:W1.cell? ⟨pb,1,none⟩=some (.int .u64 (tx:Int)):=n1;have q2:W1.cell? ⟨pb,2,none⟩=some (.slice sa Z1.length sc):=n2;have q3:W1.cell? ⟨pg,po+Z1.length,none⟩=some (.int .i64 (id:Int)):=(h2.eV.cell (p:=⟨pg,po+Z1.length,none⟩) (World.block_lt_of_cell? w0 _ BK)).trans BK;have c0:W1.cell? ⟨K,0,none⟩=some (.int .i64 kd):=rK.cell 0 (by simp)
 have c1:W1.cell? ⟨K,1,none⟩=some (.int .i64 0):=rK.cell 1 (by simp)
 have c2:W1.cell? ⟨K,2,none⟩=some (.int .u64 0):=rK.cell 2 (by simp)
 have c3:W1.cell? ⟨K,3,none⟩=some (.int .i64 cn):=rK.cell 3 (by simp)
 have c4:W1.cell? ⟨K,4,none⟩=some (.string body):=rK.cell 4 (by simp)
 have f1:=rK.free 1;have f2:=rK.free 2;have n7:(0:Int)≤(Z1.length:Int):=by omega
 have mW:(Z1.length:Int)<(P.length:Int):=by have:=o9.out.2;omega
 have HKW:Hid (w0.heap.size≤K):=by have:=h1.eV.size;show _≤_;omega
 have T4:Hid (w.heap.size≤K):=by have:=Eh.size;show _≤_;omega
 have JI:Hid (pb<K∧lo≤K):=⟨by have:=h1.row.lt;omega,by have:=h1.lo;omega⟩
 have HKO:Hid (∀ g,(Value.slice sa Z1.length sc).ownBlock=some g→g<K):=fun g hg=>by have:=(h1.sh.dn hg).2;omega
 have H2:=ab h2;have HRK:=ab rK;have yK:=ab (Eh.trans (mN.below _ aP));clear h1 Eh Cm YP FF n0 n1 n2 h2 rK aP FN BK YQ;go_wp2_with fail;go_region
 obtain ⟨W2,Hc⟩ : ∃ W2,(W1.setCell ⟨K,1,none⟩ (.int .i64 (id:Int))).setCell ⟨K,2,none⟩ (.int .u64 (tx:Int))=W2:=⟨_,rfl⟩;have uI:bL K W1 W2:=Hc▸(bL.set K 1 W1 _).trans (bL.set K 2 _ _);have Vr:B.ax W2 K #[.int .i64 kd,.int .i64 (id:Int),.int .u64 (tx:Int),.int .i64 cn,.string body] 87:=by
  have h9:=HRK.out;unfold B.ax at h9 ⊢;rw [← Hc,setCell_eq_setRow W1 K 1 _ _ (0,0) _ h9];have h8:=setRow_heap W1 K _ ((#[.int .i64 kd,.int .i64 0,.int .u64 0,.int .i64 cn,.string body] : Array Value).setIfInBounds 1 (.int .i64 (id:Int))) _ (0,0) h9;rw [setCell_eq_setRow _ K 2 _ _ (0,0) _ h8];exact setRow_heap _ K _ _ _ (0,0) h8
 have h3:=H2.out;have acf:K<W1.heap.size:=HRK.out.lt;have dK:∀ k,k<K→W2.heap[k]?=W1.heap[k]?:=fun k hk=>uI.block k (by omega) (by omega)
 have hK1:=T4.out;have acp:pb<K:=JI.out.1;have Yx:mN pb w sv W2 (.slice sa Z1.length sc):=by
  have h9:=yK.out;exact ⟨al h9.size uI.size,fun k hk h1 h2=>(dK k (by omega)).trans (h9.block k hk h1 h2),h9.own⟩
 have hP3:pY w0 lo pb (.slice (some ⟨pg,po,none⟩) P.length pn) P tx W2 (.slice sa Z1.length sc) Z1:=by
  have si:=JI.out.2;refine ⟨⟨uI.os.trans h3.eV.os,uI.tape.trans h3.eV.tape,uI.output.trans h3.eV.output,al h3.eV.size uI.size,fun k hk=>(dK k (by have:=HKW.out;omega)).trans (h3.eV.block k hk)⟩,(dK pb acp).trans h3.row,h3.sh.same fun g hg=>dK g (HKO.out g hg),h3.ord,al h3.lo uI.size,h3.pg,h3.pl⟩
 have PI:Below W2.heap.size W2 W2.drew.drew:=B.aN (B.aN (Below.refl _ _));obtain ⟨a',c',w',bg,kfz,kp,hPn,ZT⟩:=(hP3.below PI).push ⟨kd,id,tx,cn,body⟩ (by have:=o9.out;omega)
 have Uv:(Builtin.append_ #[83,83] 83 #[.slice sa Z1.length sc,.slice (some ⟨W2.heap.size,0,none⟩) 1 1]).run prog (W2.alloc (.cells #[.int .i64 kd,.int .i64 (id:Int),.int .u64 (tx:Int),.int .i64 cn,.string body] 87)).drew.drew = .ok (.slice a' (Z1.length+1) c') w':=bg;have hPt:=(mN.below (.slice sa Z1.length sc) PI).trans ZT;have sG:=ab Uv;have nY:Hid (pY w0 lo pb (.slice (some ⟨pg,po,none⟩) P.length pn) P tx (w'.setCell ⟨pb,2,none⟩ (.slice a' (Z1.length+1) c')) (.slice a' (Z1.length+1) c') (Z1++[⟨kd,id,tx,cn,body⟩])∧mN pb w sv (w'.setCell ⟨pb,2,none⟩ (.slice a' (Z1.length+1) c')) (.slice a' (Z1.length+1) c')):=⟨hPn,Yx.trans hPt⟩;have d0:W2.cell? ⟨K,0,none⟩=some (.int .i64 kd):=Vr.cell 0 (by simp)
 have d1:W2.cell? ⟨K,1,none⟩=some (.int .i64 (id:Int)):=Vr.cell 1 (by simp)
 have d2:W2.cell? ⟨K,2,none⟩=some (.int .u64 (tx:Int)):=Vr.cell 2 (by simp)
 have d3:W2.cell? ⟨K,3,none⟩=some (.int .i64 cn):=Vr.cell 3 (by simp)
 have d4:W2.cell? ⟨K,4,none⟩=some (.string body):=Vr.cell 4 (by simp)
 have e2:W2.cell? ⟨pb,2,none⟩=some (.slice sa Z1.length sc):=hP3.row.cell 2 (by simp)
 have e3:(W2.alloc (.cells #[.int .i64 kd,.int .i64 (id:Int),.int .u64 (tx:Int),.int .i64 cn,.string body] 87)).cell? ⟨pb,2,none⟩=some (.slice sa Z1.length sc):=((ai W2 _).cell (p:=⟨pb,2,none⟩) (World.block_lt_of_cell? W2 _ e2)).trans e2;have pS:(w'.setCell ⟨pb,2,none⟩ (.slice a' (Z1.length+1) c')).cell? ⟨K,1,none⟩=some (.int .i64 (id:Int)):=bV (hPt.block K Vr.lt (by omega) (fun e=>by have:=HKO.out K e;omega)) d1
 clear uI Vr h3 acf dK hK1 Yx hP3 bg Uv hPn hPt ZT PI q0 q1 q2 q3 c0 c1 c2 c3 c4 f1 f2 iy yK H2 HRK n7 mW;go_wp2_with fail;go_region_law (first | (refine kI 83 rfl (.tmp 30) (.tmp 32) rfl rfl _ _ rfl rfl _ _ sG.out ?_))
 all_goals
  go_wp2;go_ret;exact ⟨_,rfl,nY.out.1,nY.out.2⟩
end
theorem tC{α β γ:Type}(g:α→Nat→β × List γ):∀ (cs:List α) (c:α) (k:Nat),b9 g (cs++[c]) k=((b9 g cs k).1++[(g c (k+(b9 g cs k).2.length)).1],(b9 g cs k).2++(g c (k+(b9 g cs k).2.length)).2)
 | [],c,k=>by simp [b9]
 | d::cs,c,k=>by
  have:=tC g cs c (k+(g d k).2.length);simp only [List.cons_append,b9,this,ae,ay,dM]
theorem D7{α β γ:Type}(g:α→Nat→β × List γ):∀ (xs bs:List α) (k:Nat),b9 g (xs++bs) k=((b9 g xs k).1++(b9 g bs (k+(b9 g xs k).2.length)).1,(b9 g xs k).2++(b9 g bs (k+(b9 g xs k).2.length)).2)
 | [],bs,k=>by simp [b9]
 | d::xs,bs,k=>by
  have:=D7 g xs bs (k+(g d k).2.length);simp only [List.cons_append,b9,this,ae,ay,dM]
theorem K0{α β γ:Type}(g:α→Nat→β × List γ)(cs:List α)(k i:Nat):(b9 g (cs.take i) k).1=(b9 g cs k).1.take i:=by
 by_cases h:i≤cs.length
 ·conv=>rhs;rw [← aG i cs,D7]
  exact (List.take_left' (by rw [iE,ag];omega)).symm
 ·have e:cs.take i=cs:=aq (by omega)
  rw [e];exact (aq (by rw [iE];omega)).symm
theorem I9{α β γ:Type}(g:α→Nat→β × List γ)(cs:List α)(k i:Nat)(c:α)(hc:cs[i]?=some c):(b9 g cs k).1[i]?=some (g c (k+(b9 g (cs.take i) k).2.length)).1∧(b9 g (cs.take (i+1)) k).2=(b9 g (cs.take i) k).2++(g c (k+(b9 g (cs.take i) k).2.length)).2:=by
 have hi:=(List.getElem?_eq_some_iff.1 hc).1;have e:cs.take (i+1)=cs.take i++[c]:=by rw [gm,hc];rfl
 have h1:=K0 g cs k (i+1);rw [e,tC] at h1;refine ⟨?_,by rw [e,tC]⟩
 have h2:((b9 g cs k).1.take (i+1))[i]?=(b9 g cs k).1[i]?:=by rw [List.getElem?_take_of_lt (by omega)]
 rw [← h2,← h1];simp only;rw [aZ (by rw [iE,ag];omega),iE,ag,a8 (by omega),dO]
 rfl
theorem xA{h:Nat}{cs:List (Nd h)}{i:Nat}{c:Nd h}(hn:(cs.flatMap (dE h)).Nodup)(hc:cs[i]?=some c):(dE h c).Nodup:=by
 obtain ⟨hi,hv⟩:=List.getElem?_eq_some_iff.1 hc;have hm:c ∈ cs:=hv▸aH hi;obtain ⟨a,b,rfl⟩:=List.append_of_mem hm;rw [aT,List.flatMap_cons] at hn;exact hn.sublist ((List.sublist_append_left _ _).trans (dC _ _))
def qE(a b:List B.Lk)(i:Nat):List B.Lk:=a.take i++b.drop i
theorem Ox{a b:List B.Lk}{i:Nat}{x:B.Lk}(hl:a.length=b.length)(hx:a[i]?=some x):(qE a b i).set i x=qE a b (i+1):=by
 obtain ⟨hi,hv⟩:=List.getElem?_eq_some_iff.1 hx;unfold qE;rw [bX _ _ (by rw [ag];omega),ag,a8 (by omega),dO,bf (by omega:i<b.length),List.set_cons_zero,gm,hx]
 simp
theorem Oz{a b:List B.Lk}{i:Nat}(hl:a.length=b.length)(hi:i<b.length):(qE a b i)[i]?=some b[i]:=by
 unfold qE;rw [aZ (by rw [ag];omega),ag,a8 (by omega),dO,cN,Nat.add_zero,af hi]
theorem Oy{a b:List B.Lk}{i:Nat}(hl:a.length=b.length)(hi:i≤b.length):(qE a b i).length=b.length:=by
 unfold qE;rw [ae,ag,ao];omega
theorem OA{a b:List B.Lk}{i:Nat}(hl:a.length=b.length)(hi:b.length≤i):qE a b i=a:=by
 unfold qE;rw [dB hi,List.append_nil,aq (by omega)]
theorem DS(x:Int):∀ (l:List B.Lk) (k:Nat) (q:B.Lk),l[k]?=some q→(B.bm l).set (k*2+1) (.int .i64 x)=B.bm (l.set k (q.1,x))
 | [],k,q,h=>by simp at h
 | p::l,0,q,h=>by
  cases h;rw [List.set_cons_zero,B.ep,B.ep];rfl
 | p::l,k+1,q,h=>by
  rw [List.set_cons_succ,B.ep,B.ep,← DS x l k q h,show (k+1)*2+1=k*2+1+1+1 by omega]
  simp only [List.set_cons_succ]
theorem KU{w:World}{base g n cap:Nat}{l:List B.Lk}(h:B.b7 w base (.slice (some ⟨g,0,none⟩) n cap) l)(k:Nat)(q:B.Lk)(hq:l[k]?=some q)(x:Int):B.b7 (w.setCell ⟨g,k*2+1,none⟩ (.int .i64 x)) base (.slice (some ⟨g,0,none⟩) n cap) (l.set k (q.1,x)):=by
 obtain rfl:=h.cnt;unfold B.b7 at h;have:=(World.ownsRow.stored h (k*2+1) (.int .i64 x)).1;rw [DS x l k q hq] at this;unfold B.b7;rw [cB];exact this
theorem rV{w w':World}{base:Nat}{v:Value}{l:List B.Lk}(h:B.b7 w base v l)(hb:∀ g,v.ownBlock=some g→w'.heap[g]?=w.heap[g]?):B.b7 w' base v l:=by
 refine ⟨h.1,?_⟩;rcases h.2 with h' | ⟨g,cap,cur,h',h1,h2,hr⟩
 ·exact .inl h'
 ·exact .inr ⟨g,cap,cur,h',h1,(hb g (by rw [h'];rfl)).trans h2,hr⟩
theorem SG{h:Nat}{ks:List ByteArray}{cs:List (Nd h)}{i:Nat}{k:ByteArray}{c:Nd h}(hk:ks[i]?=some k)(hc:cs[i+1]?=some c):(qF ks cs)[i]?=some (k,(fx h c:Int)):=by
 unfold qF;rw [List.getElem?_zip_eq_some];refine ⟨hk,?_⟩;rw [aL,List.getElem?_tail,hc];rfl
def fj(P:List Nat)(j:Nat):Nat:=P.getD j 2
def TX(PG:Int→Option PD)(w0:World)(lo pb:Nat)(pv:Value)(P:List Nat)(tx:Nat)(h:Nat):Prop :=
 ∀ (p:C.Ch) (t:Nd h) (w:World) (sv:Value) (Z:List S.Sh),eu PG w0 h p t→QT h t→pY w0 lo pb pv P tx w sv Z→Z.length+jl h t≤P.length→(dE h (aW (fj P) h t Z.length).1).Nodup →
  Calls prog 72 #[.pointer (some ⟨pb,0,none⟩),p.val] w fun e w'=>∃ ov,e = .returned (.int .i64 (fx h (aW (fj P) h t Z.length).1:Int))∧pY w0 lo pb pv P tx w' ov (Z++(aW (fj P) h t Z.length).2.map (kj tx))∧mN pb w sv w' ov
structure zU(w0:World)(lo pb:Nat)(pv:Value)(P:List Nat)(tx:Nat){h:Nat}(cs:List (Nd h))(k0:Nat)(a l:List B.Lk)(f:Int)(w:World)(sv:Value)(Z:List S.Sh)(H K ug uc:Nat)(i j:Nat)(wx:World)(sx:Value):Prop where
 yR:pY w0 lo pb pv P tx wx sx (Z++(b9 (aW (fj P) h) (cs.take j) k0).2.map (kj tx))
 MI:mN pb w sv wx sx
 row:B.ax wx K #[.int .i64 f,.slice (some ⟨ug,0,none⟩) l.length uc] 150
 lk:B.b7 wx w.heap.size (.slice (some ⟨ug,0,none⟩) l.length uc) (qE a l i)
 res:B.ax wx H #[.int .i64 0,.slice none 0 0] 150
 ne:K≠ug∧H≠K∧H≠ug
 nb:K≠pb∧H≠pb∧ug≠pb
 no:∀ b ∈ [K,H,ug],sx.ownBlock≠some b
 ge:w.heap.size≤K∧w.heap.size≤H
section
variable {PG:Int→Option PD} {w0:World} {lo pb:Nat} {pv:Value} {P:List Nat} {tx:Nat} {h:Nat} {cs:List (Nd h)} {k0:Nat} {a l:List B.Lk} {f:Int} {w:World} {sv:Value} {Z:List S.Sh} {H K ug uc:Nat} {i j:Nat} {wx:World} {sx:Value}
theorem zU.Nk(hB:zU w0 lo pb pv P tx cs k0 a l f w sv Z H K ug uc i j wx sx):ug<wx.heap.size:=(hB.lk.dn ug rfl).2
theorem zU.move{wy:World}{sy:Value}{j':Nat}(hB:zU w0 lo pb pv P tx cs k0 a l f w sv Z H K ug uc i j wx sx)(ht:mN pb wx sx wy sy)(hp:pY w0 lo pb pv P tx wy sy (Z++(b9 (aW (fj P) h) (cs.take j') k0).2.map (kj tx))):zU w0 lo pb pv P tx cs k0 a l f w sv Z H K ug uc i j' wy sy:=by
 have hug:=hB.Nk;have hK:=hB.row.lt;have hH:=hB.res.lt;refine ⟨hp,hB.MI.trans ht,(ht.block K hK hB.nb.1 (hB.no K (by simp))).trans hB.row,rV hB.lk fun g hg=>?_,(ht.block H hH hB.nb.2.1 (hB.no H (by simp))).trans hB.res,hB.ne,hB.nb,fun b hb e=>?_,hB.ge⟩
 ·have e:ug=g:=by simpa [Value.ownBlock] using hg
  subst e;exact ht.block ug hug hB.nb.2.2 (hB.no ug (by simp))
 ·rcases ht.own b e with e' | e'
  ·exact hB.no b hb e'
  ·simp only [dN,dA,or_false] at hb;omega
theorem zU.below{wy:World}(hB:zU w0 lo pb pv P tx cs k0 a l f w sv Z H K ug uc i j wx sx)(hb:Below wx.heap.size wx wy):zU w0 lo pb pv P tx cs k0 a l f w sv Z H K ug uc i j wy sx:=hB.move (mN.below _ hb) (hB.yR.below hb)
theorem zU.call{c:Nd h}{q:C.Ch}(IH:TX PG w0 lo pb pv P tx h)(Rs:k0=Z.length)(jz:((b9 (aW (fj P) h) cs k0).1.flatMap (dE h)).Nodup)(yg:k0+(cs.map (jl h)).sum≤P.length)(hB:zU w0 lo pb pv P tx cs k0 a l f w sv Z H K ug uc i j wx sx)(hc:cs[j]?=some c)(hk:eu PG w0 h q c)(ho:QT h c):Calls prog 72 #[.pointer (some ⟨pb,0,none⟩),q.val] wx fun e w'=>∃ ov c',(b9 (aW (fj P) h) cs k0).1[j]?=some c'∧e = .returned (.int .i64 (fx h c':Int))∧zU w0 lo pb pv P tx cs k0 a l f w sv Z H K ug uc i (j+1) w' ov:=by
 obtain ⟨h1,h2⟩:=I9 (aW (fj P) h) cs k0 j c hc;have hlen:(Z++(b9 (aW (fj P) h) (cs.take j) k0).2.map (kj tx)).length=k0+(b9 (aW (fj P) h) (cs.take j) k0).2.length:=by rw [ae,aA,Rs]
 have K9:(b9 (aW (fj P) h) (cs.take j) k0).2.length+jl h c≤(cs.map (jl h)).sum:=by
  rw [r9 (pE h),iN];have e1:=wJ (l:=cs.map (jl h)) (i:=j) (x:=jl h c) (by rw [aL,hc];rfl)
  have e2:=lL (cs.map (jl h)) (j+1);omega
 refine (IH q c wx sx _ hk ho hB.yR (by rw [hlen];omega) (by rw [hlen];exact xA jz h1)).mono ?_
 rintro e w' ⟨ov,rfl,g1,g2⟩;rw [hlen] at g1 ⊢;refine ⟨ov,_,h1,rfl,hB.move g2 ?_⟩;rw [h2,bn,← ay];exact g1
theorem zU.put{ks:List ByteArray}{c':Nd h}(HW:w0.heap.size≤w.heap.size)(hB:zU w0 lo pb pv P tx cs k0 a l f w sv Z H K ug uc i j wx sx)(jE:l.map (·.1)=ks)(ha:a=qF ks (b9 (aW (fj P) h) cs k0).1)(FJ:a.length=l.length)(hi:i<l.length)(hc:(b9 (aW (fj P) h) cs k0).1[i+1]?=some c'):(∃ u,wx.cell? ⟨ug,i*2+1,none⟩=some u)∧wx.frozen? ⟨ug,i*2+1,none⟩=false∧zU w0 lo pb pv P tx cs k0 a l f w sv Z H K ug uc (i+1) j (wx.setCell ⟨ug,i*2+1,none⟩ (.int .i64 (fx h c':Int))) sx:=by
 have FC:=hB.lk.spot i (by rw [Oy FJ (by omega)];exact hi)
 have Xx:=Oz (a:=a) FJ hi;have acF:ks[i]?=some l[i].1:=by rw [← jE,aL,af hi];rfl
 have ZP:a[i]?=some (l[i].1,(fx h c':Int)):=by rw [ha];exact SG acF hc
 have my:=KU hB.lk i l[i] Xx (fx h c':Int);rw [Ox FJ ZP] at my;have dF:=bL.set ug (i*2+1) wx (.int .i64 (fx h c':Int));have hug:=hB.Nk;have ahc:w.heap.size≤ug:=(hB.lk.dn ug rfl).1;have acm:mN pb w sv (wx.setCell ⟨ug,i*2+1,none⟩ (.int .i64 (fx h c':Int))) sx:=by
  have h9:=hB.MI;exact ⟨al h9.size dF.size,fun k hk h1 h2=>(dF.block k (ar hk h9.size) (by omega)).trans (h9.block k hk h1 h2),h9.own⟩
 refine ⟨FC.2.1,FC.2.2.2,⟨?_,acm,(dF.block K hB.row.lt hB.ne.1).trans hB.row,my,(dF.block H hB.res.lt hB.ne.2.2).trans hB.res,hB.ne,hB.nb,hB.no,hB.ge⟩⟩;have h3:=hB.yR;exact ⟨⟨dF.os.trans h3.eV.os,dF.tape.trans h3.eV.tape,dF.output.trans h3.eV.output,al h3.eV.size dF.size,fun k hk=>(dF.block k (ar hk h3.eV.size) (by omega)).trans (h3.eV.block k hk)⟩,(dF.block pb h3.row.lt (fun e=>hB.nb.2.2 e.symm)).trans h3.row,h3.sh.same fun g hg=>dF.block g (h3.sh.dn hg).2 (fun e=>hB.no ug (by simp) (e▸hg)),h3.ord,al h3.lo dF.size,h3.pg,h3.pl⟩
end
structure sU(w0:World)(lo pb:Nat)(pv:Value)(P:List Nat)(tx:Nat)(l:List B.Lk)(w:World)(sv:Value)(H:Nat)(wx:World)(sx:Value)(Zc:List S.Sh)(kk:Option Nat)(uu:Option (Nat × Nat)):Prop where
 yR:pY w0 lo pb pv P tx wx sx Zc
 MI:mN pb w sv wx sx
 res:B.ax wx H #[.int .i64 0,.slice none 0 0] 150
 BO:w.heap.size≤H∧H≠pb∧sx.ownBlock≠some H
 kr:∀ K,kk=some K→B.ax wx K #[.int .i64 0,.slice none 0 0] 150∧w.heap.size≤K∧K≠pb∧sx.ownBlock≠some K∧H≠K
 ur:∀ g c,uu=some (g,c)→B.b7 wx w.heap.size (.slice (some ⟨g,0,none⟩) l.length c) l∧g≠pb∧sx.ownBlock≠some g∧H≠g
 ku:∀ K g c,kk=some K→uu=some (g,c)→K≠g
section
variable {w0:World} {lo pb:Nat} {pv:Value} {P:List Nat} {tx:Nat} {l:List B.Lk} {w:World} {sv:Value} {H:Nat} {wx wy:World} {sx sy:Value} {Zc Zd:List S.Sh} {kk:Option Nat} {uu:Option (Nat × Nat)}
theorem sU.move(h:sU w0 lo pb pv P tx l w sv H wx sx Zc kk uu)(ht:mN pb wx sx wy sy)(hp:pY w0 lo pb pv P tx wy sy Zd):sU w0 lo pb pv P tx l w sv H wy sy Zd kk uu:=by
 have hH:=h.res.lt;have fM:∀ b,b<wx.heap.size→sx.ownBlock≠some b→sy.ownBlock≠some b:=fun b hb h1 e=>by
  rcases ht.own b e with e' | e'
  ·exact h1 e'
  ·omega
 refine ⟨hp,h.MI.trans ht,(ht.block H hH h.BO.2.1 h.BO.2.2).trans h.res,⟨h.BO.1,h.BO.2.1,fM H hH h.BO.2.2⟩,fun K hK=>?_,fun g c hu=>?_,h.ku⟩
 ·obtain ⟨h1,h2,h3,h4,h5⟩:=h.kr K hK;exact ⟨(ht.block K h1.lt h3 h4).trans h1,h2,h3,fM K h1.lt h4,h5⟩
 ·obtain ⟨h1,h2,h3,h4⟩:=h.ur g c hu;have hg:=(h1.dn g rfl).2;refine ⟨rV h1 fun g' zF=>?_,h2,fM g hg h3,h4⟩
  have e:g=g':=by simpa [Value.ownBlock] using zF
  subst e;exact ht.block g hg h2 h3
theorem sU.below(h:sU w0 lo pb pv P tx l w sv H wx sx Zc kk uu)(hb:Below wx.heap.size wx wy):sU w0 lo pb pv P tx l w sv H wy sx Zc kk uu:=h.move (mN.below _ hb) (h.yR.below hb)
theorem sU.drew(h:sU w0 lo pb pv P tx l w sv H wx sx Zc kk uu):sU w0 lo pb pv P tx l w sv H wx.drew sx Zc kk uu:=h.below (B.aN (Below.refl _ _))
theorem sU.alloc(h:sU w0 lo pb pv P tx l w sv H wx sx Zc none uu):sU w0 lo pb pv P tx l w sv H (wx.alloc (.cells #[.int .i64 0,.slice none 0 0] 150)) sx Zc (some wx.heap.size) uu:=by
 have hq:=h.below (ai wx (.cells #[.int .i64 0,.slice none 0 0] 150));refine ⟨hq.yR,hq.MI,hq.res,hq.BO,fun K hK=>?_,hq.ur,fun K g c hK hu e=>?_⟩
 ·cases hK;have h1:=h.MI.size;have h2:=h.yR.row.lt;have h3:=h.res.lt;exact ⟨B.ax.new wx _ _,h1,by omega,fun e=>by have:=(h.yR.sh.dn e).2;omega,by omega⟩
 ·cases hK;have:=((h.ur g c hu).1.dn g rfl).2;omega
theorem sU.clone{g c:Nat}(h:sU w0 lo pb pv P tx l w sv H wx sx Zc kk none)(ho:B.b7 wy wx.heap.size (.slice (some ⟨g,0,none⟩) l.length c) l)(hb:Below wx.heap.size wx wy):sU w0 lo pb pv P tx l w sv H wy sx Zc kk (some (g,c)):=by
 have hq:=h.below hb;have hg:=(ho.dn g rfl).1;have h1:=h.MI.size;refine ⟨hq.yR,hq.MI,hq.res,hq.BO,hq.kr,fun g' c' hu=>?_,fun K g' c' hK hu e=>?_⟩
 ·cases hu;have h2:=h.yR.row.lt;have h3:=h.res.lt;exact ⟨ho.mono h1,by omega,fun e=>by have:=(h.yR.sh.dn e).2;omega,by omega⟩
 ·cases hu;have:=(h.kr K hK).1.lt;omega
theorem sU.done{h:Nat}{cs:List (Nd h)}{k0:Nat}{a:List B.Lk}{f:Int}{Z:List S.Sh}{K g c:Nat}(hq:sU w0 lo pb pv P tx l w sv H wx sx (Z++(b9 (aW (fj P) h) (cs.take 1) k0).2.map (kj tx)) (some K) (some (g,c)))(hw0:w0.heap.size≤w.heap.size):zU w0 lo pb pv P tx cs k0 a l f w sv Z H K g c 0 1 ((wx.setCell ⟨K,0,none⟩ (.int .i64 f)).setCell ⟨K,1,none⟩ (.slice (some ⟨g,0,none⟩) l.length c)) sx:=by
 obtain ⟨k1,k2,k3,k4,k5⟩:=hq.kr K rfl;obtain ⟨u1,u2,u3,u4⟩:=hq.ur g c rfl;have hkg:=hq.ku K g c rfl rfl;have dF:=(bL.set K 0 wx (.int .i64 f)).trans (bL.set K 1 (wx.setCell ⟨K,0,none⟩ (.int .i64 f)) (.slice (some ⟨g,0,none⟩) l.length c));have h3:=hq.yR;have hH:=hq.BO;refine ⟨⟨⟨dF.os.trans h3.eV.os,dF.tape.trans h3.eV.tape,dF.output.trans h3.eV.output,al h3.eV.size dF.size,fun k hk=>(dF.block k (ar hk h3.eV.size) (by omega)).trans (h3.eV.block k hk)⟩,(dF.block pb h3.row.lt (fun e=>k3 e.symm)).trans h3.row,h3.sh.same fun g' zF=>dF.block g' (h3.sh.dn zF).2 (fun e=>k4 (e▸zF)),h3.ord,al h3.lo dF.size,h3.pg,h3.pl⟩,?_,B.ax.two k1 _ _,?_,(dF.block H hq.res.lt k5).trans hq.res,⟨hkg,k5,u4⟩,⟨k3,hH.2.1,u2⟩,fun b hb=>?_,k2,hH.1⟩
 ·have h9:=hq.MI;exact ⟨al h9.size dF.size,fun k hk h1 h2=>(dF.block k (ar hk h9.size) (by omega)).trans (h9.block k hk h1 h2),h9.own⟩
 ·have e:qE a l 0=l:=by simp [qE]
  rw [e];refine rV u1 fun g' zF=>?_
  have e:g=g':=by simpa [Value.ownBlock] using zF
  subst e;exact dF.block g (u1.dn g rfl).2 (fun e=>hkg e.symm)
 ·simp only [dN,dA,or_false] at hb;rcases hb with rfl | rfl | rfl
  ·exact k4
  ·exact hH.2.2
  ·exact u3
theorem zU.fin{h:Nat}{cs:List (Nd h)}{k0:Nat}{a:List B.Lk}{f:Int}{Z:List S.Sh}{K g c i j:Nat}(hB:zU w0 lo pb pv P tx cs k0 a l f w sv Z H K g c i j wx sx)(hw0:w0.heap.size≤w.heap.size)(x y:Value):B.cV ((wx.setCell ⟨H,0,none⟩ x).setCell ⟨H,1,none⟩ y) (.slice (some ⟨g,0,none⟩) l.length c) (qE a l i)∧pY w0 lo pb pv P tx ((wx.setCell ⟨H,0,none⟩ x).setCell ⟨H,1,none⟩ y) sx (Z++(b9 (aW (fj P) h) (cs.take j) k0).2.map (kj tx))∧mN pb w sv ((wx.setCell ⟨H,0,none⟩ x).setCell ⟨H,1,none⟩ y) sx:=by
 have dF:=(bL.set H 0 wx x).trans (bL.set H 1 (wx.setCell ⟨H,0,none⟩ x) y);have h3:=hB.yR;have BO:=hB.ge;refine ⟨(rV hB.lk fun g' zF=>?_).at,⟨⟨dF.os.trans h3.eV.os,dF.tape.trans h3.eV.tape,dF.output.trans h3.eV.output,al h3.eV.size dF.size,fun k hk=>(dF.block k (ar hk h3.eV.size) (by omega)).trans (h3.eV.block k hk)⟩,(dF.block pb h3.row.lt (fun e=>hB.nb.2.1 e.symm)).trans h3.row,h3.sh.same fun g' zF=>dF.block g' (h3.sh.dn zF).2 (fun e=>hB.no H (by simp) (e▸zF)),h3.ord,al h3.lo dF.size,h3.pg,h3.pl⟩,?_⟩
 ·have e:g=g':=by simpa [Value.ownBlock] using zF
  subst e;exact dF.block g hB.Nk (fun e=>hB.ne.2.2 e.symm)
 ·have h9:=hB.MI;exact ⟨al h9.size dF.size,fun k hk h1 h2=>(dF.block k (ar hk h9.size) (by omega)).trans (h9.block k hk h1 h2),h9.own⟩
theorem sU.UP{h:Nat}{cs:List (Nd h)}{k0:Nat}{a:List B.Lk}{f:Int}{Z:List S.Sh}{g c:Nat}(hq:sU w0 lo pb pv P tx l w sv H wx sx (Z++(b9 (aW (fj P) h) (cs.take 1) k0).2.map (kj tx)) none (some (g,c))):zU w0 lo pb pv P tx cs k0 a l f w sv Z H wx.heap.size g c 0 1 (wx.alloc (.cells #[.int .i64 f,.slice (some ⟨g,0,none⟩) l.length c] 150)) sx:=by
 have hb:=hq.below (ai wx (.cells #[.int .i64 f,.slice (some ⟨g,0,none⟩) l.length c] 150));obtain ⟨u1,u2,u3,u4⟩:=hb.ur g c rfl;have hg:=((hq.ur g c rfl).1.dn g rfl).2;have h1:=hq.MI.size;have h2:=hq.yR.row.lt;have h3:=hq.res.lt;have hH:=hb.BO;have hnk:sx.ownBlock≠some wx.heap.size:=fun e=>by have:=(hq.yR.sh.dn e).2;omega
 refine ⟨hb.yR,hb.MI,B.ax.new wx _ _,?_,hb.res,⟨by omega,by omega,u4⟩,⟨by omega,hH.2.1,u2⟩,fun b MR=>?_,h1,hH.1⟩
 ·have e:qE a l 0=l:=by simp [qE]
  rw [e];exact u1
 ·simp only [dN,dA,or_false] at MR;rcases MR with rfl | rfl | rfl
  ·exact hnk
  ·exact hH.2.2
  ·exact u3
end
attribute [local go_sem ↓] Go.wp_at_zero Go.wp_at_succ
section
variable {base:Nat} {A:Nat→Addr} {db:Nat} {F:Nat→Prop} {d:S.V.bq} {w0:World} {tb:Nat} {x:Bx} {fr en:ByteArray} {lim lo:Nat}
def JM(base:Nat)(A:Nat→Addr)(db:Nat)(F:Nat→Prop)(d:S.V.bq)(w0:World)(tb:Nat)(x:Bx)(fr en:ByteArray)(lim lo:Nat)(h:Nat):Prop :=
 ∀ (p:C.Ch) (t:Nd h) (dp:Nat) (w:World) (v:Value) (acc:List Pr) (M:List Nat),eu (cJ d) w0 h p t→jI ⟨h,t⟩→Gs base A db F d w0 tb x fr en lim lo w v acc M→dp+h≤64→(acc.length+(flat h t).length)*32≤140737488355328→(dE h t).Nodup→(∀ i ∈ dE h t,i ∉ M)→M.length+(dE h t).length<1099511627776 →
  Calls prog 90 #[p.val,.int .i64 (dp:Int),.pointer (some ⟨x.m,0,none⟩),.pointer (some ⟨x.f,0,none⟩),.pointer (some ⟨x.t,0,none⟩),.pointer (some ⟨x.fr,0,none⟩),.pointer (some ⟨x.en,0,none⟩),.pointer (some ⟨x.p,0,none⟩),.pointer (some ⟨x.l,0,none⟩),.pointer (some ⟨x.g,0,none⟩)] w
   (Fx base A db F d w0 tb x fr en lim lo w v M (dE h t) (fu fr en lim h t acc))
structure Ik(base:Nat)(A:Nat→Addr)(db:Nat)(F:Nat→Prop)(d:S.V.bq)(w0:World)(tb:Nat)(x:Bx)(fr en:ByteArray)(lim lo:Nat){h:Nat}(t:Nd (h+1))(w:World)(v:Value)(acc:List Pr)(M:List Nat)(b:Nat)(n:SN)(pv lv cv:Value)(k:Nat)(wr:World)(vk:Value)(ak:List Pr)(Mk:List Nat):Prop where
 gs:Gs base A db F d w0 tb x fr en lim lo wr vk ak Mk
 ZZ:wj db x.p x.mb w v wr vk
 br:Br wr b n pv lv cv
 room:ak.length+((t.2.2.drop k).flatMap (flat h)).length≤acc.length+(flat (h+1) t).length
 mem:∀ i ∈ Mk,i ∈ M∨i ∈ df t.1++(t.2.2.take k).flatMap (dE h)
 len:Mk.length≤M.length+(df t.1++(t.2.2.take k).flatMap (dE h)).length
variable {h:Nat} {t:Nd (h+1)} {w:World} {v:Value} {acc:List Pr} {M:List Nat} {b:Nat} {n:SN} {pv lv cv:Value} {k:Nat} {wr:World} {vk:Value} {ak:List Pr} {Mk:List Nat}
theorem rJ(k:Nat):(df t.1++(t.2.2.take k).flatMap (dE h)).Sublist (dE (h+1) t):=List.Sublist.append_left (IN k) _
theorem Ik.below{W:World}(hl:Ik base A db F d w0 tb x fr en lim lo t w v acc M b n pv lv cv k wr vk ak Mk)(hb:Below wr.heap.size wr W):Ik base A db F d w0 tb x fr en lim lo t w v acc M b n pv lv cv k W vk ak Mk :=
 ⟨hl.gs.below hb,hl.ZZ.trans (wj.below vk hb),⟨hl.br.row.below hb,hl.br.bm.below hb,hl.br.kids.below hb⟩,hl.room,hl.mem,hl.len⟩
theorem Ik.out{e:Bool}(hl:Ik base A db F d w0 tb x fr en lim lo t w v acc M b n pv lv cv k wr vk ak Mk)(hr:fu fr en lim (h+1) t acc=(ak,e)):Fx base A db F d w0 tb x fr en lim lo w v M (dE (h+1) t) (fu fr en lim (h+1) t acc) (.returned (.bool e)) wr:=by
 refine ⟨vk,Mk,by rw [hr],by rw [hr];exact hl.gs,hl.ZZ,fun i hi=>(hl.mem i hi).imp id fun h=>(rJ k).subset h,?_⟩
 have:=(rJ (t:=t) k).length_le;have:=hl.len;omega
theorem drop_cons{α:Type}{l:List α}{i:Nat}{c:α}(h:l[i]?=some c):l.drop i=c::l.drop (i+1):=by
 obtain ⟨hi,hv⟩:=List.getElem?_eq_some_iff.1 h;rw [bf hi,hv]
theorem P7{c:Nd h}{ak:List Pr}(hg:jI ⟨h,c⟩)(hl:ak.length≤lim):(fu fr en lim h c ak).1.length≤ak.length+(flat h c).length:=by
 have ho:∃ lo hi,Ok h c lo hi:=by
  cases h with
  | zero=>exact hg.1
  | succ h=>exact hg.1
 obtain ⟨lo,hi,ho⟩:=ho;have:=(BV (fr:=fr) (en:=en) h ho hl).1;rw [this,ae,ag];have:=List.length_filter_le (jt fr en) (flat h c);omega
theorem Ik.pS{c:Nd h}{p:C.Ch}{dp:Nat}(IH:JM base A db F d w0 tb x fr en lim lo h)(nM:jI ⟨h+1,t⟩)(hl:Ik base A db F d w0 tb x fr en lim lo t w v acc M b n pv lv cv k wr vk ak Mk)(hc:t.2.2[k]?=some c)(hk:eu (cJ d) w0 h p c)(PJ:dp+(h+1)≤64)(dZ:(acc.length+(flat (h+1) t).length)*32≤140737488355328)(jz:(dE (h+1) t).Nodup)(lZ:∀ i ∈ dE (h+1) t,i ∉ M)(ny:M.length+(dE (h+1) t).length<1099511627776):Calls prog 90 #[p.val,.int .i64 ((dp:Int)+1),.pointer (some ⟨x.m,0,none⟩),.pointer (some ⟨x.f,0,none⟩),.pointer (some ⟨x.t,0,none⟩),.pointer (some ⟨x.fr,0,none⟩),.pointer (some ⟨x.en,0,none⟩),.pointer (some ⟨x.p,0,none⟩),.pointer (some ⟨x.l,0,none⟩),.pointer (some ⟨x.g,0,none⟩)] wr fun e w'=>∃ v' M',e = .returned (.bool (fu fr en lim h c ak).2)∧Ik base A db F d w0 tb x fr en lim lo t w v acc M b n pv lv cv (k+1) w' v' (fu fr en lim h c ak).1 M':=by
 have Zr:jI ⟨h,c⟩:=mC nM hc;have hdc:=drop_cons hc;have hrm:=hl.room;rw [hdc,List.flatMap_cons,ae] at hrm;obtain ⟨AO,Pt⟩:=IP hc jz;have FE:=xg hc;have lC:=(rJ (t:=t) (k+1)).length_le;rw [FE] at lC;simp only [ae] at lC;have hlen:=hl.len;rw [ae] at hlen;refine (IH p c (dp+1) wr vk ak Mk hk Zr hl.gs (by omega) (by omega) AO (fun i hi hm=>?_) (by omega)).mono ?_
 ·rcases hl.mem i hm with h1 | h1
  ·exact lZ i ((rJ (k+1)).subset (by rw [FE];simp [hi])) h1
  ·rcases List.mem_append.1 h1 with h2 | h2
   ·exact (Pt i hi).1 h2
   ·exact (Pt i hi).2 h2
 ·rintro e w' ⟨v',M',rfl,h1,h2,h3,h4⟩;refine ⟨v',M',rfl,h1,hl.ZZ.trans h2,hl.br.ZZ h2 hl.gs.dv hl.gs.row (by decide) hl.gs.ps hl.gs.met,?_,fun i hi=>?_,?_⟩
  ·have:=P7 (fr:=fr) (en:=en) Zr hl.gs.len;omega
  ·rw [FE];rcases h3 i hi with h | h
   ·rcases hl.mem i h with h | h
    ·exact .inl h
    ·exact .inr (by
      rcases List.mem_append.1 h with h | h
      ·exact dV _ h
      ·exact cz _ (dV _ h))
   ·exact .inr (cz _ (cz _ h))
  ·rw [FE];simp only [ae];omega
end
end T
end Go.Proofs.YtihmgigfkmofnaaGreatDoor
