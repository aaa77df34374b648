import Derived.Test.YtihmgigfkmofnaaGreatDoorG31
import Derived.BigRegion
set_option maxHeartbeats 4000000
set_option maxRecDepth 100000
open Go.Proofs.Tryz
namespace Go.Proofs.YtihmgigfkmofnaaGreatDoor
namespace T
open Go.RowKit
structure Bv where
 m:Nat
 mb:Nat
 f:Nat
 e:Nat
 t:Nat
 v:Nat
 p:Nat
structure Vs(base:Nat)(A:Nat→Addr)(db:Nat)(F:Nat→Prop)(d:S.V.bD)(w0:World)(tb:Nat)(x:Bv)(lo:Nat)(w:World)(v:Value)(acc M:List Nat):Prop where
 dv:Dv base A db F d w
 mv:Mv db F w0 w
 cm:w.cell? ⟨x.m,0,none⟩=some (.map (some x.mb))
 ce:w.cell? ⟨x.e,0,none⟩=some (.func (.func 66) #[] #[.pointer (some ⟨x.p,0,none⟩)])
 ct:w.cell? ⟨x.t,0,none⟩=some (.pointer (some ⟨tb,0,none⟩))
 cv:w.cell? ⟨x.v,0,none⟩=some (.func (.func 103) #[] #[.pointer (some ⟨x.m,0,none⟩),.pointer (some ⟨x.f,0,none⟩),.pointer (some ⟨x.e,0,none⟩),.pointer (some ⟨x.t,0,none⟩),.pointer (some ⟨x.v,0,none⟩)])
 cf:B.au w x.f #[.nilIface] 32
 row:B.au w x.p #[v] 69
 ps:u9 w lo v acc
 met:Met w x.mb M
 DH:M.length<1099511627776
 ord:∀ b ∈ [x.m,x.f,x.e,x.t,x.v,x.p,x.mb],w0.heap.size≤b∧b<lo
 no:∀ b ∈ [x.m,x.e,x.t,x.v],b≠x.f∧b≠x.p
 fp:x.f≠x.p
 S3:db<w0.heap.size
 lo:lo≤w.heap.size
section
variable {base:Nat} {A:Nat→Addr} {db:Nat} {F:Nat→Prop} {d:S.V.bD} {w0:World} {tb:Nat} {x:Bv} {lo:Nat} {w w':World} {v v':Value} {acc L3 M M':List Nat}
theorem Vs.keep(h:Vs base A db F d w0 tb x lo w v acc M)(hv:Dv base A db F d w')(hm:Mv db F w0 w')(hs:w.heap.size≤w'.heap.size)(hb:∀ k,k<lo→k≠db→k≠x.mb→k≠x.f→k≠x.p→w'.heap[k]?=w.heap[k]?)(hf:B.au w' x.f #[.nilIface] 32)(hr:B.au w' x.p #[v'] 69)(hp:u9 w' lo v' L3)(YF:Met w' x.mb M')(mS:M'.length<1099511627776):Vs base A db F d w0 tb x lo w' v' L3 M':=by
 have hc:∀ b ∈ [x.m,x.e,x.t,x.v],∀ u,w.cell? ⟨b,0,none⟩=some u→w'.cell? ⟨b,0,none⟩=some u:=fun b Mz u hc=>by
  have ho:=h.ord b (by simp only [dG,dx,or_false] at Mz ⊢;rcases Mz with rfl | rfl | rfl | rfl <;> simp)
  have hn:=h.no b Mz;have:=h.S3;exact b9 (hb b ho.2 (by omega) (h.met.ne hc) hn.1 hn.2) hc
 exact ⟨hv,hm,hc _ (by simp) _ h.cm,hc _ (by simp) _ h.ce,hc _ (by simp) _ h.ct,hc _ (by simp) _ h.cv,hf,hr,hp,YF,mS,h.ord,h.no,h.fp,h.S3,aq h.lo hs⟩
theorem Vs.cx(h:Vs base A db F d w0 tb x lo w v acc M)(hs:w.heap.size≤w'.heap.size)(hb:∀ k,k<w.heap.size→k≠db→k≠x.mb→k≠x.f→k≠x.p→v.ownBlock≠some k→w'.heap[k]?=w.heap[k]?):dd w w':=⟨hs,fun k hk=>by
 by_cases h1:k=db
 ·subst h1;obtain ⟨d',_,hd⟩:=h.dv.dev;refine .inr ⟨fun j u hc=>mh hd hc,?_,?_⟩
  ·intro cs fr h1;obtain ⟨mb,nb,QS,av,Dn,hb⟩:=hd;rw [hb.dy] at h1;simp at h1
  ·intro cs fr h1;obtain ⟨mb,nb,QS,av,Dn,hb⟩:=hd;rw [hb.dy] at h1;simp at h1
 ·by_cases h2:k=x.mb
  ·subst h2;obtain ⟨es,clock,h2,_⟩:=h.met.map;refine .inr ⟨fun j u hc=>absurd rfl (h.met.ne hc),?_,?_⟩
   ·intro cs fr e;rw [h2] at e;cases e
   ·intro cs fr e;rw [h2] at e;cases e
  ·by_cases h3:k=x.f
   ·subst h3;have hf:=h.cf;unfold B.au at hf;refine .inr ⟨fun j u hc=>?_,?_,?_⟩
    ·rw [cell_of_row w _ j _ _ _ hf] at hc;obtain ⟨h5,h6⟩:=Array.getElem?_eq_some_iff.1 hc;have:j=0:=by simp at h5;omega
     subst this;have h6:Value.nilIface=u:=h6;subst h6;exact ⟨(fun s e=>by cases e),(fun t x e=>by cases e)⟩
    ·intro cs fr e;rw [hf] at e;simp at e
    ·intro cs fr e;rw [hf] at e;simp at e
   ·by_cases h4:k=x.p
    ·subst h4;have hf:=h.row;unfold B.au at hf;obtain ⟨a,c,mQ⟩:=h.ps.form;refine .inr ⟨fun j u hc=>?_,?_,?_⟩
     ·rw [cell_of_row w _ j _ _ _ hf] at hc;obtain ⟨h5,h6⟩:=Array.getElem?_eq_some_iff.1 hc;have:j=0:=by simp at h5;omega
      subst this;have h6:v=u:=h6;subst h6;rw [mQ];exact ⟨(fun s e=>by cases e),(fun t x e=>by cases e)⟩
     ·intro cs fr e;rw [hf] at e;simp at e
     ·intro cs fr e;rw [hf] at e;simp at e
    ·by_cases h5:v.ownBlock=some k
     ·exact .inr (h.ps.odd h5)
     ·exact .inl (hb k hk h1 h2 h3 h4 h5)⟩
theorem Vs.go(h:Vs base A db F d w0 tb x lo w v acc M)(hm:Mv db F w w')(hv:Dv base A db F d w'):Vs base A db F d w0 tb x lo w' v acc M:=by
 have ho:=h.ord;have hd:=h.S3;have ey:∀ b ∈ [x.m,x.f,x.e,x.t,x.v,x.p,x.mb],b≠db:=fun b hb=>by have:=ho b hb;omega
 exact h.keep hv (h.mv.trans hm) hm.size (fun k hk h1 _ _ _=>hm.one.block k (al hk h.lo) h1) ((hm.one.block x.f h.cf.lt (ey _ (by simp))).trans h.cf) ((hm.one.block x.p h.row.lt (ey _ (by simp))).trans h.row) (h.ps.same fun g hg=>by
  have:=h.ps.dy hg;have:=ho x.p (by simp)
  exact hm.one.block g (by omega) (by omega)) (h.met.same (hm.one.block x.mb h.met.lt (ey _ (by simp)))) h.DH
theorem Vs.below(h:Vs base A db F d w0 tb x lo w v acc M)(hb:Below w.heap.size w w'):Vs base A db F d w0 tb x lo w' v acc M:=h.go (Mv.of hb) (h.dv.below hb)
theorem Vs.meet(h:Vs base A db F d w0 tb x lo w v acc M)(il:Dv base A db F d w0)(hm:Met w' x.mb M')(mS:M'.length<1099511627776)(hg:w.grownBy w' (some x.mb)):Vs base A db F d w0 tb x lo w' v acc M'∧dd w w':=by
 have ho:=h.ord;have tG:=h.lo;have pN:w.heap.size≤w'.heap.size:=hg.size;have ey:∀ k,k≠x.mb→some k≠some x.mb:=fun k hk e=>hk (Option.some.inj e)
 have hom:=ho x.mb (by simp)
 have mD:Below w0.heap.size w w':=⟨hg.os,hg.tape,hg.output,pN,fun k hk=>hg.block k (by omega) (ey k (by omega))⟩
 obtain ⟨BS,Ej⟩:=h.dv.grown mD h.mv il;refine ⟨h.keep BS Ej pN (fun k hk _ h2 _ _=>hg.block k (by omega) (ey k h2)) ((hg.block x.f h.cf.lt (ey _ (h.met.ne (h.cf.cell 0 (by simp))))).trans h.cf) ((hg.block x.p h.row.lt (ey _ (h.met.ne (h.row.cell 0 (by simp))))).trans h.row) (h.ps.same fun g G0=>?_) hm mS,h.cx pN fun k hk _ h2 _ _ _=>hg.block k hk (ey k h2)⟩
 have:=h.ps.dy G0;exact hg.block g this.2 (ey _ (by omega))
theorem Vs.nil(h:Vs base A db F d w0 tb x lo w v acc M)(il:Dv base A db F d w0):Vs base A db F d w0 tb x lo (w.setCell ⟨x.f,0,none⟩ .nilIface) v acc M∧dd w (w.setCell ⟨x.f,0,none⟩ .nilIface):=by
 have ho:=h.ord;have tG:=h.lo;have dB:=bK.set x.f 0 w .nilIface;have hof:=ho x.f (by simp)
 have mD:Below w0.heap.size w (w.setCell ⟨x.f,0,none⟩ .nilIface):=⟨dB.os,dB.tape,dB.output,dB.size,fun k hk=>dB.block k (by omega) (by omega)⟩
 obtain ⟨BS,Ej⟩:=h.dv.grown mD h.mv il;refine ⟨h.keep BS Ej dB.size (fun k hk _ _ h3 _=>dB.block k (by omega) h3) (rz h.cf _) ((dB.block x.p h.row.lt h.fp.symm).trans h.row) (h.ps.same fun g G0=>?_) (h.met.same (dB.block x.mb h.met.lt (fun e=>h.met.ne (h.cf.cell 0 (by simp)) e.symm))) h.DH,h.cx dB.size fun k hk _ _ h3 _ _=>dB.block k hk h3⟩
 have:=h.ps.dy G0;exact dB.block g this.2 (by omega)
theorem Vs.push(h:Vs base A db F d w0 tb x lo w v acc M)(il:Dv base A db F d w0)(p:Nat)(hn:acc.length≤1099511627776):∃ a' c' w',(Builtin.append_ #[69,69] 69 #[v,.slice (some ⟨w.heap.size,0,none⟩) 1 1]).run prog (w.alloc (.cells #[.int .i64 (p:Int)] 3)) = .ok (.slice a' (acc.length+1) c') w'∧w'.frozen? ⟨x.p,0,none⟩=false∧w'.cell? ⟨x.p,0,none⟩=some v∧Vs base A db F d w0 tb x lo (w'.setCell ⟨x.p,0,none⟩ (.slice a' (acc.length+1) c')) (.slice a' (acc.length+1) c') (acc++[p]) M∧dd w (w'.setCell ⟨x.p,0,none⟩ (.slice a' (acc.length+1) c')):=by
 have ho:=h.ord;have tG:=h.lo;obtain ⟨a',c',w',hr,nG,hg⟩:=u9.push lo v acc p w h.ps hn tG;have aN:=ai w (.cells #[.int .i64 (p:Int)] 3);have cp:(w.alloc (.cells #[.int .i64 (p:Int)] 3)).heap.size=w.heap.size+1:=by simp
 have pN:=hg.size;have OY:=ho x.p (by simp)
 have fy:∀ b,b<lo→some b≠v.ownBlock:=fun b hb e=>by
  have:=(h.ps.dy e.symm).1;omega
 have Pt:∀ k,k<w.heap.size→some k≠v.ownBlock→w'.heap[k]?=w.heap[k]?:=fun k hk h1=>(hg.block k (by omega) h1).trans (aN.block k hk)
 have bV:B.au w' x.p #[v] 69:=(Pt x.p h.row.lt (fy _ OY.2)).trans h.row;have dB:=bK.set x.p 0 w' (.slice a' (acc.length+1) c');have j8:=dB.size;have xS:w.heap.size≤(w'.setCell ⟨x.p,0,none⟩ (.slice a' (acc.length+1) c')).heap.size:=by omega
 have cZ:∀ k,k<w.heap.size→k≠x.p→some k≠v.ownBlock→(w'.setCell ⟨x.p,0,none⟩ (.slice a' (acc.length+1) c')).heap[k]?=w.heap[k]?:=fun k hk h1 h2=>(dB.block k (by omega) h1).trans (Pt k hk h2)
 have mD:Below w0.heap.size w (w'.setCell ⟨x.p,0,none⟩ (.slice a' (acc.length+1) c')):=⟨dB.os.trans (hg.os.trans aN.os),dB.tape.trans (hg.tape.trans aN.tape),dB.output.trans (hg.output.trans aN.output),xS,fun k hk=>cZ k (by omega) (by omega) (fy k (by omega))⟩
 obtain ⟨BS,Ej⟩:=h.dv.grown mD h.mv il;have hof:=ho x.f (by simp)
 have hom:=ho x.mb (by simp)
 refine ⟨a',c',w',hr,by unfold B.au at bV;simp [World.frozen?,bV],bV.cell 0 (by simp),h.keep BS Ej xS (fun k hk _ _ _ h4=>cZ k (by omega) h4 (fy k hk)) ((cZ x.f h.cf.lt h.fp (fy _ hof.2)).trans h.cf) (rz bV _) (nG.same fun g G0=>?_) (h.met.same (cZ x.mb h.met.lt (fun e=>h.met.ne (h.row.cell 0 (by simp)) e.symm) (fy _ hom.2))) h.DH,h.cx xS fun k hk _ _ _ h4 h5=>cZ k hk h4 (fun e=>h5 e.symm)⟩
 have:=nG.dy G0;exact dB.block g this.2 (by omega)
theorem Vs.again{h:Nat}{p:C.Ch}{t:Nd h}(hg:Vs base A db F d w0 tb x lo w v acc M)(il:Dv base A db F d w0)(hk:eo (cU d) w0 h p t)(lx:∀ i ∈ cD h t,i ∉ M)(mS:M.length+(cD h t).length<1099511627776):Calls prog 91 #[.map (some x.mb),p.val] w fun e w'=>e = .returned (.bool false)∧Vs base A db F d w0 tb x lo w' v acc (M++cJ (eX h t))∧dd w w':=by
 obtain ⟨h1,h2⟩:=xK hk;have fy:decide (eX h t ∈ M)=false:=by
  rw [decide_eq_false_iff_not];intro hm;have h3:=hg.met.ok _ hm;refine lx _ (Gq _ ?_) hm;unfold cJ;rw [if_neg (by omega)]
  simp
 refine (rR p (eX h t) h1 h2 x.mb M w hg.met hg.DH).mono ?_
 rintro e w' ⟨rfl,hm,AN⟩;rw [I2] at hm;have hl:=IU (t:=t);obtain ⟨g1,g2⟩:=hg.meet il hm (by rw [ae];omega) AN
 exact ⟨by rw [fy],g1,g2⟩
end
attribute [local go_sem ↓] Go.wp_at_zero Go.wp_at_succ
theorem sX{ops:Array Oper}{rest:List Oper}{o:Oper}{a:Act}{Q:Exit→Act→World→Prop}(w:World)(hg:o.guard=none)(t:TypeId)(x y:Operand)(ho:o.op = .call { callee:=.builtin .append,args:=#[x,y],argTypes:=#[t,t] })(BN:o.type=t)(vx vy:Value)(hx:a.eval x=vx)(hy:a.eval y=vy)(v:Value)(w':World)
  (bo:(Builtin.append_ #[t,t] t #[vx,vy]).run prog w = .ok v w') (hK:wpList prog ops Q rest (a.put o.dst v) w'):wpList prog ops Q (o::rest) a w:=by
 refine wpList_plain hg fun K' Zq=>?_
 unfold Oper.wp;simp [execOp,ho,resolve,invoke,builtin,hx,hy,BN,bo,Result.andThen]
 exact Zq _ _ hK
section
variable {base:Nat} {A:Nat→Addr} {db:Nat} {F:Nat→Prop} {d:S.V.bD} {w0:World} {tb:Nat} {x:Bv} {lo:Nat} {w:World} {v:Value} {acc M:List Nat}
theorem CU(p:C.Ch)(i:Nat)(hi:Sf p=(i:Int))(s:ByteArray)(lv:Int)(h:Vs base A db F d w0 tb x lo w v acc M)(il:Dv base A db F d w0)(hn:acc.length≤1099511627776):Calls prog 66 #[p.val,.string s,.int .i64 lv,.pointer (some ⟨x.p,0,none⟩)] w fun e w'=>e = .returned (.tuple #[])∧(∃ v',Vs base A db F d w0 tb x lo w' v' (acc++cJ i) M)∧dd w w':=by
 have HP:=ab (xm p w);rw [hi] at HP;obtain ⟨pt,px,iB⟩:=bJ p;rw [iB] at HP ⊢;have HS:=ab h;have hpu:=h.push il i hn;have kp:w.cell? ⟨x.p,0,none⟩=some v:=h.row.cell 0 (by simp)
 obtain ⟨va,vc,mQ⟩:=h.ps.form;obtain ⟨a',c',w',bo,kfz,kp',hvs,haw⟩:=hpu;have Mb:=ab bo;have nM:Hid ((∃ v',Vs base A db F d w0 tb x lo (w'.setCell ⟨x.p,0,none⟩ (.slice a' (acc.length+1) c')) v' (acc++[i]) M)∧dd w (w'.setCell ⟨x.p,0,none⟩ (.slice a' (acc.length+1) c'))):=⟨⟨_,hvs⟩,haw⟩;clear h iB hi il hn hvs haw bo;by_cases h0:i=0
 ·subst h0;clear nM Mb kfz kp';go_enter func66,ntmps66;go_wp2_with fail;refine HP.out.mono ?_
  rintro e w1 ⟨rfl,rfl⟩;go_wp2;go_end0
  exact ⟨rfl,⟨v,by rw [show cJ 0=[] from rfl,List.append_nil];exact HS.out⟩,dd.refl _⟩
 ·have h1:((i:Int) != 0)=true:=by simp;omega
  have HO:Hid (cJ i=[i]):=by show cJ i=[i];unfold cJ;rw [if_neg h0]
  subst mQ;clear h0;go_enter func66,ntmps66;go_wp2_with fail;refine HP.out.mono ?_
  rintro e w1 ⟨rfl,rfl⟩;go_wp2_with (first | (at_builtin;refine sX _ rfl 69 _ _ rfl rfl _ _ rfl rfl _ _ Mb.out ?_))
  go_end0
  exact ⟨rfl,by rw [HO.out];exact nM.out.1,nM.out.2⟩
end
attribute [local go_sem ↓] Go.wp_at_zero Go.wp_at_succ
section
variable {w0:World} {lo pb:Nat} {pv:Value} {P:List Nat} {tx:Nat} {w:World} {sv:Value} {Z Z1:List S.Sh}
theorem uD(b:Nat)(kd cn:Int)(body:ByteArray)(hP:pR w0 lo pb pv P tx w sv Z)(Fx:Calls prog 149 #[.pointer (some ⟨pb,0,none⟩),.pointer (some ⟨b,0,none⟩)] w fun e w'=>∃ WN,e = .returned (.agg #[.int .i64 kd,.int .i64 0,.int .u64 0,.int .i64 cn,.string body])∧pR w0 lo pb pv P tx w' WN Z1∧mo pb w sv w' WN)(id:Nat)(hid:P[Z1.length]?=some id):Calls prog 112 #[.pointer (some ⟨pb,0,none⟩),.pointer (some ⟨b,0,none⟩)] w fun e w'=>∃ n7,e = .returned (.int .i64 (id:Int))∧pR w0 lo pb pv P tx w' n7 (Z1++[⟨kd,id,tx,cn,body⟩])∧mo pb w sv w' n7:=by
 have FH:=ab Fx;have HID:=ab hid;have Fe:Hid (P.length≤1000000∧Z1.length<P.length):=⟨hP.pl,(List.getElem?_eq_some_iff.1 hid).1⟩;clear Fx hP hid;go_enter func112,ntmps112;go_wp2_with fail;refine FH.out.mono ?_
 rintro e w1 ⟨WN,rfl,h1,D9⟩;obtain ⟨pa,pn,iB,Yr,Yq,FB⟩:=h1.pg;have FA:(Q.kq P).length=P.length:=by unfold Q.kq;rw [az]
 obtain ⟨pg,po,T9,BP⟩:=FB Z1.length (.int .i64 (id:Int)) (by unfold Q.kq;rw [aL,HID.out];rfl)
 subst T9;rw [FA] at iB Yr;subst iB;obtain ⟨sa,sc,hsv⟩:=h1.sh.form;subst hsv;obtain ⟨K,hK⟩ : ∃ K,w1.heap.size=K:=⟨_,rfl⟩;obtain ⟨W1,lf⟩ : ∃ W1,w1.alloc (.cells #[.int .i64 kd,.int .i64 0,.int .u64 0,.int .i64 cn,.string body] 87)=W1:=⟨_,rfl⟩;have aN:Below w1.heap.size w1 W1:=lf▸ai w1 _;have rK:B.au W1 K #[.int .i64 kd,.int .i64 0,.int .u64 0,.int .i64 cn,.string body] 87:=by rw [← hK];exact lf▸B.au.new w1 _ _
 have h2:=h1.below aN;have n0:=h2.row.cell 0 (by simp)
 have n1:=h2.row.cell 1 (by simp)
 have n2:=h2.row.cell 2 (by simp)
 have ze:pb≠K:=by have:=h1.row.lt;omega
 have hgk:pg≠K:=by
  have:=World.block_lt_of_cell? w0 _ BP;have:=h1.ff.size;have:pg<w0.heap.size:=by assumption
  omega
 have q0:W1.cell? ⟨pb,0,none⟩=some (.slice (some ⟨pg,po,none⟩) P.length pn):=n0;have q1:W1.cell? ⟨pb,1,none⟩=some (.int .u64 (tx:Int)):=n1;have q2:W1.cell? ⟨pb,2,none⟩=some (.slice sa Z1.length sc):=n2;have q3:W1.cell? ⟨pg,po+Z1.length,none⟩=some (.int .i64 (id:Int)):=(h2.ff.cell (p:=⟨pg,po+Z1.length,none⟩) (World.block_lt_of_cell? w0 _ BP)).trans BP;have c0:W1.cell? ⟨K,0,none⟩=some (.int .i64 kd):=rK.cell 0 (by simp)
 have c1:W1.cell? ⟨K,1,none⟩=some (.int .i64 0):=rK.cell 1 (by simp)
 have c2:W1.cell? ⟨K,2,none⟩=some (.int .u64 0):=rK.cell 2 (by simp)
 have c3:W1.cell? ⟨K,3,none⟩=some (.int .i64 cn):=rK.cell 3 (by simp)
 have c4:W1.cell? ⟨K,4,none⟩=some (.string body):=rK.cell 4 (by simp)
 have f1:=rK.free 1;have f2:=rK.free 2;have nP:(0:Int)≤(Z1.length:Int):=by omega
 have mB:(Z1.length:Int)<(P.length:Int):=by have:=Fe.out.2;omega
 have HKW:Hid (w0.heap.size≤K):=by have:=h1.ff.size;show _≤_;omega
 have Tx:Hid (w.heap.size≤K):=by have:=D9.size;show _≤_;omega
 have ME:Hid (pb<K∧lo≤K):=⟨by have:=h1.row.lt;omega,by have:=h1.lo;omega⟩
 have HKO:Hid (∀ g,(Value.slice sa Z1.length sc).ownBlock=some g→g<K):=fun g hg=>by have:=(h1.sh.dy hg).2;omega
 have H2:=ab h2;have ZR:=ab rK;have Fa:=ab (D9.trans (mo.below _ aN));clear h1 D9 FB Yq FA n0 n1 n2 h2 rK aN FH BP Yr;go_wp2_with fail;go_region
 obtain ⟨W2,K3⟩ : ∃ W2,(W1.setCell ⟨K,1,none⟩ (.int .i64 (id:Int))).setCell ⟨K,2,none⟩ (.int .u64 (tx:Int))=W2:=⟨_,rfl⟩;have uG:bK K W1 W2:=K3▸(bK.set K 1 W1 _).trans (bK.set K 2 _ _);have UX:B.au W2 K #[.int .i64 kd,.int .i64 (id:Int),.int .u64 (tx:Int),.int .i64 cn,.string body] 87:=by
  have h9:=ZR.out;unfold B.au at h9 ⊢;rw [← K3,setCell_eq_setRow W1 K 1 _ _ (0,0) _ h9];have h8:=setRow_heap W1 K _ ((#[.int .i64 kd,.int .i64 0,.int .u64 0,.int .i64 cn,.string body] : Array Value).setIfInBounds 1 (.int .i64 (id:Int))) _ (0,0) h9;rw [setCell_eq_setRow _ K 2 _ _ (0,0) _ h8];exact setRow_heap _ K _ _ _ (0,0) h8
 have h3:=H2.out;have abG:K<W1.heap.size:=ZR.out.lt;have ey:∀ k,k<K→W2.heap[k]?=W1.heap[k]?:=fun k hk=>uG.block k (by omega) (by omega)
 have hK1:=Tx.out;have abR:pb<K:=ME.out.1;have Yb:mo pb w sv W2 (.slice sa Z1.length sc):=by
  have h9:=Fa.out;exact ⟨aq h9.size uG.size,fun k hk h1 h2=>(ey k (by omega)).trans (h9.block k hk h1 h2),h9.own⟩
 have hP3:pR w0 lo pb (.slice (some ⟨pg,po,none⟩) P.length pn) P tx W2 (.slice sa Z1.length sc) Z1:=by
  have tG:=ME.out.2;refine ⟨⟨uG.os.trans h3.ff.os,uG.tape.trans h3.ff.tape,uG.output.trans h3.ff.output,aq h3.ff.size uG.size,fun k hk=>(ey k (by have:=HKW.out;omega)).trans (h3.ff.block k hk)⟩,(ey pb abR).trans h3.row,h3.sh.same fun g hg=>ey g (HKO.out g hg),h3.ord,aq h3.lo uG.size,h3.pg,h3.pl⟩
 have VF:Below W2.heap.size W2 W2.drew.drew:=B.aR (B.aR (Below.refl _ _));obtain ⟨a',c',w',bo,kfz,kp,hPn,Zo⟩:=(hP3.below VF).push ⟨kd,id,tx,cn,body⟩ (by have:=Fe.out;omega)
 have T4:(Builtin.append_ #[83,83] 83 #[.slice sa Z1.length sc,.slice (some ⟨W2.heap.size,0,none⟩) 1 1]).run prog (W2.alloc (.cells #[.int .i64 kd,.int .i64 (id:Int),.int .u64 (tx:Int),.int .i64 cn,.string body] 87)).drew.drew = .ok (.slice a' (Z1.length+1) c') w':=bo;have hPt:=(mo.below (.slice sa Z1.length sc) VF).trans Zo;have Mb:=ab T4;have nM:Hid (pR w0 lo pb (.slice (some ⟨pg,po,none⟩) P.length pn) P tx (w'.setCell ⟨pb,2,none⟩ (.slice a' (Z1.length+1) c')) (.slice a' (Z1.length+1) c') (Z1++[⟨kd,id,tx,cn,body⟩])∧mo pb w sv (w'.setCell ⟨pb,2,none⟩ (.slice a' (Z1.length+1) c')) (.slice a' (Z1.length+1) c')):=⟨hPn,Yb.trans hPt⟩;have d0:W2.cell? ⟨K,0,none⟩=some (.int .i64 kd):=UX.cell 0 (by simp)
 have d1:W2.cell? ⟨K,1,none⟩=some (.int .i64 (id:Int)):=UX.cell 1 (by simp)
 have d2:W2.cell? ⟨K,2,none⟩=some (.int .u64 (tx:Int)):=UX.cell 2 (by simp)
 have d3:W2.cell? ⟨K,3,none⟩=some (.int .i64 cn):=UX.cell 3 (by simp)
 have d4:W2.cell? ⟨K,4,none⟩=some (.string body):=UX.cell 4 (by simp)
 have e2:W2.cell? ⟨pb,2,none⟩=some (.slice sa Z1.length sc):=hP3.row.cell 2 (by simp)
 have e3:(W2.alloc (.cells #[.int .i64 kd,.int .i64 (id:Int),.int .u64 (tx:Int),.int .i64 cn,.string body] 87)).cell? ⟨pb,2,none⟩=some (.slice sa Z1.length sc):=((ai W2 _).cell (p:=⟨pb,2,none⟩) (World.block_lt_of_cell? W2 _ e2)).trans e2;have rh:(w'.setCell ⟨pb,2,none⟩ (.slice a' (Z1.length+1) c')).cell? ⟨K,1,none⟩=some (.int .i64 (id:Int)):=b9 (hPt.block K UX.lt (by omega) (fun e=>by have:=HKO.out K e;omega)) d1
 clear uG UX h3 abG ey hK1 Yb hP3 bo T4 hPn hPt Zo VF q0 q1 q2 q3 c0 c1 c2 c3 c4 f1 f2 lf Fa H2 ZR nP mB;go_wp2_with fail;go_region_law (first | (refine nx 83 rfl (.tmp 30) (.tmp 32) rfl rfl _ _ rfl rfl _ _ Mb.out ?_))
 all_goals
  go_wp2;go_ret;exact ⟨_,rfl,nM.out.1,nM.out.2⟩
end
theorem tq{α β γ:Type}(g:α→Nat→β × List γ):∀ (cs:List α) (c:α) (k:Nat),bU g (cs++[c]) k=((bU g cs k).1++[(g c (k+(bU g cs k).2.length)).1],(bU g cs k).2++(g c (k+(bU g cs k).2.length)).2)
 | [],c,k=>by simp [bU]
 | d::cs,c,k=>by
  have:=tq g cs c (k+(g d k).2.length);simp only [List.cons_append,bU,this,ae,ax,ed]
theorem D2{α β γ:Type}(g:α→Nat→β × List γ):∀ (xs bs:List α) (k:Nat),bU g (xs++bs) k=((bU g xs k).1++(bU g bs (k+(bU g xs k).2.length)).1,(bU g xs k).2++(bU g bs (k+(bU g xs k).2.length)).2)
 | [],bs,k=>by simp [bU]
 | d::xs,bs,k=>by
  have:=D2 g xs bs (k+(g d k).2.length);simp only [List.cons_append,bU,this,ae,ax,ed]
theorem KK{α β γ:Type}(g:α→Nat→β × List γ)(cs:List α)(k i:Nat):(bU g (cs.take i) k).1=(bU g cs k).1.take i:=by
 by_cases h:i≤cs.length
 ·conv=>rhs;rw [← aE i cs,D2]
  exact (List.take_left' (by rw [ir,ag];omega)).symm
 ·have e:cs.take i=cs:=ar (by omega)
  rw [e];exact (ar (by rw [ir];omega)).symm
theorem I6{α β γ:Type}(g:α→Nat→β × List γ)(cs:List α)(k i:Nat)(c:α)(hc:cs[i]?=some c):(bU g cs k).1[i]?=some (g c (k+(bU g (cs.take i) k).2.length)).1∧(bU g (cs.take (i+1)) k).2=(bU g (cs.take i) k).2++(g c (k+(bU g (cs.take i) k).2.length)).2:=by
 have hi:=(List.getElem?_eq_some_iff.1 hc).1;have e:cs.take (i+1)=cs.take i++[c]:=by rw [gq,hc];rfl
 have h1:=KK g cs k (i+1);rw [e,tq] at h1;refine ⟨?_,by rw [e,tq]⟩
 have h2:((bU g cs k).1.take (i+1))[i]?=(bU g cs k).1[i]?:=by rw [List.getElem?_take_of_lt (by omega)]
 rw [← h2,← h1];simp only;rw [aX (by rw [ir,ag];omega),ir,ag,a8 (by omega),dI]
 rfl
theorem xz{h:Nat}{cs:List (Nd h)}{i:Nat}{c:Nd h}(hn:(cs.flatMap (cD h)).Nodup)(hc:cs[i]?=some c):(cD h c).Nodup:=by
 obtain ⟨hi,hv⟩:=List.getElem?_eq_some_iff.1 hc;have hm:c ∈ cs:=hv▸aH hi;obtain ⟨a,b,rfl⟩:=List.append_of_mem hm;rw [bh,List.flatMap_cons] at hn;exact hn.sublist ((List.sublist_append_left _ _).trans (dA _ _))
def qu(a b:List B.Lk)(i:Nat):List B.Lk:=a.take i++b.drop i
theorem N8{a b:List B.Lk}{i:Nat}{x:B.Lk}(hl:a.length=b.length)(hx:a[i]?=some x):(qu a b i).set i x=qu a b (i+1):=by
 obtain ⟨hi,hv⟩:=List.getElem?_eq_some_iff.1 hx;unfold qu;rw [bO _ _ (by rw [ag];omega),ag,a8 (by omega),dI,bf (by omega:i<b.length),List.set_cons_zero,gq,hx]
 simp
theorem Oa{a b:List B.Lk}{i:Nat}(hl:a.length=b.length)(hi:i<b.length):(qu a b i)[i]?=some b[i]:=by
 unfold qu;rw [aX (by rw [ag];omega),ag,a8 (by omega),dI,cL,Nat.add_zero,af hi]
theorem N9{a b:List B.Lk}{i:Nat}(hl:a.length=b.length)(hi:i≤b.length):(qu a b i).length=b.length:=by
 unfold qu;rw [ae,ag,ao];omega
theorem Oc{a b:List B.Lk}{i:Nat}(hl:a.length=b.length)(hi:b.length≤i):qu a b i=a:=by
 unfold qu;rw [fq hi,List.append_nil,ar (by omega)]
theorem DN(x:Int):∀ (l:List B.Lk) (k:Nat) (q:B.Lk),l[k]?=some q→(B.bg l).set (k*2+1) (.int .i64 x)=B.bg (l.set k (q.1,x))
 | [],k,q,h=>by simp at h
 | p::l,0,q,h=>by
  cases h;rw [List.set_cons_zero,B.ee,B.ee];rfl
 | p::l,k+1,q,h=>by
  rw [List.set_cons_succ,B.ee,B.ee,← DN x l k q h,show (k+1)*2+1=k*2+1+1+1 by omega]
  simp only [List.set_cons_succ]
theorem KF{w:World}{base g n cap:Nat}{l:List B.Lk}(h:B.bQ w base (.slice (some ⟨g,0,none⟩) n cap) l)(k:Nat)(q:B.Lk)(hq:l[k]?=some q)(x:Int):B.bQ (w.setCell ⟨g,k*2+1,none⟩ (.int .i64 x)) base (.slice (some ⟨g,0,none⟩) n cap) (l.set k (q.1,x)):=by
 obtain rfl:=h.cnt;unfold B.bQ at h;have:=(World.ownsRow.stored h (k*2+1) (.int .i64 x)).1;rw [DN x l k q hq] at this;unfold B.bQ;rw [cu];exact this
theorem rV{w w':World}{base:Nat}{v:Value}{l:List B.Lk}(h:B.bQ w base v l)(hb:∀ g,v.ownBlock=some g→w'.heap[g]?=w.heap[g]?):B.bQ w' base v l:=by
 refine ⟨h.1,?_⟩;rcases h.2 with h' | ⟨g,cap,cur,h',h1,h2,hr⟩
 ·exact .inl h'
 ·exact .inr ⟨g,cap,cur,h',h1,(hb g (by rw [h'];rfl)).trans h2,hr⟩
theorem R8{h:Nat}{ks:List ByteArray}{cs:List (Nd h)}{i:Nat}{k:ByteArray}{c:Nd h}(hk:ks[i]?=some k)(hc:cs[i+1]?=some c):(qv ks cs)[i]?=some (k,(eX h c:Int)):=by
 unfold qv;rw [List.getElem?_zip_eq_some];refine ⟨hk,?_⟩;rw [aL,List.getElem?_tail,hc];rfl
def fi(P:List Nat)(j:Nat):Nat:=P.getD j 2
def Tr(PG:Int→Option PD)(w0:World)(lo pb:Nat)(pv:Value)(P:List Nat)(tx:Nat)(h:Nat):Prop :=
 ∀ (p:C.Ch) (t:Nd h) (w:World) (sv:Value) (Z:List S.Sh),eo PG w0 h p t→MC h t→pR w0 lo pb pv P tx w sv Z→Z.length+fA h t≤P.length→(cD h (aT (fi P) h t Z.length).1).Nodup →
  Calls prog 72 #[.pointer (some ⟨pb,0,none⟩),p.val] w fun e w'=>∃ n7,e = .returned (.int .i64 (eX h (aT (fi P) h t Z.length).1:Int))∧pR w0 lo pb pv P tx w' n7 (Z++(aT (fi P) h t Z.length).2.map (jM tx))∧mo pb w sv w' n7
structure zU(w0:World)(lo pb:Nat)(pv:Value)(P:List Nat)(tx:Nat){h:Nat}(cs:List (Nd h))(k0:Nat)(a l:List B.Lk)(f:Int)(w:World)(sv:Value)(Z:List S.Sh)(H K ug uc:Nat)(i j:Nat)(wx:World)(sx:Value):Prop where
 zb:pR w0 lo pb pv P tx wx sx (Z++(bU (aT (fi P) h) (cs.take j) k0).2.map (jM tx))
 Mq:mo pb w sv wx sx
 row:B.au wx K #[.int .i64 f,.slice (some ⟨ug,0,none⟩) l.length uc] 150
 lk:B.bQ wx w.heap.size (.slice (some ⟨ug,0,none⟩) l.length uc) (qu a l i)
 res:B.au wx H #[.int .i64 0,.slice none 0 0] 150
 ne:K≠ug∧H≠K∧H≠ug
 nb:K≠pb∧H≠pb∧ug≠pb
 no:∀ b ∈ [K,H,ug],sx.ownBlock≠some b
 ge:w.heap.size≤K∧w.heap.size≤H
section
variable {PG:Int→Option PD} {w0:World} {lo pb:Nat} {pv:Value} {P:List Nat} {tx:Nat} {h:Nat} {cs:List (Nd h)} {k0:Nat} {a l:List B.Lk} {f:Int} {w:World} {sv:Value} {Z:List S.Sh} {H K ug uc:Nat} {i j:Nat} {wx:World} {sx:Value}
theorem zU.MY(hB:zU w0 lo pb pv P tx cs k0 a l f w sv Z H K ug uc i j wx sx):ug<wx.heap.size:=(hB.lk.dy ug rfl).2
theorem zU.move{wy:World}{sy:Value}{j':Nat}(hB:zU w0 lo pb pv P tx cs k0 a l f w sv Z H K ug uc i j wx sx)(ht:mo pb wx sx wy sy)(hp:pR w0 lo pb pv P tx wy sy (Z++(bU (aT (fi P) h) (cs.take j') k0).2.map (jM tx))):zU w0 lo pb pv P tx cs k0 a l f w sv Z H K ug uc i j' wy sy:=by
 have hug:=hB.MY;have hK:=hB.row.lt;have hH:=hB.res.lt;refine ⟨hp,hB.Mq.trans ht,(ht.block K hK hB.nb.1 (hB.no K (by simp))).trans hB.row,rV hB.lk fun g hg=>?_,(ht.block H hH hB.nb.2.1 (hB.no H (by simp))).trans hB.res,hB.ne,hB.nb,fun b hb e=>?_,hB.ge⟩
 ·have e:ug=g:=by simpa [Value.ownBlock] using hg
  subst e;exact ht.block ug hug hB.nb.2.2 (hB.no ug (by simp))
 ·rcases ht.own b e with e' | e'
  ·exact hB.no b hb e'
  ·simp only [dG,dx,or_false] at hb;omega
theorem zU.below{wy:World}(hB:zU w0 lo pb pv P tx cs k0 a l f w sv Z H K ug uc i j wx sx)(hb:Below wx.heap.size wx wy):zU w0 lo pb pv P tx cs k0 a l f w sv Z H K ug uc i j wy sx:=hB.move (mo.below _ hb) (hB.zb.below hb)
theorem zU.call{c:Nd h}{q:C.Ch}(IH:Tr PG w0 lo pb pv P tx h)(SD:k0=Z.length)(ji:((bU (aT (fi P) h) cs k0).1.flatMap (cD h)).Nodup)(uJ:k0+(cs.map (fA h)).sum≤P.length)(hB:zU w0 lo pb pv P tx cs k0 a l f w sv Z H K ug uc i j wx sx)(hc:cs[j]?=some c)(hk:eo PG w0 h q c)(ho:MC h c):Calls prog 72 #[.pointer (some ⟨pb,0,none⟩),q.val] wx fun e w'=>∃ n7 c',(bU (aT (fi P) h) cs k0).1[j]?=some c'∧e = .returned (.int .i64 (eX h c':Int))∧zU w0 lo pb pv P tx cs k0 a l f w sv Z H K ug uc i (j+1) w' n7:=by
 obtain ⟨h1,h2⟩:=I6 (aT (fi P) h) cs k0 j c hc;have hlen:(Z++(bU (aT (fi P) h) (cs.take j) k0).2.map (jM tx)).length=k0+(bU (aT (fi P) h) (cs.take j) k0).2.length:=by rw [ae,az,SD]
 have KQ:(bU (aT (fi P) h) (cs.take j) k0).2.length+fA h c≤(cs.map (fA h)).sum:=by
  rw [sd (pz h),iC];have e1:=wJ (l:=cs.map (fA h)) (i:=j) (x:=fA h c) (by rw [aL,hc];rfl)
  have e2:=kX (cs.map (fA h)) (j+1);omega
 refine (IH q c wx sx _ hk ho hB.zb (by rw [hlen];omega) (by rw [hlen];exact xz ji h1)).mono ?_
 rintro e w' ⟨n7,rfl,g1,g2⟩;rw [hlen] at g1 ⊢;refine ⟨n7,_,h1,rfl,hB.move g2 ?_⟩;rw [h2,aW,← ax];exact g1
theorem zU.put{ks:List ByteArray}{c':Nd h}(HW:w0.heap.size≤w.heap.size)(hB:zU w0 lo pb pv P tx cs k0 a l f w sv Z H K ug uc i j wx sx)(ny:l.map (·.1)=ks)(ha:a=qv ks (bU (aT (fi P) h) cs k0).1)(FF:a.length=l.length)(hi:i<l.length)(hc:(bU (aT (fi P) h) cs k0).1[i+1]?=some c'):(∃ u,wx.cell? ⟨ug,i*2+1,none⟩=some u)∧wx.frozen? ⟨ug,i*2+1,none⟩=false∧zU w0 lo pb pv P tx cs k0 a l f w sv Z H K ug uc (i+1) j (wx.setCell ⟨ug,i*2+1,none⟩ (.int .i64 (eX h c':Int))) sx:=by
 have Fv:=hB.lk.spot i (by rw [N9 FF (by omega)];exact hi)
 have Xd:=Oa (a:=a) FF hi;have ab9:ks[i]?=some l[i].1:=by rw [← ny,aL,af hi];rfl
 have Zk:a[i]?=some (l[i].1,(eX h c':Int)):=by rw [ha];exact R8 ab9 hc
 have oC:=KF hB.lk i l[i] Xd (eX h c':Int);rw [N8 FF Zk] at oC;have dB:=bK.set ug (i*2+1) wx (.int .i64 (eX h c':Int));have hug:=hB.MY;have agl:w.heap.size≤ug:=(hB.lk.dy ug rfl).1;have abO:mo pb w sv (wx.setCell ⟨ug,i*2+1,none⟩ (.int .i64 (eX h c':Int))) sx:=by
  have h9:=hB.Mq;exact ⟨aq h9.size dB.size,fun k hk h1 h2=>(dB.block k (al hk h9.size) (by omega)).trans (h9.block k hk h1 h2),h9.own⟩
 refine ⟨Fv.2.1,Fv.2.2.2,⟨?_,abO,(dB.block K hB.row.lt hB.ne.1).trans hB.row,oC,(dB.block H hB.res.lt hB.ne.2.2).trans hB.res,hB.ne,hB.nb,hB.no,hB.ge⟩⟩;have h3:=hB.zb;exact ⟨⟨dB.os.trans h3.ff.os,dB.tape.trans h3.ff.tape,dB.output.trans h3.ff.output,aq h3.ff.size dB.size,fun k hk=>(dB.block k (al hk h3.ff.size) (by omega)).trans (h3.ff.block k hk)⟩,(dB.block pb h3.row.lt (fun e=>hB.nb.2.2 e.symm)).trans h3.row,h3.sh.same fun g hg=>dB.block g (h3.sh.dy hg).2 (fun e=>hB.no ug (by simp) (e▸hg)),h3.ord,aq h3.lo dB.size,h3.pg,h3.pl⟩
end
structure sR(w0:World)(lo pb:Nat)(pv:Value)(P:List Nat)(tx:Nat)(l:List B.Lk)(w:World)(sv:Value)(H:Nat)(wx:World)(sx:Value)(Zc:List S.Sh)(kk:Option Nat)(uu:Option (Nat × Nat)):Prop where
 zb:pR w0 lo pb pv P tx wx sx Zc
 Mq:mo pb w sv wx sx
 res:B.au wx H #[.int .i64 0,.slice none 0 0] 150
 Ep:w.heap.size≤H∧H≠pb∧sx.ownBlock≠some H
 kr:∀ K,kk=some K→B.au wx K #[.int .i64 0,.slice none 0 0] 150∧w.heap.size≤K∧K≠pb∧sx.ownBlock≠some K∧H≠K
 ur:∀ g c,uu=some (g,c)→B.bQ wx w.heap.size (.slice (some ⟨g,0,none⟩) l.length c) l∧g≠pb∧sx.ownBlock≠some g∧H≠g
 ku:∀ K g c,kk=some K→uu=some (g,c)→K≠g
section
variable {w0:World} {lo pb:Nat} {pv:Value} {P:List Nat} {tx:Nat} {l:List B.Lk} {w:World} {sv:Value} {H:Nat} {wx wy:World} {sx sy:Value} {Zc Zd:List S.Sh} {kk:Option Nat} {uu:Option (Nat × Nat)}
theorem sR.move(h:sR w0 lo pb pv P tx l w sv H wx sx Zc kk uu)(ht:mo pb wx sx wy sy)(hp:pR w0 lo pb pv P tx wy sy Zd):sR w0 lo pb pv P tx l w sv H wy sy Zd kk uu:=by
 have hH:=h.res.lt;have fy:∀ b,b<wx.heap.size→sx.ownBlock≠some b→sy.ownBlock≠some b:=fun b hb h1 e=>by
  rcases ht.own b e with e' | e'
  ·exact h1 e'
  ·omega
 refine ⟨hp,h.Mq.trans ht,(ht.block H hH h.Ep.2.1 h.Ep.2.2).trans h.res,⟨h.Ep.1,h.Ep.2.1,fy H hH h.Ep.2.2⟩,fun K hK=>?_,fun g c hu=>?_,h.ku⟩
 ·obtain ⟨h1,h2,h3,h4,h5⟩:=h.kr K hK;exact ⟨(ht.block K h1.lt h3 h4).trans h1,h2,h3,fy K h1.lt h4,h5⟩
 ·obtain ⟨h1,h2,h3,h4⟩:=h.ur g c hu;have hg:=(h1.dy g rfl).2;refine ⟨rV h1 fun g' Cv=>?_,h2,fy g hg h3,h4⟩
  have e:g=g':=by simpa [Value.ownBlock] using Cv
  subst e;exact ht.block g hg h2 h3
theorem sR.below(h:sR w0 lo pb pv P tx l w sv H wx sx Zc kk uu)(hb:Below wx.heap.size wx wy):sR w0 lo pb pv P tx l w sv H wy sx Zc kk uu:=h.move (mo.below _ hb) (h.zb.below hb)
theorem sR.drew(h:sR w0 lo pb pv P tx l w sv H wx sx Zc kk uu):sR w0 lo pb pv P tx l w sv H wx.drew sx Zc kk uu:=h.below (B.aR (Below.refl _ _))
theorem sR.alloc(h:sR w0 lo pb pv P tx l w sv H wx sx Zc none uu):sR w0 lo pb pv P tx l w sv H (wx.alloc (.cells #[.int .i64 0,.slice none 0 0] 150)) sx Zc (some wx.heap.size) uu:=by
 have hq:=h.below (ai wx (.cells #[.int .i64 0,.slice none 0 0] 150));refine ⟨hq.zb,hq.Mq,hq.res,hq.Ep,fun K hK=>?_,hq.ur,fun K g c hK hu e=>?_⟩
 ·cases hK;have h1:=h.Mq.size;have h2:=h.zb.row.lt;have h3:=h.res.lt;exact ⟨B.au.new wx _ _,h1,by omega,fun e=>by have:=(h.zb.sh.dy e).2;omega,by omega⟩
 ·cases hK;have:=((h.ur g c hu).1.dy g rfl).2;omega
theorem sR.clone{g c:Nat}(h:sR w0 lo pb pv P tx l w sv H wx sx Zc kk none)(ho:B.bQ wy wx.heap.size (.slice (some ⟨g,0,none⟩) l.length c) l)(hb:Below wx.heap.size wx wy):sR w0 lo pb pv P tx l w sv H wy sx Zc kk (some (g,c)):=by
 have hq:=h.below hb;have hg:=(ho.dy g rfl).1;have h1:=h.Mq.size;refine ⟨hq.zb,hq.Mq,hq.res,hq.Ep,hq.kr,fun g' c' hu=>?_,fun K g' c' hK hu e=>?_⟩
 ·cases hu;have h2:=h.zb.row.lt;have h3:=h.res.lt;exact ⟨ho.mono h1,by omega,fun e=>by have:=(h.zb.sh.dy e).2;omega,by omega⟩
 ·cases hu;have:=(h.kr K hK).1.lt;omega
theorem sR.done{h:Nat}{cs:List (Nd h)}{k0:Nat}{a:List B.Lk}{f:Int}{Z:List S.Sh}{K g c:Nat}(hq:sR w0 lo pb pv P tx l w sv H wx sx (Z++(bU (aT (fi P) h) (cs.take 1) k0).2.map (jM tx)) (some K) (some (g,c)))(hw0:w0.heap.size≤w.heap.size):zU w0 lo pb pv P tx cs k0 a l f w sv Z H K g c 0 1 ((wx.setCell ⟨K,0,none⟩ (.int .i64 f)).setCell ⟨K,1,none⟩ (.slice (some ⟨g,0,none⟩) l.length c)) sx:=by
 obtain ⟨k1,k2,k3,k4,k5⟩:=hq.kr K rfl;obtain ⟨u1,u2,u3,u4⟩:=hq.ur g c rfl;have hkg:=hq.ku K g c rfl rfl;have dB:=(bK.set K 0 wx (.int .i64 f)).trans (bK.set K 1 (wx.setCell ⟨K,0,none⟩ (.int .i64 f)) (.slice (some ⟨g,0,none⟩) l.length c));have h3:=hq.zb;have hH:=hq.Ep;refine ⟨⟨⟨dB.os.trans h3.ff.os,dB.tape.trans h3.ff.tape,dB.output.trans h3.ff.output,aq h3.ff.size dB.size,fun k hk=>(dB.block k (al hk h3.ff.size) (by omega)).trans (h3.ff.block k hk)⟩,(dB.block pb h3.row.lt (fun e=>k3 e.symm)).trans h3.row,h3.sh.same fun g' Cv=>dB.block g' (h3.sh.dy Cv).2 (fun e=>k4 (e▸Cv)),h3.ord,aq h3.lo dB.size,h3.pg,h3.pl⟩,?_,B.au.two k1 _ _,?_,(dB.block H hq.res.lt k5).trans hq.res,⟨hkg,k5,u4⟩,⟨k3,hH.2.1,u2⟩,fun b hb=>?_,k2,hH.1⟩
 ·have h9:=hq.Mq;exact ⟨aq h9.size dB.size,fun k hk h1 h2=>(dB.block k (al hk h9.size) (by omega)).trans (h9.block k hk h1 h2),h9.own⟩
 ·have e:qu a l 0=l:=by simp [qu]
  rw [e];refine rV u1 fun g' Cv=>?_
  have e:g=g':=by simpa [Value.ownBlock] using Cv
  subst e;exact dB.block g (u1.dy g rfl).2 (fun e=>hkg e.symm)
 ·simp only [dG,dx,or_false] at hb;rcases hb with rfl | rfl | rfl
  ·exact k4
  ·exact hH.2.2
  ·exact u3
theorem zU.fin{h:Nat}{cs:List (Nd h)}{k0:Nat}{a:List B.Lk}{f:Int}{Z:List S.Sh}{K g c i j:Nat}(hB:zU w0 lo pb pv P tx cs k0 a l f w sv Z H K g c i j wx sx)(hw0:w0.heap.size≤w.heap.size)(x y:Value):B.dm ((wx.setCell ⟨H,0,none⟩ x).setCell ⟨H,1,none⟩ y) (.slice (some ⟨g,0,none⟩) l.length c) (qu a l i)∧pR w0 lo pb pv P tx ((wx.setCell ⟨H,0,none⟩ x).setCell ⟨H,1,none⟩ y) sx (Z++(bU (aT (fi P) h) (cs.take j) k0).2.map (jM tx))∧mo pb w sv ((wx.setCell ⟨H,0,none⟩ x).setCell ⟨H,1,none⟩ y) sx:=by
 have dB:=(bK.set H 0 wx x).trans (bK.set H 1 (wx.setCell ⟨H,0,none⟩ x) y);have h3:=hB.zb;have Ep:=hB.ge;refine ⟨(rV hB.lk fun g' Cv=>?_).at,⟨⟨dB.os.trans h3.ff.os,dB.tape.trans h3.ff.tape,dB.output.trans h3.ff.output,aq h3.ff.size dB.size,fun k hk=>(dB.block k (al hk h3.ff.size) (by omega)).trans (h3.ff.block k hk)⟩,(dB.block pb h3.row.lt (fun e=>hB.nb.2.1 e.symm)).trans h3.row,h3.sh.same fun g' Cv=>dB.block g' (h3.sh.dy Cv).2 (fun e=>hB.no H (by simp) (e▸Cv)),h3.ord,aq h3.lo dB.size,h3.pg,h3.pl⟩,?_⟩
 ·have e:g=g':=by simpa [Value.ownBlock] using Cv
  subst e;exact dB.block g hB.MY (fun e=>hB.ne.2.2 e.symm)
 ·have h9:=hB.Mq;exact ⟨aq h9.size dB.size,fun k hk h1 h2=>(dB.block k (al hk h9.size) (by omega)).trans (h9.block k hk h1 h2),h9.own⟩
theorem sR.Us{h:Nat}{cs:List (Nd h)}{k0:Nat}{a:List B.Lk}{f:Int}{Z:List S.Sh}{g c:Nat}(hq:sR w0 lo pb pv P tx l w sv H wx sx (Z++(bU (aT (fi P) h) (cs.take 1) k0).2.map (jM tx)) none (some (g,c))):zU w0 lo pb pv P tx cs k0 a l f w sv Z H wx.heap.size g c 0 1 (wx.alloc (.cells #[.int .i64 f,.slice (some ⟨g,0,none⟩) l.length c] 150)) sx:=by
 have hb:=hq.below (ai wx (.cells #[.int .i64 f,.slice (some ⟨g,0,none⟩) l.length c] 150));obtain ⟨u1,u2,u3,u4⟩:=hb.ur g c rfl;have hg:=((hq.ur g c rfl).1.dy g rfl).2;have h1:=hq.Mq.size;have h2:=hq.zb.row.lt;have h3:=hq.res.lt;have hH:=hb.Ep;have hnk:sx.ownBlock≠some wx.heap.size:=fun e=>by have:=(hq.zb.sh.dy e).2;omega
 refine ⟨hb.zb,hb.Mq,B.au.new wx _ _,?_,hb.res,⟨by omega,by omega,u4⟩,⟨by omega,hH.2.1,u2⟩,fun b Mz=>?_,h1,hH.1⟩
 ·have e:qu a l 0=l:=by simp [qu]
  rw [e];exact u1
 ·simp only [dG,dx,or_false] at Mz;rcases Mz with rfl | rfl | rfl
  ·exact hnk
  ·exact hH.2.2
  ·exact u3
end
attribute [local go_sem ↓] Go.wp_at_zero Go.wp_at_succ
section
variable {base:Nat} {A:Nat→Addr} {db:Nat} {F:Nat→Prop} {d:S.V.bD} {w0:World} {tb:Nat} {x:Bx} {fr en:ByteArray} {lim lo:Nat}
def JI(base:Nat)(A:Nat→Addr)(db:Nat)(F:Nat→Prop)(d:S.V.bD)(w0:World)(tb:Nat)(x:Bx)(fr en:ByteArray)(lim lo:Nat)(h:Nat):Prop :=
 ∀ (p:C.Ch) (t:Nd h) (dp:Nat) (w:World) (v:Value) (acc:List Pr) (M:List Nat),eo (cU d) w0 h p t→jt ⟨h,t⟩→Gs base A db F d w0 tb x fr en lim lo w v acc M→dp+h≤64→(acc.length+(flat h t).length)*32≤140737488355328→(cD h t).Nodup→(∀ i ∈ cD h t,i ∉ M)→M.length+(cD h t).length<1099511627776 →
  Calls prog 90 #[p.val,.int .i64 (dp:Int),.pointer (some ⟨x.m,0,none⟩),.pointer (some ⟨x.f,0,none⟩),.pointer (some ⟨x.t,0,none⟩),.pointer (some ⟨x.fr,0,none⟩),.pointer (some ⟨x.en,0,none⟩),.pointer (some ⟨x.p,0,none⟩),.pointer (some ⟨x.l,0,none⟩),.pointer (some ⟨x.g,0,none⟩)] w
   (Fo base A db F d w0 tb x fr en lim lo w v M (cD h t) (ft fr en lim h t acc))
structure Ii(base:Nat)(A:Nat→Addr)(db:Nat)(F:Nat→Prop)(d:S.V.bD)(w0:World)(tb:Nat)(x:Bx)(fr en:ByteArray)(lim lo:Nat){h:Nat}(t:Nd (h+1))(w:World)(v:Value)(acc:List Pr)(M:List Nat)(b:Nat)(n:SN)(pv lv cv:Value)(k:Nat)(wr:World)(vk:Value)(ak:List Pr)(Mk:List Nat):Prop where
 gs:Gs base A db F d w0 tb x fr en lim lo wr vk ak Mk
 Zw:wq db x.p x.mb w v wr vk
 br:Br wr b n pv lv cv
 room:ak.length+((t.2.2.drop k).flatMap (flat h)).length≤acc.length+(flat (h+1) t).length
 mem:∀ i ∈ Mk,i ∈ M∨i ∈ cJ t.1++(t.2.2.take k).flatMap (cD h)
 len:Mk.length≤M.length+(cJ t.1++(t.2.2.take k).flatMap (cD h)).length
variable {h:Nat} {t:Nd (h+1)} {w:World} {v:Value} {acc:List Pr} {M:List Nat} {b:Nat} {n:SN} {pv lv cv:Value} {k:Nat} {wr:World} {vk:Value} {ak:List Pr} {Mk:List Nat}
theorem rF(k:Nat):(cJ t.1++(t.2.2.take k).flatMap (cD h)).Sublist (cD (h+1) t):=List.Sublist.append_left (IM k) _
theorem Ii.below{W:World}(hl:Ii base A db F d w0 tb x fr en lim lo t w v acc M b n pv lv cv k wr vk ak Mk)(hb:Below wr.heap.size wr W):Ii base A db F d w0 tb x fr en lim lo t w v acc M b n pv lv cv k W vk ak Mk :=
 ⟨hl.gs.below hb,hl.Zw.trans (wq.below vk hb),⟨hl.br.row.below hb,hl.br.bg.below hb,hl.br.kids.below hb⟩,hl.room,hl.mem,hl.len⟩
theorem Ii.out{e:Bool}(hl:Ii base A db F d w0 tb x fr en lim lo t w v acc M b n pv lv cv k wr vk ak Mk)(hr:ft fr en lim (h+1) t acc=(ak,e)):Fo base A db F d w0 tb x fr en lim lo w v M (cD (h+1) t) (ft fr en lim (h+1) t acc) (.returned (.bool e)) wr:=by
 refine ⟨vk,Mk,by rw [hr],by rw [hr];exact hl.gs,hl.Zw,fun i hi=>(hl.mem i hi).imp id fun h=>(rF k).subset h,?_⟩
 have:=(rF (t:=t) k).length_le;have:=hl.len;omega
theorem drop_cons{α:Type}{l:List α}{i:Nat}{c:α}(h:l[i]?=some c):l.drop i=c::l.drop (i+1):=by
 obtain ⟨hi,hv⟩:=List.getElem?_eq_some_iff.1 h;rw [bf hi,hv]
theorem PH{c:Nd h}{ak:List Pr}(hg:jt ⟨h,c⟩)(hl:ak.length≤lim):(ft fr en lim h c ak).1.length≤ak.length+(flat h c).length:=by
 have ho:∃ lo hi,Ok h c lo hi:=by
  cases h with
  | zero=>exact hg.1
  | succ h=>exact hg.1
 obtain ⟨lo,hi,ho⟩:=ho;have:=(BY (fr:=fr) (en:=en) h ho hl).1;rw [this,ae,ag];have:=List.length_filter_le (nE fr en) (flat h c);omega
theorem Ii.rh{c:Nd h}{p:C.Ch}{dp:Nat}(IH:JI base A db F d w0 tb x fr en lim lo h)(nQ:jt ⟨h+1,t⟩)(hl:Ii base A db F d w0 tb x fr en lim lo t w v acc M b n pv lv cv k wr vk ak Mk)(hc:t.2.2[k]?=some c)(hk:eo (cU d) w0 h p c)(Pl:dp+(h+1)≤64)(dV:(acc.length+(flat (h+1) t).length)*32≤140737488355328)(ji:(cD (h+1) t).Nodup)(lx:∀ i ∈ cD (h+1) t,i ∉ M)(mS:M.length+(cD (h+1) t).length<1099511627776):Calls prog 90 #[p.val,.int .i64 ((dp:Int)+1),.pointer (some ⟨x.m,0,none⟩),.pointer (some ⟨x.f,0,none⟩),.pointer (some ⟨x.t,0,none⟩),.pointer (some ⟨x.fr,0,none⟩),.pointer (some ⟨x.en,0,none⟩),.pointer (some ⟨x.p,0,none⟩),.pointer (some ⟨x.l,0,none⟩),.pointer (some ⟨x.g,0,none⟩)] wr fun e w'=>∃ v' M',e = .returned (.bool (ft fr en lim h c ak).2)∧Ii base A db F d w0 tb x fr en lim lo t w v acc M b n pv lv cv (k+1) w' v' (ft fr en lim h c ak).1 M':=by
 have YV:jt ⟨h,c⟩:=lZ nQ hc;have hdc:=drop_cons hc;have hrm:=hl.room;rw [hdc,List.flatMap_cons,ae] at hrm;obtain ⟨AK,O4⟩:=IN hc ji;have Fz:=xg hc;have mR:=(rF (t:=t) (k+1)).length_le;rw [Fz] at mR;simp only [ae] at mR;have hlen:=hl.len;rw [ae] at hlen;refine (IH p c (dp+1) wr vk ak Mk hk YV hl.gs (by omega) (by omega) AK (fun i hi hm=>?_) (by omega)).mono ?_
 ·rcases hl.mem i hm with h1 | h1
  ·exact lx i ((rF (k+1)).subset (by rw [Fz];simp [hi])) h1
  ·rcases List.mem_append.1 h1 with h2 | h2
   ·exact (O4 i hi).1 h2
   ·exact (O4 i hi).2 h2
 ·rintro e w' ⟨v',M',rfl,h1,h2,h3,h4⟩;refine ⟨v',M',rfl,h1,hl.Zw.trans h2,hl.br.Zw h2 hl.gs.dv hl.gs.row (by decide) hl.gs.ps hl.gs.met,?_,fun i hi=>?_,?_⟩
  ·have:=PH (fr:=fr) (en:=en) YV hl.gs.len;omega
  ·rw [Fz];rcases h3 i hi with h | h
   ·rcases hl.mem i h with h | h
    ·exact .inl h
    ·exact .inr (by
      rcases List.mem_append.1 h with h | h
      ·exact dQ _ h
      ·exact ch _ (dQ _ h))
   ·exact .inr (ch _ (ch _ h))
  ·rw [Fz];simp only [ae];omega
end
end T
end Go.Proofs.YtihmgigfkmofnaaGreatDoor
