import Derived.Test.YtihmgigfkmofnaaGreatDoorG29
import Derived.BigRegion
set_option maxHeartbeats 4000000
set_option maxRecDepth 100000
open Go.Proofs.Tryz
namespace Go.Proofs.YtihmgigfkmofnaaGreatDoor
namespace T
open Go.RowKit
structure Bv where
 m:Nat
 mb:Nat
 f:Nat
 e:Nat
 t:Nat
 v:Nat
 p:Nat
structure Vs(base:Nat)(A:Nat→Addr)(db:Nat)(F:Nat→Prop)(d:S.V.bE)(w0:World)(tb:Nat)(x:Bv)(lo:Nat)(w:World)(v:Value)(acc M:List Nat):Prop where
 dv:Dv base A db F d w
 mv:Mv db F w0 w
 cm:w.cell? ⟨x.m,0,none⟩=some (.map (some x.mb))
 ce:w.cell? ⟨x.e,0,none⟩=some (.func (.func 66) #[] #[.pointer (some ⟨x.p,0,none⟩)])
 ct:w.cell? ⟨x.t,0,none⟩=some (.pointer (some ⟨tb,0,none⟩))
 cv:w.cell? ⟨x.v,0,none⟩=some (.func (.func 103) #[] #[.pointer (some ⟨x.m,0,none⟩),.pointer (some ⟨x.f,0,none⟩),.pointer (some ⟨x.e,0,none⟩),.pointer (some ⟨x.t,0,none⟩),.pointer (some ⟨x.v,0,none⟩)])
 cf:B.au w x.f #[.nilIface] 32
 row:B.au w x.p #[v] 69
 ps:vJ w lo v acc
 met:Met w x.mb M
 Ef:M.length<1099511627776
 ord:∀ b ∈ [x.m,x.f,x.e,x.t,x.v,x.p,x.mb],w0.heap.size≤b∧b<lo
 no:∀ b ∈ [x.m,x.e,x.t,x.v],b≠x.f∧b≠x.p
 fp:x.f≠x.p
 UO:db<w0.heap.size
 lo:lo≤w.heap.size
section
variable {base:Nat} {A:Nat→Addr} {db:Nat} {F:Nat→Prop} {d:S.V.bE} {w0:World} {tb:Nat} {x:Bv} {lo:Nat} {w w':World} {v v':Value} {acc Nq M M':List Nat}
theorem Vs.keep(h:Vs base A db F d w0 tb x lo w v acc M)(hv:Dv base A db F d w')(hm:Mv db F w0 w')(hs:w.heap.size≤w'.heap.size)(hb:∀ k,k<lo→k≠db→k≠x.mb→k≠x.f→k≠x.p→w'.heap[k]?=w.heap[k]?)(hf:B.au w' x.f #[.nilIface] 32)(hr:B.au w' x.p #[v'] 69)(hp:vJ w' lo v' Nq)(hmt:Met w' x.mb M')(nk:M'.length<1099511627776):Vs base A db F d w0 tb x lo w' v' Nq M':=by
 have hc:∀ b ∈ [x.m,x.e,x.t,x.v],∀ u,w.cell? ⟨b,0,none⟩=some u→w'.cell? ⟨b,0,none⟩=some u:=fun b NY u hc=>by
  have ho:=h.ord b (by simp only [dO,dB,or_false] at NY ⊢;rcases NY with rfl | rfl | rfl | rfl <;> simp)
  have hn:=h.no b NY;have:=h.UO;exact bP (hb b ho.2 (by omega) (h.met.ne hc) hn.1 hn.2) hc
 exact ⟨hv,hm,hc _ (by simp) _ h.cm,hc _ (by simp) _ h.ce,hc _ (by simp) _ h.ct,hc _ (by simp) _ h.cv,hf,hr,hp,hmt,nk,h.ord,h.no,h.fp,h.UO,ar h.lo hs⟩
theorem Vs.cN(h:Vs base A db F d w0 tb x lo w v acc M)(hs:w.heap.size≤w'.heap.size)(hb:∀ k,k<w.heap.size→k≠db→k≠x.mb→k≠x.f→k≠x.p→v.ownBlock≠some k→w'.heap[k]?=w.heap[k]?):df w w':=⟨hs,fun k hk=>by
 by_cases h1:k=db
 ·subst h1;obtain ⟨d',_,hd⟩:=h.dv.dev;refine .inr ⟨fun j u hc=>kX hd hc,?_,?_⟩
  ·intro cs fr h1;obtain ⟨mb,nb,Li,av,Dn,hb⟩:=hd;rw [hb.dx] at h1;simp at h1
  ·intro cs fr h1;obtain ⟨mb,nb,Li,av,Dn,hb⟩:=hd;rw [hb.dx] at h1;simp at h1
 ·by_cases h2:k=x.mb
  ·subst h2;obtain ⟨es,clock,h2,_⟩:=h.met.map;refine .inr ⟨fun j u hc=>absurd rfl (h.met.ne hc),?_,?_⟩
   ·intro cs fr e;rw [h2] at e;cases e
   ·intro cs fr e;rw [h2] at e;cases e
  ·by_cases h3:k=x.f
   ·subst h3;have hf:=h.cf;unfold B.au at hf;refine .inr ⟨fun j u hc=>?_,?_,?_⟩
    ·rw [cell_of_row w _ j _ _ _ hf] at hc;obtain ⟨h5,h6⟩:=Array.getElem?_eq_some_iff.1 hc;have:j=0:=by simp at h5;omega
     subst this;have h6:Value.nilIface=u:=h6;subst h6;exact ⟨(fun s e=>by cases e),(fun t x e=>by cases e)⟩
    ·intro cs fr e;rw [hf] at e;simp at e
    ·intro cs fr e;rw [hf] at e;simp at e
   ·by_cases h4:k=x.p
    ·subst h4;have hf:=h.row;unfold B.au at hf;obtain ⟨a,c,lM⟩:=h.ps.form;refine .inr ⟨fun j u hc=>?_,?_,?_⟩
     ·rw [cell_of_row w _ j _ _ _ hf] at hc;obtain ⟨h5,h6⟩:=Array.getElem?_eq_some_iff.1 hc;have:j=0:=by simp at h5;omega
      subst this;have h6:v=u:=h6;subst h6;rw [lM];exact ⟨(fun s e=>by cases e),(fun t x e=>by cases e)⟩
     ·intro cs fr e;rw [hf] at e;simp at e
     ·intro cs fr e;rw [hf] at e;simp at e
    ·by_cases h5:v.ownBlock=some k
     ·exact .inr (h.ps.odd h5)
     ·exact .inl (hb k hk h1 h2 h3 h4 h5)⟩
theorem Vs.go(h:Vs base A db F d w0 tb x lo w v acc M)(hm:Mv db F w w')(hv:Dv base A db F d w'):Vs base A db F d w0 tb x lo w' v acc M:=by
 have ho:=h.ord;have hd:=h.UO;have cY:∀ b ∈ [x.m,x.f,x.e,x.t,x.v,x.p,x.mb],b≠db:=fun b hb=>by have:=ho b hb;omega
 exact h.keep hv (h.mv.trans hm) hm.size (fun k hk h1 _ _ _=>hm.one.block k (aq hk h.lo) h1) ((hm.one.block x.f h.cf.lt (cY _ (by simp))).trans h.cf) ((hm.one.block x.p h.row.lt (cY _ (by simp))).trans h.row) (h.ps.same fun g hg=>by
  have:=h.ps.dx hg;have:=ho x.p (by simp)
  exact hm.one.block g (by omega) (by omega)) (h.met.same (hm.one.block x.mb h.met.lt (cY _ (by simp)))) h.Ef
theorem Vs.below(h:Vs base A db F d w0 tb x lo w v acc M)(hb:Below w.heap.size w w'):Vs base A db F d w0 tb x lo w' v acc M:=h.go (Mv.of hb) (h.dv.below hb)
theorem Vs.meet(h:Vs base A db F d w0 tb x lo w v acc M)(iK:Dv base A db F d w0)(hm:Met w' x.mb M')(nk:M'.length<1099511627776)(hg:w.grownBy w' (some x.mb)):Vs base A db F d w0 tb x lo w' v acc M'∧df w w':=by
 have ho:=h.ord;have n7:=h.lo;have pX:w.heap.size≤w'.heap.size:=hg.size;have cY:∀ k,k≠x.mb→some k≠some x.mb:=fun k hk e=>hk (Option.some.inj e)
 have hom:=ho x.mb (by simp)
 have n9:Below w0.heap.size w w':=⟨hg.os,hg.tape,hg.output,pX,fun k hk=>hg.block k (by omega) (cY k (by omega))⟩
 obtain ⟨Im,Ma⟩:=h.dv.grown n9 h.mv iK;refine ⟨h.keep Im Ma pX (fun k hk _ h2 _ _=>hg.block k (by omega) (cY k h2)) ((hg.block x.f h.cf.lt (cY _ (h.met.ne (h.cf.cell 0 (by simp))))).trans h.cf) ((hg.block x.p h.row.lt (cY _ (h.met.ne (h.row.cell 0 (by simp))))).trans h.row) (h.ps.same fun g Ii=>?_) hm nk,h.cN pX fun k hk _ h2 _ _ _=>hg.block k hk (cY k h2)⟩
 have:=h.ps.dx Ii;exact hg.block g this.2 (cY _ (by omega))
theorem Vs.nil(h:Vs base A db F d w0 tb x lo w v acc M)(iK:Dv base A db F d w0):Vs base A db F d w0 tb x lo (w.setCell ⟨x.f,0,none⟩ .nilIface) v acc M∧df w (w.setCell ⟨x.f,0,none⟩ .nilIface):=by
 have ho:=h.ord;have n7:=h.lo;have dG:=bG.set x.f 0 w .nilIface;have NP:=ho x.f (by simp)
 have n9:Below w0.heap.size w (w.setCell ⟨x.f,0,none⟩ .nilIface):=⟨dG.os,dG.tape,dG.output,dG.size,fun k hk=>dG.block k (by omega) (by omega)⟩
 obtain ⟨Im,Ma⟩:=h.dv.grown n9 h.mv iK;refine ⟨h.keep Im Ma dG.size (fun k hk _ _ h3 _=>dG.block k (by omega) h3) (rL h.cf _) ((dG.block x.p h.row.lt h.fp.symm).trans h.row) (h.ps.same fun g Ii=>?_) (h.met.same (dG.block x.mb h.met.lt (fun e=>h.met.ne (h.cf.cell 0 (by simp)) e.symm))) h.Ef,h.cN dG.size fun k hk _ _ h3 _ _=>dG.block k hk h3⟩
 have:=h.ps.dx Ii;exact dG.block g this.2 (by omega)
theorem Vs.push(h:Vs base A db F d w0 tb x lo w v acc M)(iK:Dv base A db F d w0)(p:Nat)(hn:acc.length≤1099511627776):∃ a' c' w',(Builtin.append_ #[69,69] 69 #[v,.slice (some ⟨w.heap.size,0,none⟩) 1 1]).run prog (w.alloc (.cells #[.int .i64 (p:Int)] 3)) = .ok (.slice a' (acc.length+1) c') w'∧w'.frozen? ⟨x.p,0,none⟩=false∧w'.cell? ⟨x.p,0,none⟩=some v∧Vs base A db F d w0 tb x lo (w'.setCell ⟨x.p,0,none⟩ (.slice a' (acc.length+1) c')) (.slice a' (acc.length+1) c') (acc++[p]) M∧df w (w'.setCell ⟨x.p,0,none⟩ (.slice a' (acc.length+1) c')):=by
 have ho:=h.ord;have n7:=h.lo;obtain ⟨a',c',w',hr,kt,hg⟩:=vJ.push lo v acc p w h.ps hn n7;have aO:=ai w (.cells #[.int .i64 (p:Int)] 3);have b8:(w.alloc (.cells #[.int .i64 (p:Int)] 3)).heap.size=w.heap.size+1:=by simp
 have pX:=hg.size;have Qt:=ho x.p (by simp)
 have fl:∀ b,b<lo→some b≠v.ownBlock:=fun b hb e=>by
  have:=(h.ps.dx e.symm).1;omega
 have QT:∀ k,k<w.heap.size→some k≠v.ownBlock→w'.heap[k]?=w.heap[k]?:=fun k hk h1=>(hg.block k (by omega) h1).trans (aO.block k hk)
 have bH:B.au w' x.p #[v] 69:=(QT x.p h.row.lt (fl _ Qt.2)).trans h.row;have dG:=bG.set x.p 0 w' (.slice a' (acc.length+1) c');have iL:=dG.size;have yr:w.heap.size≤(w'.setCell ⟨x.p,0,none⟩ (.slice a' (acc.length+1) c')).heap.size:=by omega
 have dn:∀ k,k<w.heap.size→k≠x.p→some k≠v.ownBlock→(w'.setCell ⟨x.p,0,none⟩ (.slice a' (acc.length+1) c')).heap[k]?=w.heap[k]?:=fun k hk h1 h2=>(dG.block k (by omega) h1).trans (QT k hk h2)
 have n9:Below w0.heap.size w (w'.setCell ⟨x.p,0,none⟩ (.slice a' (acc.length+1) c')):=⟨dG.os.trans (hg.os.trans aO.os),dG.tape.trans (hg.tape.trans aO.tape),dG.output.trans (hg.output.trans aO.output),yr,fun k hk=>dn k (by omega) (by omega) (fl k (by omega))⟩
 obtain ⟨Im,Ma⟩:=h.dv.grown n9 h.mv iK;have NP:=ho x.f (by simp)
 have hom:=ho x.mb (by simp)
 refine ⟨a',c',w',hr,by unfold B.au at bH;simp [World.frozen?,bH],bH.cell 0 (by simp),h.keep Im Ma yr (fun k hk _ _ _ h4=>dn k (by omega) h4 (fl k hk)) ((dn x.f h.cf.lt h.fp (fl _ NP.2)).trans h.cf) (rL bH _) (kt.same fun g Ii=>?_) (h.met.same (dn x.mb h.met.lt (fun e=>h.met.ne (h.row.cell 0 (by simp)) e.symm) (fl _ hom.2))) h.Ef,h.cN yr fun k hk _ _ _ h4 h5=>dn k hk h4 (fun e=>h5 e.symm)⟩
 have:=kt.dx Ii;exact dG.block g this.2 (by omega)
theorem Vs.again{h:Nat}{p:C.Ch}{t:Nd h}(hg:Vs base A db F d w0 tb x lo w v acc M)(iK:Dv base A db F d w0)(hk:eu (cF d) w0 h p t)(lW:∀ i ∈ cD h t,i ∉ M)(nk:M.length+(cD h t).length<1099511627776):Calls prog 91 #[.map (some x.mb),p.val] w fun e w'=>e = .returned (.bool false)∧Vs base A db F d w0 tb x lo w' v acc (M++cU (fh h t))∧df w w':=by
 obtain ⟨h1,h2⟩:=yl hk;have fl:decide (fh h t ∈ M)=false:=by
  rw [decide_eq_false_iff_not];intro hm;have h3:=hg.met.ok _ hm;refine lW _ (G5 _ ?_) hm;unfold cU;rw [if_neg (by omega)]
  simp
 refine (r9 p (fh h t) h1 h2 x.mb M w hg.met hg.Ef).mono ?_
 rintro e w' ⟨rfl,hm,Bd⟩;rw [JP] at hm;have hl:=JG (t:=t);obtain ⟨g1,g2⟩:=hg.meet iK hm (by rw [ae];omega) Bd
 exact ⟨by rw [fl],g1,g2⟩
end
attribute [local go_sem ↓] Go.wp_at_zero Go.wp_at_succ
theorem tm{ops:Array Oper}{rest:List Oper}{o:Oper}{a:Act}{Q:Exit→Act→World→Prop}(w:World)(hg:o.guard=none)(t:TypeId)(x y:Operand)(ho:o.op = .call { callee:=.builtin .append,args:=#[x,y],argTypes:=#[t,t] })(zR:o.type=t)(vx vy:Value)(hx:a.eval x=vx)(hy:a.eval y=vy)(v:Value)(w':World)
  (bw:(Builtin.append_ #[t,t] t #[vx,vy]).run prog w = .ok v w') (hK:wpList prog ops Q rest (a.put o.dst v) w'):wpList prog ops Q (o::rest) a w:=by
 refine wpList_plain hg fun K' hK'=>?_
 unfold Oper.wp;simp [execOp,ho,resolve,invoke,builtin,hx,hy,zR,bw,Result.andThen]
 exact hK' _ _ hK
section
variable {base:Nat} {A:Nat→Addr} {db:Nat} {F:Nat→Prop} {d:S.V.bE} {w0:World} {tb:Nat} {x:Bv} {lo:Nat} {w:World} {v:Value} {acc M:List Nat}
theorem Di(p:C.Ch)(i:Nat)(hi:TZ p=(i:Int))(s:ByteArray)(lv:Int)(h:Vs base A db F d w0 tb x lo w v acc M)(iK:Dv base A db F d w0)(hn:acc.length≤1099511627776):Calls prog 66 #[p.val,.string s,.int .i64 lv,.pointer (some ⟨x.p,0,none⟩)] w fun e w'=>e = .returned (.tuple #[])∧(∃ v',Vs base A db F d w0 tb x lo w' v' (acc++cU i) M)∧df w w':=by
 have HP:=ab (xP p w);rw [hi] at HP;obtain ⟨pt,px,ir⟩:=bU p;rw [ir] at HP ⊢;have HS:=ab h;have hpu:=h.push iK i hn;have kp:w.cell? ⟨x.p,0,none⟩=some v:=h.row.cell 0 (by simp)
 obtain ⟨va,vc,lM⟩:=h.ps.form;obtain ⟨a',c',w',bw,kfz,kp',hvs,haw⟩:=hpu;have sN:=ab bw;have nV:Hid ((∃ v',Vs base A db F d w0 tb x lo (w'.setCell ⟨x.p,0,none⟩ (.slice a' (acc.length+1) c')) v' (acc++[i]) M)∧df w (w'.setCell ⟨x.p,0,none⟩ (.slice a' (acc.length+1) c'))):=⟨⟨_,hvs⟩,haw⟩;clear h ir hi iK hn hvs haw bw;by_cases h0:i=0
 ·subst h0;clear nV sN kfz kp';go_enter func66,ntmps66;go_wp2_with fail;refine HP.out.mono ?_
  rintro e w1 ⟨rfl,rfl⟩;go_wp2;go_end0
  exact ⟨rfl,⟨v,by rw [show cU 0=[] from rfl,List.append_nil];exact HS.out⟩,df.refl _⟩
 ·have h1:((i:Int) != 0)=true:=by simp;omega
  have HO:Hid (cU i=[i]):=by show cU i=[i];unfold cU;rw [if_neg h0]
  subst lM;clear h0;go_enter func66,ntmps66;go_wp2_with fail;refine HP.out.mono ?_
  rintro e w1 ⟨rfl,rfl⟩;go_wp2_with (first | (at_builtin;refine tm _ rfl 69 _ _ rfl rfl _ _ rfl rfl _ _ sN.out ?_))
  go_end0
  exact ⟨rfl,by rw [HO.out];exact nV.out.1,nV.out.2⟩
end
attribute [local go_sem ↓] Go.wp_at_zero Go.wp_at_succ
section
variable {w0:World} {lo pb:Nat} {pv:Value} {P:List Nat} {tx:Nat} {w:World} {sv:Value} {Z Z1:List S.Sh}
theorem u9(b:Nat)(kd cn:Int)(body:ByteArray)(hP:p7 w0 lo pb pv P tx w sv Z)(CP:Calls prog 149 #[.pointer (some ⟨pb,0,none⟩),.pointer (some ⟨b,0,none⟩)] w fun e w'=>∃ YT,e = .returned (.agg #[.int .i64 kd,.int .i64 0,.int .u64 0,.int .i64 cn,.string body])∧p7 w0 lo pb pv P tx w' YT Z1∧mI pb w sv w' YT)(id:Nat)(hid:P[Z1.length]?=some id):Calls prog 112 #[.pointer (some ⟨pb,0,none⟩),.pointer (some ⟨b,0,none⟩)] w fun e w'=>∃ ou,e = .returned (.int .i64 (id:Int))∧p7 w0 lo pb pv P tx w' ou (Z1++[⟨kd,id,tx,cn,body⟩])∧mI pb w sv w' ou:=by
 have FX:=ab CP;have HID:=ab hid;have vM:Hid (P.length≤1000000∧Z1.length<P.length):=⟨hP.pl,(List.getElem?_eq_some_iff.1 hid).1⟩;clear CP hP hid;go_enter func112,ntmps112;go_wp2_with fail;refine FX.out.mono ?_
 rintro e w1 ⟨YT,rfl,h1,EH⟩;obtain ⟨pa,pn,ir,aaT,aaS,Sz⟩:=h1.pg;have Gc:(Q.gZ P).length=P.length:=by unfold Q.gZ;rw [az]
 obtain ⟨pg,po,Qr,Ci⟩:=Sz Z1.length (.int .i64 (id:Int)) (by unfold Q.gZ;rw [aG,HID.out];rfl)
 subst Qr;rw [Gc] at ir aaT;subst ir;obtain ⟨sa,sc,hsv⟩:=h1.sh.form;subst hsv;obtain ⟨K,hK⟩ : ∃ K,w1.heap.size=K:=⟨_,rfl⟩;obtain ⟨W1,ig⟩ : ∃ W1,w1.alloc (.cells #[.int .i64 kd,.int .i64 0,.int .u64 0,.int .i64 cn,.string body] 87)=W1:=⟨_,rfl⟩;have aO:Below w1.heap.size w1 W1:=ig▸ai w1 _;have rK:B.au W1 K #[.int .i64 kd,.int .i64 0,.int .u64 0,.int .i64 cn,.string body] 87:=by rw [← hK];exact ig▸B.au.new w1 _ _
 have h2:=h1.below aO;have n0:=h2.row.cell 0 (by simp)
 have n1:=h2.row.cell 1 (by simp)
 have n2:=h2.row.cell 2 (by simp)
 have zW:pb≠K:=by have:=h1.row.lt;omega
 have hgk:pg≠K:=by
  have:=World.block_lt_of_cell? w0 _ Ci;have:=h1.eT.size;have:pg<w0.heap.size:=by assumption
  omega
 have q0:W1.cell? ⟨pb,0,none⟩=some (.slice (some ⟨pg,po,none⟩) P.length pn):=n0;have q1:W1.cell? ⟨pb,1,none⟩=some (.int .u64 (tx:Int)):=n1;have q2:W1.cell? ⟨pb,2,none⟩=some (.slice sa Z1.length sc):=n2;have q3:W1.cell? ⟨pg,po+Z1.length,none⟩=some (.int .i64 (id:Int)):=(h2.eT.cell (p:=⟨pg,po+Z1.length,none⟩) (World.block_lt_of_cell? w0 _ Ci)).trans Ci;have c0:W1.cell? ⟨K,0,none⟩=some (.int .i64 kd):=rK.cell 0 (by simp)
 have c1:W1.cell? ⟨K,1,none⟩=some (.int .i64 0):=rK.cell 1 (by simp)
 have c2:W1.cell? ⟨K,2,none⟩=some (.int .u64 0):=rK.cell 2 (by simp)
 have c3:W1.cell? ⟨K,3,none⟩=some (.int .i64 cn):=rK.cell 3 (by simp)
 have c4:W1.cell? ⟨K,4,none⟩=some (.string body):=rK.cell 4 (by simp)
 have f1:=rK.free 1;have f2:=rK.free 2;have nY:(0:Int)≤(Z1.length:Int):=by omega
 have mR:(Z1.length:Int)<(P.length:Int):=by have:=vM.out.2;omega
 have HKW:Hid (w0.heap.size≤K):=by have:=h1.eT.size;show _≤_;omega
 have Vl:Hid (w.heap.size≤K):=by have:=EH.size;show _≤_;omega
 have SY:Hid (pb<K∧lo≤K):=⟨by have:=h1.row.lt;omega,by have:=h1.lo;omega⟩
 have HKO:Hid (∀ g,(Value.slice sa Z1.length sc).ownBlock=some g→g<K):=fun g hg=>by have:=(h1.sh.dx hg).2;omega
 have H2:=ab h2;have HRK:=ab rK;have IU:=ab (EH.trans (mI.below _ aO));clear h1 EH Sz aaS Gc n0 n1 n2 h2 rK aO FX Ci aaT;go_wp2_with fail;go_region
 obtain ⟨W2,Ip⟩ : ∃ W2,(W1.setCell ⟨K,1,none⟩ (.int .i64 (id:Int))).setCell ⟨K,2,none⟩ (.int .u64 (tx:Int))=W2:=⟨_,rfl⟩;have vg:bG K W1 W2:=Ip▸(bG.set K 1 W1 _).trans (bG.set K 2 _ _);have WX:B.au W2 K #[.int .i64 kd,.int .i64 (id:Int),.int .u64 (tx:Int),.int .i64 cn,.string body] 87:=by
  have h9:=HRK.out;unfold B.au at h9 ⊢;rw [← Ip,setCell_eq_setRow W1 K 1 _ _ (0,0) _ h9];have h8:=setRow_heap W1 K _ ((#[.int .i64 kd,.int .i64 0,.int .u64 0,.int .i64 cn,.string body] : Array Value).setIfInBounds 1 (.int .i64 (id:Int))) _ (0,0) h9;rw [setCell_eq_setRow _ K 2 _ _ (0,0) _ h8];exact setRow_heap _ K _ _ _ (0,0) h8
 have h3:=H2.out;have aey:K<W1.heap.size:=HRK.out.lt;have cY:∀ k,k<K→W2.heap[k]?=W1.heap[k]?:=fun k hk=>vg.block k (by omega) (by omega)
 have hK1:=Vl.out;have aeH:pb<K:=SY.out.1;have hth:mI pb w sv W2 (.slice sa Z1.length sc):=by
  have h9:=IU.out;exact ⟨ar h9.size vg.size,fun k hk h1 h2=>(cY k (by omega)).trans (h9.block k hk h1 h2),h9.own⟩
 have hP3:p7 w0 lo pb (.slice (some ⟨pg,po,none⟩) P.length pn) P tx W2 (.slice sa Z1.length sc) Z1:=by
  have n7:=SY.out.2;refine ⟨⟨vg.os.trans h3.eT.os,vg.tape.trans h3.eT.tape,vg.output.trans h3.eT.output,ar h3.eT.size vg.size,fun k hk=>(cY k (by have:=HKW.out;omega)).trans (h3.eT.block k hk)⟩,(cY pb aeH).trans h3.row,h3.sh.same fun g hg=>cY g (HKO.out g hg),h3.ord,ar h3.lo vg.size,h3.pg,h3.pl⟩
 have QK:Below W2.heap.size W2 W2.drew.drew:=B.aP (B.aP (Below.refl _ _));obtain ⟨a',c',w',bw,kfz,kp,hPn,abZ⟩:=(hP3.below QK).push ⟨kd,id,tx,cn,body⟩ (by have:=vM.out;omega)
 have VM:(Builtin.append_ #[83,83] 83 #[.slice sa Z1.length sc,.slice (some ⟨W2.heap.size,0,none⟩) 1 1]).run prog (W2.alloc (.cells #[.int .i64 kd,.int .i64 (id:Int),.int .u64 (tx:Int),.int .i64 cn,.string body] 87)).drew.drew = .ok (.slice a' (Z1.length+1) c') w':=bw;have hPt:=(mI.below (.slice sa Z1.length sc) QK).trans abZ;have sN:=ab VM;have nV:Hid (p7 w0 lo pb (.slice (some ⟨pg,po,none⟩) P.length pn) P tx (w'.setCell ⟨pb,2,none⟩ (.slice a' (Z1.length+1) c')) (.slice a' (Z1.length+1) c') (Z1++[⟨kd,id,tx,cn,body⟩])∧mI pb w sv (w'.setCell ⟨pb,2,none⟩ (.slice a' (Z1.length+1) c')) (.slice a' (Z1.length+1) c')):=⟨hPn,hth.trans hPt⟩;have d0:W2.cell? ⟨K,0,none⟩=some (.int .i64 kd):=WX.cell 0 (by simp)
 have d1:W2.cell? ⟨K,1,none⟩=some (.int .i64 (id:Int)):=WX.cell 1 (by simp)
 have d2:W2.cell? ⟨K,2,none⟩=some (.int .u64 (tx:Int)):=WX.cell 2 (by simp)
 have d3:W2.cell? ⟨K,3,none⟩=some (.int .i64 cn):=WX.cell 3 (by simp)
 have d4:W2.cell? ⟨K,4,none⟩=some (.string body):=WX.cell 4 (by simp)
 have e2:W2.cell? ⟨pb,2,none⟩=some (.slice sa Z1.length sc):=hP3.row.cell 2 (by simp)
 have e3:(W2.alloc (.cells #[.int .i64 kd,.int .i64 (id:Int),.int .u64 (tx:Int),.int .i64 cn,.string body] 87)).cell? ⟨pb,2,none⟩=some (.slice sa Z1.length sc):=((ai W2 _).cell (p:=⟨pb,2,none⟩) (World.block_lt_of_cell? W2 _ e2)).trans e2;have qi:(w'.setCell ⟨pb,2,none⟩ (.slice a' (Z1.length+1) c')).cell? ⟨K,1,none⟩=some (.int .i64 (id:Int)):=bP (hPt.block K WX.lt (by omega) (fun e=>by have:=HKO.out K e;omega)) d1
 clear vg WX h3 aey cY hK1 hth hP3 bw VM hPn hPt abZ QK q0 q1 q2 q3 c0 c1 c2 c3 c4 f1 f2 ig IU H2 HRK nY mR;go_wp2_with fail;go_region_law (first | (refine kE 83 rfl (.tmp 30) (.tmp 32) rfl rfl _ _ rfl rfl _ _ sN.out ?_))
 all_goals
  go_wp2;go_ret;exact ⟨_,rfl,nV.out.1,nV.out.2⟩
end
variable {γ α β:Type} {h:Nat} {cs:List (Nd h)} {i:Nat} {b l:List B.Lk} {w:World} {base:Nat}
theorem tP{α β γ:Type}(g:α→Nat→β × List γ):∀ (cs:List α) (c:α) (k:Nat),cd g (cs++[c]) k=((cd g cs k).1++[(g c (k+(cd g cs k).2.length)).1],(cd g cs k).2++(g c (k+(cd g cs k).2.length)).2)
 | [],c,k=>by simp [cd]
 | d::cs,c,k=>by
  have:=tP g cs c (k+(g d k).2.length);simp only [List.cons_append,cd,this,ae,ay,dN]
theorem Ez{α β γ:Type}(g:α→Nat→β × List γ):∀ (xs bs:List α) (k:Nat),cd g (xs++bs) k=((cd g xs k).1++(cd g bs (k+(cd g xs k).2.length)).1,(cd g xs k).2++(cd g bs (k+(cd g xs k).2.length)).2)
 | [],bs,k=>by simp [cd]
 | d::xs,bs,k=>by
  have:=Ez g xs bs (k+(g d k).2.length);simp only [List.cons_append,cd,this,ae,ay,dN]
theorem LX(g:α→Nat→β × List γ)(cs:List α)(k i:Nat):(cd g (cs.take i) k).1=(cd g cs k).1.take i:=by
 by_cases h:i≤cs.length
 ·conv=>rhs;rw [← aI i cs,Ez]
  exact (List.take_left' (by rw [iw,ag];omega)).symm
 ·have e:cs.take i=cs:=ao (by omega)
  rw [e];exact (ao (by rw [iw];omega)).symm
theorem JW(g:α→Nat→β × List γ)(cs:List α)(k i:Nat)(c:α)(hc:cs[i]?=some c):(cd g cs k).1[i]?=some (g c (k+(cd g (cs.take i) k).2.length)).1∧(cd g (cs.take (i+1)) k).2=(cd g (cs.take i) k).2++(g c (k+(cd g (cs.take i) k).2.length)).2:=by
 have hi:=(List.getElem?_eq_some_iff.1 hc).1;have e:cs.take (i+1)=cs.take i++[c]:=by rw [gw,hc];rfl
 have h1:=LX g cs k (i+1);rw [e,tP] at h1;refine ⟨?_,by rw [e,tP]⟩
 have h2:((cd g cs k).1.take (i+1))[i]?=(cd g cs k).1[i]?:=by rw [List.getElem?_take_of_lt (by omega)]
 rw [← h2,← h1];simp only;rw [aM (by rw [iw,ag];omega),iw,ag,aT (by omega),de]
 rfl
theorem xV{c:Nd h}(hn:(cs.flatMap (cD h)).Nodup)(hc:cs[i]?=some c):(cD h c).Nodup:=by
 obtain ⟨hi,hv⟩:=List.getElem?_eq_some_iff.1 hc;have hm:c ∈ cs:=hv▸aJ hi;obtain ⟨a,b,rfl⟩:=List.append_of_mem hm;rw [aN,List.flatMap_cons] at hn;exact hn.sublist ((List.sublist_append_left _ _).trans (dF _ _))
def qI(a b:List B.Lk)(i:Nat):List B.Lk:=a.take i++b.drop i
theorem PE{a:List B.Lk}{x:B.Lk}(hl:a.length=b.length)(hx:a[i]?=some x):(qI a b i).set i x=qI a b (i+1):=by
 obtain ⟨hi,hv⟩:=List.getElem?_eq_some_iff.1 hx;unfold qI;rw [b6 _ _ (by rw [ag];omega),ag,aT (by omega),de,bg (by omega:i<b.length),List.set_cons_zero,gw,hx]
 simp
theorem PH{a:List B.Lk}(hl:a.length=b.length)(hi:i<b.length):(qI a b i)[i]?=some b[i]:=by
 unfold qI;rw [aM (by rw [ag];omega),ag,aT (by omega),de,bZ,Nat.add_zero,af hi]
theorem PF{a:List B.Lk}(hl:a.length=b.length)(hi:i≤b.length):(qI a b i).length=b.length:=by
 unfold qI;rw [ae,ag,al];omega
theorem PI{a:List B.Lk}(hl:a.length=b.length)(hi:b.length≤i):qI a b i=a:=by
 unfold qI;rw [dC hi,List.append_nil,ao (by omega)]
theorem El(x:Int):∀ (l:List B.Lk) (k:Nat) (q:B.Lk),l[k]?=some q→(B.bn l).set (k*2+1) (.int .i64 x)=B.bn (l.set k (q.1,x))
 | [],k,q,h=>by simp at h
 | p::l,0,q,h=>by
  cases h;rw [List.set_cons_zero,B.eB,B.eB];rfl
 | p::l,k+1,q,h=>by
  rw [List.set_cons_succ,B.eB,B.eB,← El x l k q h,show (k+1)*2+1=k*2+1+1+1 by omega]
  simp only [List.set_cons_succ]
theorem LN{g n cap:Nat}(h:B.b9 w base (.slice (some ⟨g,0,none⟩) n cap) l)(k:Nat)(q:B.Lk)(hq:l[k]?=some q)(x:Int):B.b9 (w.setCell ⟨g,k*2+1,none⟩ (.int .i64 x)) base (.slice (some ⟨g,0,none⟩) n cap) (l.set k (q.1,x)):=by
 obtain rfl:=h.cnt;unfold B.b9 at h;have:=(World.ownsRow.stored h (k*2+1) (.int .i64 x)).1;rw [El x l k q hq] at this;unfold B.b9;rw [bI];exact this
theorem sf{w':World}{v:Value}(h:B.b9 w base v l)(hb:∀ g,v.ownBlock=some g→w'.heap[g]?=w.heap[g]?):B.b9 w' base v l:=by
 refine ⟨h.1,?_⟩;rcases h.2 with h' | ⟨g,cap,cur,h',h1,h2,hr⟩
 ·exact .inl h'
 ·exact .inr ⟨g,cap,cur,h',h1,(hb g (by rw [h'];rfl)).trans h2,hr⟩
theorem TS{ks:List ByteArray}{k:ByteArray}{c:Nd h}(hk:ks[i]?=some k)(hc:cs[i+1]?=some c):(qJ ks cs)[i]?=some (k,(fh h c:Int)):=by
 unfold qJ;rw [List.getElem?_zip_eq_some];refine ⟨hk,?_⟩;rw [aG,List.getElem?_tail,hc];rfl
def fi(P:List Nat)(j:Nat):Nat:=P.getD j 2
def Vc(PG:Int→Option PD)(w0:World)(lo pb:Nat)(pv:Value)(P:List Nat)(tx:Nat)(h:Nat):Prop :=
 ∀ (p:C.Ch) (t:Nd h) (w:World) (sv:Value) (Z:List S.Sh),eu PG w0 h p t→R0 h t→p7 w0 lo pb pv P tx w sv Z→Z.length+jh h t≤P.length→(cD h (aY (fi P) h t Z.length).1).Nodup →
  Calls prog 72 #[.pointer (some ⟨pb,0,none⟩),p.val] w fun e w'=>∃ ou,e = .returned (.int .i64 (fh h (aY (fi P) h t Z.length).1:Int))∧p7 w0 lo pb pv P tx w' ou (Z++(aY (fi P) h t Z.length).2.map (j8 tx))∧mI pb w sv w' ou
structure Am(w0:World)(lo pb:Nat)(pv:Value)(P:List Nat)(tx:Nat){h:Nat}(cs:List (Nd h))(k0:Nat)(a l:List B.Lk)(f:Int)(w:World)(sv:Value)(Z:List S.Sh)(H K ug uc:Nat)(i j:Nat)(wx:World)(sx:Value):Prop where
 zo:p7 w0 lo pb pv P tx wx sx (Z++(cd (aY (fi P) h) (cs.take j) k0).2.map (j8 tx))
 NJ:mI pb w sv wx sx
 row:B.au wx K #[.int .i64 f,.slice (some ⟨ug,0,none⟩) l.length uc] 150
 lk:B.b9 wx w.heap.size (.slice (some ⟨ug,0,none⟩) l.length uc) (qI a l i)
 res:B.au wx H #[.int .i64 0,.slice none 0 0] 150
 ne:K≠ug∧H≠K∧H≠ug
 nb:K≠pb∧H≠pb∧ug≠pb
 no:∀ b ∈ [K,H,ug],sx.ownBlock≠some b
 ge:w.heap.size≤K∧w.heap.size≤H
section
variable {PG:Int→Option PD} {w0:World} {lo pb:Nat} {pv:Value} {P:List Nat} {tx:Nat} {h:Nat} {cs:List (Nd h)} {k0:Nat} {a l:List B.Lk} {f:Int} {w:World} {sv:Value} {Z:List S.Sh} {H K ug uc:Nat} {i j:Nat} {wx:World} {sx:Value}
theorem Am.Ow(hB:Am w0 lo pb pv P tx cs k0 a l f w sv Z H K ug uc i j wx sx):ug<wx.heap.size:=(hB.lk.dx ug rfl).2
theorem Am.move{wy:World}{sy:Value}{j':Nat}(hB:Am w0 lo pb pv P tx cs k0 a l f w sv Z H K ug uc i j wx sx)(ht:mI pb wx sx wy sy)(hp:p7 w0 lo pb pv P tx wy sy (Z++(cd (aY (fi P) h) (cs.take j') k0).2.map (j8 tx))):Am w0 lo pb pv P tx cs k0 a l f w sv Z H K ug uc i j' wy sy:=by
 have hug:=hB.Ow;have hK:=hB.row.lt;have hH:=hB.res.lt;refine ⟨hp,hB.NJ.trans ht,(ht.block K hK hB.nb.1 (hB.no K (by simp))).trans hB.row,sf hB.lk fun g hg=>?_,(ht.block H hH hB.nb.2.1 (hB.no H (by simp))).trans hB.res,hB.ne,hB.nb,fun b hb e=>?_,hB.ge⟩
 ·have e:ug=g:=by simpa [Value.ownBlock] using hg
  subst e;exact ht.block ug hug hB.nb.2.2 (hB.no ug (by simp))
 ·rcases ht.own b e with e' | e'
  ·exact hB.no b hb e'
  ·simp only [dO,dB,or_false] at hb;omega
theorem Am.below{wy:World}(hB:Am w0 lo pb pv P tx cs k0 a l f w sv Z H K ug uc i j wx sx)(hb:Below wx.heap.size wx wy):Am w0 lo pb pv P tx cs k0 a l f w sv Z H K ug uc i j wy sx:=hB.move (mI.below _ hb) (hB.zo.below hb)
theorem Am.call{c:Nd h}{q:C.Ch}(IH:Vc PG w0 lo pb pv P tx h)(Mg:k0=Z.length)(jb:((cd (aY (fi P) h) cs k0).1.flatMap (cD h)).Nodup)(vi:k0+(cs.map (jh h)).sum≤P.length)(hB:Am w0 lo pb pv P tx cs k0 a l f w sv Z H K ug uc i j wx sx)(hc:cs[j]?=some c)(hk:eu PG w0 h q c)(ho:R0 h c):Calls prog 72 #[.pointer (some ⟨pb,0,none⟩),q.val] wx fun e w'=>∃ ou c',(cd (aY (fi P) h) cs k0).1[j]?=some c'∧e = .returned (.int .i64 (fh h c':Int))∧Am w0 lo pb pv P tx cs k0 a l f w sv Z H K ug uc i (j+1) w' ou:=by
 obtain ⟨h1,h2⟩:=JW (aY (fi P) h) cs k0 j c hc;have hlen:(Z++(cd (aY (fi P) h) (cs.take j) k0).2.map (j8 tx)).length=k0+(cd (aY (fi P) h) (cs.take j) k0).2.length:=by rw [ae,az,Mg]
 have L6:(cd (aY (fi P) h) (cs.take j) k0).2.length+jh h c≤(cs.map (jh h)).sum:=by
  rw [sk (pI h),kq];have e1:=xo (l:=cs.map (jh h)) (i:=j) (x:=jh h c) (by rw [aG,hc];rfl)
  have e2:=lH (cs.map (jh h)) (j+1);omega
 refine (IH q c wx sx _ hk ho hB.zo (by rw [hlen];omega) (by rw [hlen];exact xV jb h1)).mono ?_
 rintro e w' ⟨ou,rfl,g1,g2⟩;rw [hlen] at g1 ⊢;refine ⟨ou,_,h1,rfl,hB.move g2 ?_⟩;rw [h2,bz,← ay];exact g1
theorem Am.put{ks:List ByteArray}{c':Nd h}(HW:w0.heap.size≤w.heap.size)(hB:Am w0 lo pb pv P tx cs k0 a l f w sv Z H K ug uc i j wx sx)(jg:l.map (·.1)=ks)(ha:a=qJ ks (cd (aY (fi P) h) cs k0).1)(Gj:a.length=l.length)(hi:i<l.length)(hc:(cd (aY (fi P) h) cs k0).1[i+1]?=some c'):(∃ u,wx.cell? ⟨ug,i*2+1,none⟩=some u)∧wx.frozen? ⟨ug,i*2+1,none⟩=false∧Am w0 lo pb pv P tx cs k0 a l f w sv Z H K ug uc (i+1) j (wx.setCell ⟨ug,i*2+1,none⟩ (.int .i64 (fh h c':Int))) sx:=by
 have Gb:=hB.lk.spot i (by rw [PF Gj (by omega)];exact hi)
 have Zf:=PH (a:=a) Gj hi;have aeX:ks[i]?=some l[i].1:=by rw [← jg,aG,af hi];rfl
 have hag:a[i]?=some (l[i].1,(fh h c':Int)):=by rw [ha];exact TS aeX hc
 have lP:=LN hB.lk i l[i] Zf (fh h c':Int);rw [PE Gj hag] at lP;have dG:=bG.set ug (i*2+1) wx (.int .i64 (fh h c':Int));have hug:=hB.Ow;have ajV:w.heap.size≤ug:=(hB.lk.dx ug rfl).1;have aeG:mI pb w sv (wx.setCell ⟨ug,i*2+1,none⟩ (.int .i64 (fh h c':Int))) sx:=by
  have h9:=hB.NJ;exact ⟨ar h9.size dG.size,fun k hk h1 h2=>(dG.block k (aq hk h9.size) (by omega)).trans (h9.block k hk h1 h2),h9.own⟩
 refine ⟨Gb.2.1,Gb.2.2.2,⟨?_,aeG,(dG.block K hB.row.lt hB.ne.1).trans hB.row,lP,(dG.block H hB.res.lt hB.ne.2.2).trans hB.res,hB.ne,hB.nb,hB.no,hB.ge⟩⟩;have h3:=hB.zo;exact ⟨⟨dG.os.trans h3.eT.os,dG.tape.trans h3.eT.tape,dG.output.trans h3.eT.output,ar h3.eT.size dG.size,fun k hk=>(dG.block k (aq hk h3.eT.size) (by omega)).trans (h3.eT.block k hk)⟩,(dG.block pb h3.row.lt (fun e=>hB.nb.2.2 e.symm)).trans h3.row,h3.sh.same fun g hg=>dG.block g (h3.sh.dx hg).2 (fun e=>hB.no ug (by simp) (e▸hg)),h3.ord,ar h3.lo dG.size,h3.pg,h3.pl⟩
end
structure sY(w0:World)(lo pb:Nat)(pv:Value)(P:List Nat)(tx:Nat)(l:List B.Lk)(w:World)(sv:Value)(H:Nat)(wx:World)(sx:Value)(Zc:List S.Sh)(kk:Option Nat)(uu:Option (Nat × Nat)):Prop where
 zo:p7 w0 lo pb pv P tx wx sx Zc
 NJ:mI pb w sv wx sx
 res:B.au wx H #[.int .i64 0,.slice none 0 0] 150
 zp:w.heap.size≤H∧H≠pb∧sx.ownBlock≠some H
 kr:∀ K,kk=some K→B.au wx K #[.int .i64 0,.slice none 0 0] 150∧w.heap.size≤K∧K≠pb∧sx.ownBlock≠some K∧H≠K
 ur:∀ g c,uu=some (g,c)→B.b9 wx w.heap.size (.slice (some ⟨g,0,none⟩) l.length c) l∧g≠pb∧sx.ownBlock≠some g∧H≠g
 ku:∀ K g c,kk=some K→uu=some (g,c)→K≠g
section
variable {w0:World} {lo pb:Nat} {pv:Value} {P:List Nat} {tx:Nat} {l:List B.Lk} {w:World} {sv:Value} {H:Nat} {wx wy:World} {sx sy:Value} {Zc Zd:List S.Sh} {kk:Option Nat} {uu:Option (Nat × Nat)}
theorem sY.move(h:sY w0 lo pb pv P tx l w sv H wx sx Zc kk uu)(ht:mI pb wx sx wy sy)(hp:p7 w0 lo pb pv P tx wy sy Zd):sY w0 lo pb pv P tx l w sv H wy sy Zd kk uu:=by
 have hH:=h.res.lt;have fl:∀ b,b<wx.heap.size→sx.ownBlock≠some b→sy.ownBlock≠some b:=fun b hb h1 e=>by
  rcases ht.own b e with e' | e'
  ·exact h1 e'
  ·omega
 refine ⟨hp,h.NJ.trans ht,(ht.block H hH h.zp.2.1 h.zp.2.2).trans h.res,⟨h.zp.1,h.zp.2.1,fl H hH h.zp.2.2⟩,fun K hK=>?_,fun g c hu=>?_,h.ku⟩
 ·obtain ⟨h1,h2,h3,h4,h5⟩:=h.kr K hK;exact ⟨(ht.block K h1.lt h3 h4).trans h1,h2,h3,fl K h1.lt h4,h5⟩
 ·obtain ⟨h1,h2,h3,h4⟩:=h.ur g c hu;have hg:=(h1.dx g rfl).2;refine ⟨sf h1 fun g' z6=>?_,h2,fl g hg h3,h4⟩
  have e:g=g':=by simpa [Value.ownBlock] using z6
  subst e;exact ht.block g hg h2 h3
theorem sY.below(h:sY w0 lo pb pv P tx l w sv H wx sx Zc kk uu)(hb:Below wx.heap.size wx wy):sY w0 lo pb pv P tx l w sv H wy sx Zc kk uu:=h.move (mI.below _ hb) (h.zo.below hb)
theorem sY.drew(h:sY w0 lo pb pv P tx l w sv H wx sx Zc kk uu):sY w0 lo pb pv P tx l w sv H wx.drew sx Zc kk uu:=h.below (B.aP (Below.refl _ _))
theorem sY.alloc(h:sY w0 lo pb pv P tx l w sv H wx sx Zc none uu):sY w0 lo pb pv P tx l w sv H (wx.alloc (.cells #[.int .i64 0,.slice none 0 0] 150)) sx Zc (some wx.heap.size) uu:=by
 have hq:=h.below (ai wx (.cells #[.int .i64 0,.slice none 0 0] 150));refine ⟨hq.zo,hq.NJ,hq.res,hq.zp,fun K hK=>?_,hq.ur,fun K g c hK hu e=>?_⟩
 ·cases hK;have h1:=h.NJ.size;have h2:=h.zo.row.lt;have h3:=h.res.lt;exact ⟨B.au.new wx _ _,h1,by omega,fun e=>by have:=(h.zo.sh.dx e).2;omega,by omega⟩
 ·cases hK;have:=((h.ur g c hu).1.dx g rfl).2;omega
theorem sY.clone{g c:Nat}(h:sY w0 lo pb pv P tx l w sv H wx sx Zc kk none)(ho:B.b9 wy wx.heap.size (.slice (some ⟨g,0,none⟩) l.length c) l)(hb:Below wx.heap.size wx wy):sY w0 lo pb pv P tx l w sv H wy sx Zc kk (some (g,c)):=by
 have hq:=h.below hb;have hg:=(ho.dx g rfl).1;have h1:=h.NJ.size;refine ⟨hq.zo,hq.NJ,hq.res,hq.zp,hq.kr,fun g' c' hu=>?_,fun K g' c' hK hu e=>?_⟩
 ·cases hu;have h2:=h.zo.row.lt;have h3:=h.res.lt;exact ⟨ho.mono h1,by omega,fun e=>by have:=(h.zo.sh.dx e).2;omega,by omega⟩
 ·cases hu;have:=(h.kr K hK).1.lt;omega
theorem sY.done{h:Nat}{cs:List (Nd h)}{k0:Nat}{a:List B.Lk}{f:Int}{Z:List S.Sh}{K g c:Nat}(hq:sY w0 lo pb pv P tx l w sv H wx sx (Z++(cd (aY (fi P) h) (cs.take 1) k0).2.map (j8 tx)) (some K) (some (g,c)))(hw0:w0.heap.size≤w.heap.size):Am w0 lo pb pv P tx cs k0 a l f w sv Z H K g c 0 1 ((wx.setCell ⟨K,0,none⟩ (.int .i64 f)).setCell ⟨K,1,none⟩ (.slice (some ⟨g,0,none⟩) l.length c)) sx:=by
 obtain ⟨k1,k2,k3,k4,k5⟩:=hq.kr K rfl;obtain ⟨u1,u2,u3,u4⟩:=hq.ur g c rfl;have hkg:=hq.ku K g c rfl rfl;have dG:=(bG.set K 0 wx (.int .i64 f)).trans (bG.set K 1 (wx.setCell ⟨K,0,none⟩ (.int .i64 f)) (.slice (some ⟨g,0,none⟩) l.length c));have h3:=hq.zo;have hH:=hq.zp;refine ⟨⟨⟨dG.os.trans h3.eT.os,dG.tape.trans h3.eT.tape,dG.output.trans h3.eT.output,ar h3.eT.size dG.size,fun k hk=>(dG.block k (aq hk h3.eT.size) (by omega)).trans (h3.eT.block k hk)⟩,(dG.block pb h3.row.lt (fun e=>k3 e.symm)).trans h3.row,h3.sh.same fun g' z6=>dG.block g' (h3.sh.dx z6).2 (fun e=>k4 (e▸z6)),h3.ord,ar h3.lo dG.size,h3.pg,h3.pl⟩,?_,B.au.two k1 _ _,?_,(dG.block H hq.res.lt k5).trans hq.res,⟨hkg,k5,u4⟩,⟨k3,hH.2.1,u2⟩,fun b hb=>?_,k2,hH.1⟩
 ·have h9:=hq.NJ;exact ⟨ar h9.size dG.size,fun k hk h1 h2=>(dG.block k (aq hk h9.size) (by omega)).trans (h9.block k hk h1 h2),h9.own⟩
 ·have e:qI a l 0=l:=by simp [qI]
  rw [e];refine sf u1 fun g' z6=>?_
  have e:g=g':=by simpa [Value.ownBlock] using z6
  subst e;exact dG.block g (u1.dx g rfl).2 (fun e=>hkg e.symm)
 ·simp only [dO,dB,or_false] at hb;rcases hb with rfl | rfl | rfl
  ·exact k4
  ·exact hH.2.2
  ·exact u3
theorem Am.fin{h:Nat}{cs:List (Nd h)}{k0:Nat}{a:List B.Lk}{f:Int}{Z:List S.Sh}{K g c i j:Nat}(hB:Am w0 lo pb pv P tx cs k0 a l f w sv Z H K g c i j wx sx)(hw0:w0.heap.size≤w.heap.size)(x y:Value):B.dm ((wx.setCell ⟨H,0,none⟩ x).setCell ⟨H,1,none⟩ y) (.slice (some ⟨g,0,none⟩) l.length c) (qI a l i)∧p7 w0 lo pb pv P tx ((wx.setCell ⟨H,0,none⟩ x).setCell ⟨H,1,none⟩ y) sx (Z++(cd (aY (fi P) h) (cs.take j) k0).2.map (j8 tx))∧mI pb w sv ((wx.setCell ⟨H,0,none⟩ x).setCell ⟨H,1,none⟩ y) sx:=by
 have dG:=(bG.set H 0 wx x).trans (bG.set H 1 (wx.setCell ⟨H,0,none⟩ x) y);have h3:=hB.zo;have zp:=hB.ge;refine ⟨(sf hB.lk fun g' z6=>?_).at,⟨⟨dG.os.trans h3.eT.os,dG.tape.trans h3.eT.tape,dG.output.trans h3.eT.output,ar h3.eT.size dG.size,fun k hk=>(dG.block k (aq hk h3.eT.size) (by omega)).trans (h3.eT.block k hk)⟩,(dG.block pb h3.row.lt (fun e=>hB.nb.2.1 e.symm)).trans h3.row,h3.sh.same fun g' z6=>dG.block g' (h3.sh.dx z6).2 (fun e=>hB.no H (by simp) (e▸z6)),h3.ord,ar h3.lo dG.size,h3.pg,h3.pl⟩,?_⟩
 ·have e:g=g':=by simpa [Value.ownBlock] using z6
  subst e;exact dG.block g hB.Ow (fun e=>hB.ne.2.2 e.symm)
 ·have h9:=hB.NJ;exact ⟨ar h9.size dG.size,fun k hk h1 h2=>(dG.block k (aq hk h9.size) (by omega)).trans (h9.block k hk h1 h2),h9.own⟩
theorem sY.V9{h:Nat}{cs:List (Nd h)}{k0:Nat}{a:List B.Lk}{f:Int}{Z:List S.Sh}{g c:Nat}(hq:sY w0 lo pb pv P tx l w sv H wx sx (Z++(cd (aY (fi P) h) (cs.take 1) k0).2.map (j8 tx)) none (some (g,c))):Am w0 lo pb pv P tx cs k0 a l f w sv Z H wx.heap.size g c 0 1 (wx.alloc (.cells #[.int .i64 f,.slice (some ⟨g,0,none⟩) l.length c] 150)) sx:=by
 have hb:=hq.below (ai wx (.cells #[.int .i64 f,.slice (some ⟨g,0,none⟩) l.length c] 150));obtain ⟨u1,u2,u3,u4⟩:=hb.ur g c rfl;have hg:=((hq.ur g c rfl).1.dx g rfl).2;have h1:=hq.NJ.size;have h2:=hq.zo.row.lt;have h3:=hq.res.lt;have hH:=hb.zp;have hnk:sx.ownBlock≠some wx.heap.size:=fun e=>by have:=(hq.zo.sh.dx e).2;omega
 refine ⟨hb.zo,hb.NJ,B.au.new wx _ _,?_,hb.res,⟨by omega,by omega,u4⟩,⟨by omega,hH.2.1,u2⟩,fun b NY=>?_,h1,hH.1⟩
 ·have e:qI a l 0=l:=by simp [qI]
  rw [e];exact u1
 ·simp only [dO,dB,or_false] at NY;rcases NY with rfl | rfl | rfl
  ·exact hnk
  ·exact hH.2.2
  ·exact u3
end
attribute [local go_sem ↓] Go.wp_at_zero Go.wp_at_succ
section
variable {base:Nat} {A:Nat→Addr} {db:Nat} {F:Nat→Prop} {d:S.V.bE} {w0:World} {tb:Nat} {x:Bx} {fr en:ByteArray} {lim lo:Nat}
def Kw(base:Nat)(A:Nat→Addr)(db:Nat)(F:Nat→Prop)(d:S.V.bE)(w0:World)(tb:Nat)(x:Bx)(fr en:ByteArray)(lim lo:Nat)(h:Nat):Prop :=
 ∀ (p:C.Ch) (t:Nd h) (dp:Nat) (w:World) (v:Value) (acc:List Pr) (M:List Nat),eu (cF d) w0 h p t→jH ⟨h,t⟩→Gs base A db F d w0 tb x fr en lim lo w v acc M→dp+h≤64→(acc.length+(flat h t).length)*32≤140737488355328→(cD h t).Nodup→(∀ i ∈ cD h t,i ∉ M)→M.length+(cD h t).length<1099511627776 →
  Calls prog 90 #[p.val,.int .i64 (dp:Int),.pointer (some ⟨x.m,0,none⟩),.pointer (some ⟨x.f,0,none⟩),.pointer (some ⟨x.t,0,none⟩),.pointer (some ⟨x.fr,0,none⟩),.pointer (some ⟨x.en,0,none⟩),.pointer (some ⟨x.p,0,none⟩),.pointer (some ⟨x.l,0,none⟩),.pointer (some ⟨x.g,0,none⟩)] w
   (F7 base A db F d w0 tb x fr en lim lo w v M (cD h t) (fy fr en lim h t acc))
structure I5(base:Nat)(A:Nat→Addr)(db:Nat)(F:Nat→Prop)(d:S.V.bE)(w0:World)(tb:Nat)(x:Bx)(fr en:ByteArray)(lim lo:Nat){h:Nat}(t:Nd (h+1))(w:World)(v:Value)(acc:List Pr)(M:List Nat)(b:Nat)(n:SN)(pv lv cv:Value)(k:Nat)(wr:World)(vk:Value)(ak:List Pr)(Mk:List Nat):Prop where
 gs:Gs base A db F d w0 tb x fr en lim lo wr vk ak Mk
 gth:wV db x.p x.mb w v wr vk
 br:Br wr b n pv lv cv
 room:ak.length+((t.2.2.drop k).flatMap (flat h)).length≤acc.length+(flat (h+1) t).length
 mem:∀ i ∈ Mk,i ∈ M∨i ∈ cU t.1++(t.2.2.take k).flatMap (cD h)
 len:Mk.length≤M.length+(cU t.1++(t.2.2.take k).flatMap (cD h)).length
variable {h:Nat} {t:Nd (h+1)} {w:World} {v:Value} {acc:List Pr} {M:List Nat} {b:Nat} {n:SN} {pv lv cv:Value} {k:Nat} {wr:World} {vk:Value} {ak:List Pr} {Mk:List Nat}
theorem rR(k:Nat):(cU t.1++(t.2.2.take k).flatMap (cD h)).Sublist (cD (h+1) t):=List.Sublist.append_left (Jz k) _
theorem I5.below{W:World}(hl:I5 base A db F d w0 tb x fr en lim lo t w v acc M b n pv lv cv k wr vk ak Mk)(hb:Below wr.heap.size wr W):I5 base A db F d w0 tb x fr en lim lo t w v acc M b n pv lv cv k W vk ak Mk :=
 ⟨hl.gs.below hb,hl.gth.trans (wV.below vk hb),⟨hl.br.row.below hb,hl.br.bn.below hb,hl.br.kids.below hb⟩,hl.room,hl.mem,hl.len⟩
theorem I5.out{e:Bool}(hl:I5 base A db F d w0 tb x fr en lim lo t w v acc M b n pv lv cv k wr vk ak Mk)(hr:fy fr en lim (h+1) t acc=(ak,e)):F7 base A db F d w0 tb x fr en lim lo w v M (cD (h+1) t) (fy fr en lim (h+1) t acc) (.returned (.bool e)) wr:=by
 refine ⟨vk,Mk,by rw [hr],by rw [hr];exact hl.gs,hl.gth,fun i hi=>(hl.mem i hi).imp id fun h=>(rR k).subset h,?_⟩
 have:=(rR (t:=t) k).length_le;have:=hl.len;omega
theorem drop_cons{α:Type}{l:List α}{i:Nat}{c:α}(h:l[i]?=some c):l.drop i=c::l.drop (i+1):=by
 obtain ⟨hi,hv⟩:=List.getElem?_eq_some_iff.1 h;rw [bg hi,hv]
theorem Q3{c:Nd h}{ak:List Pr}(hg:jH ⟨h,c⟩)(hl:ak.length≤lim):(fy fr en lim h c ak).1.length≤ak.length+(flat h c).length:=by
 have ho:∃ lo hi,Ok h c lo hi:=by
  cases h with
  | zero=>exact hg.1
  | succ h=>exact hg.1
 obtain ⟨lo,hi,ho⟩:=ho;have:=(Cq (fr:=fr) (en:=en) h ho hl).1;rw [this,ae,ag];have:=List.length_filter_le (jQ fr en) (flat h c);omega
theorem I5.qi{c:Nd h}{p:C.Ch}{dp:Nat}(IH:Kw base A db F d w0 tb x fr en lim lo h)(nH:jH ⟨h+1,t⟩)(hl:I5 base A db F d w0 tb x fr en lim lo t w v acc M b n pv lv cv k wr vk ak Mk)(hc:t.2.2[k]?=some c)(hk:eu (cF d) w0 h p c)(Gh:dp+(h+1)≤64)(eb:(acc.length+(flat (h+1) t).length)*32≤140737488355328)(jb:(cD (h+1) t).Nodup)(lW:∀ i ∈ cD (h+1) t,i ∉ M)(nk:M.length+(cD (h+1) t).length<1099511627776):Calls prog 90 #[p.val,.int .i64 ((dp:Int)+1),.pointer (some ⟨x.m,0,none⟩),.pointer (some ⟨x.f,0,none⟩),.pointer (some ⟨x.t,0,none⟩),.pointer (some ⟨x.fr,0,none⟩),.pointer (some ⟨x.en,0,none⟩),.pointer (some ⟨x.p,0,none⟩),.pointer (some ⟨x.l,0,none⟩),.pointer (some ⟨x.g,0,none⟩)] wr fun e w'=>∃ v' M',e = .returned (.bool (fy fr en lim h c ak).2)∧I5 base A db F d w0 tb x fr en lim lo t w v acc M b n pv lv cv (k+1) w' v' (fy fr en lim h c ak).1 M':=by
 have hgc:jH ⟨h,c⟩:=mz nH hc;have hdc:=drop_cons hc;have hrm:=hl.room;rw [hdc,List.flatMap_cons,ae] at hrm;obtain ⟨A8,Qy⟩:=JA hc jb;have yt:=xM hc;have oN:=(rR (t:=t) (k+1)).length_le;rw [yt] at oN;simp only [ae] at oN;have hlen:=hl.len;rw [ae] at hlen;refine (IH p c (dp+1) wr vk ak Mk hk hgc hl.gs (by omega) (by omega) A8 (fun i hi hm=>?_) (by omega)).mono ?_
 ·rcases hl.mem i hm with h1 | h1
  ·exact lW i ((rR (k+1)).subset (by rw [yt];simp [hi])) h1
  ·rcases List.mem_append.1 h1 with h2 | h2
   ·exact (Qy i hi).1 h2
   ·exact (Qy i hi).2 h2
 ·rintro e w' ⟨v',M',rfl,h1,h2,h3,h4⟩;refine ⟨v',M',rfl,h1,hl.gth.trans h2,hl.br.gth h2 hl.gs.dv hl.gs.row (by decide) hl.gs.ps hl.gs.met,?_,fun i hi=>?_,?_⟩
  ·have:=Q3 (fr:=fr) (en:=en) hgc hl.gs.len;omega
  ·rw [yt];rcases h3 i hi with h | h
   ·rcases hl.mem i h with h | h
    ·exact .inl h
    ·exact .inr (by
      rcases List.mem_append.1 h with h | h
      ·exact dV _ h
      ·exact cy _ (dV _ h))
   ·exact .inr (cy _ (cy _ h))
  ·rw [yt];simp only [ae];omega
end
end T
end Go.Proofs.YtihmgigfkmofnaaGreatDoor
