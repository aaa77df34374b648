import Derived.Test.YtihmgigfkmofnaaGreatDoorG30
import Derived.Deep.DrawnRows
set_option maxHeartbeats 4000000
set_option maxRecDepth 100000
open Go.Proofs.Tryz
namespace Go.Proofs.YtihmgigfkmofnaaGreatDoor
namespace T
open Go.RowKit
structure Bx where
 m:Nat
 mb:Nat
 t:Nat
 f:Nat
 fr:Nat
 en:Nat
 p:Nat
 l:Nat
 g:Nat
def ptr(b:Nat):Value:=.pointer (some ⟨b,0,none⟩)
def Bx.adr(x:Bx):Array Value:=#[ptr x.m,ptr x.f,ptr x.t,ptr x.fr,ptr x.en,ptr x.p,ptr x.l,ptr x.g]
structure Gs(base:Nat)(A:Nat→Addr)(db:Nat)(F:Nat→Prop)(d:S.V.bq)(w0:World)(tb:Nat)(x:Bx)(fr en:ByteArray)(lim lo:Nat)(w:World)(v:Value)(acc:List Pr)(M:List Nat):Prop where
 dv:Dv base A db F d w
 mv:Mv db F w0 w
 cm:w.cell? ⟨x.m,0,none⟩=some (.map (some x.mb))
 ct:w.cell? ⟨x.t,0,none⟩=some (ptr tb)
 cf:w.cell? ⟨x.f,0,none⟩=some .nilIface
 cfr:w.cell? ⟨x.fr,0,none⟩=some (.string fr)
 cen:w.cell? ⟨x.en,0,none⟩=some (.string en)
 cl:w.cell? ⟨x.l,0,none⟩=some (.int .i64 (lim:Int))
 cg:w.cell? ⟨x.g,0,none⟩=some (.func (.func 90) #[] x.adr)
 row:B.ax w x.p #[v] 63
 ps:yE w lo v acc
 len:acc.length≤lim
 met:Met w x.mb M
 DM:M.length<1099511627776
 ord:∀ b ∈ [x.m,x.t,x.f,x.fr,x.en,x.l,x.g,x.p,x.mb],w0.heap.size≤b∧b<lo
 no:∀ b ∈ [x.m,x.t,x.f,x.fr,x.en,x.l,x.g],b≠x.p
 Tx:db<w0.heap.size
 lo:lo≤w.heap.size
section
variable {base:Nat} {A:Nat→Addr} {db:Nat} {F:Nat→Prop} {d:S.V.bq} {w0:World} {tb:Nat} {x:Bx} {fr en:ByteArray} {lim lo:Nat} {w w':World} {v v':Value} {acc Mq:List Pr} {M M':List Nat}
theorem Gs.keep(h:Gs base A db F d w0 tb x fr en lim lo w v acc M)(hv:Dv base A db F d w')(hm:Mv db F w0 w')(hg:wj db x.p x.mb w v w' v')(hr:B.ax w' x.p #[v'] 63)(hp:yE w' lo v' Mq)(hl:Mq.length≤lim)(Y6:Met w' x.mb M')(ny:M'.length<1099511627776):Gs base A db F d w0 tb x fr en lim lo w' v' Mq M':=by
 have hb:∀ b ∈ [x.m,x.t,x.f,x.fr,x.en,x.l,x.g],∀ u,w.cell? ⟨b,0,none⟩=some u→w'.cell? ⟨b,0,none⟩=some u:=fun b hb u hc=>by
  have ho:=h.ord b (by simp only [dN,dA,or_false] at hb ⊢;rcases hb with rfl | rfl | rfl | rfl | rfl | rfl | rfl <;> simp)
  refine bV (hg.block b (World.block_lt_of_cell? w _ hc) (by have:=h.Tx;omega) (h.no b hb) (h.met.ne hc) fun e=>?_) hc
  have:=(h.ps.1.dn b e).1;omega
 exact ⟨hv,hm,hb _ (by simp) _ h.cm,hb _ (by simp) _ h.ct,hb _ (by simp) _ h.cf,hb _ (by simp) _ h.cfr,hb _ (by simp) _ h.cen,hb _ (by simp) _ h.cl,hb _ (by simp) _ h.cg,hr,hp,hl,Y6,ny,h.ord,h.no,h.Tx,al h.lo hg.size⟩
theorem yE.mv{w w':World}(h:yE w lo v acc)(hm:Mv db F w w')(hdb:db<lo):yE w' lo v acc:=by
 have hb:∀ g,v.ownBlock=some g→w'.heap[g]?=w.heap[g]?:=fun g hg=>by
  have:=h.1.dn g hg;exact hm.one.block g this.2 (by omega)
 refine ⟨⟨h.1.1,?_⟩,fun g hg=>?_⟩
 ·rcases h.1.2 with h' | ⟨g,cap,cur,h',h1,h2,hr⟩
  ·exact .inl h'
  ·exact .inr ⟨g,cap,cur,h',h1,(hb g (by rw [h'];rfl)).trans h2,hr⟩
 ·obtain ⟨cur,h1,h2⟩:=h.2 g hg;exact ⟨cur,(hb g hg).trans h1,h2⟩
theorem Gs.go(h:Gs base A db F d w0 tb x fr en lim lo w v acc M)(hm:Mv db F w w')(hv:Dv base A db F d w'):Gs base A db F d w0 tb x fr en lim lo w' v acc M:=by
 have Pm:=h.ord x.p (by simp)
 refine h.keep hv (h.mv.trans hm) (wj.mv v hm) ?_ (h.ps.mv hm (by have:=h.Tx;omega)) h.len (h.met.same (hm.one.block x.mb h.met.lt (by have:=h.ord x.mb (by simp);have:=h.Tx;omega))) h.DM
 exact (hm.one.block x.p h.row.lt (by have:=h.Tx;omega)).trans h.row
theorem Gs.below(h:Gs base A db F d w0 tb x fr en lim lo w v acc M)(hb:Below w.heap.size w w'):Gs base A db F d w0 tb x fr en lim lo w' v acc M:=h.go (Mv.of hb) (h.dv.below hb)
end
theorem rC{w:World}{b:Nat}{v:Value}{T:TypeId}(h:B.ax w b #[v] T)(u:Value):B.ax (w.setCell ⟨b,0,none⟩ u) b #[u] T:=by
 unfold B.ax at h ⊢;rw [setCell_eq_setRow w b 0 #[v] T (0,0) u h];exact setRow_heap w b #[v] _ T (0,0) h
theorem yE.same{w w':World}{lo:Nat}{v:Value}{acc:List Pr}(h:yE w lo v acc)(hb:∀ g,v.ownBlock=some g→w'.heap[g]?=w.heap[g]?):yE w' lo v acc:=by
 refine ⟨⟨h.1.1,?_⟩,fun g hg=>?_⟩
 ·rcases h.1.2 with h' | ⟨g,cap,cur,h',h1,h2,hr⟩
  ·exact .inl h'
  ·exact .inr ⟨g,cap,cur,h',h1,(hb g (by rw [h'];rfl)).trans h2,hr⟩
 ·obtain ⟨cur,h1,h2⟩:=h.2 g hg;exact ⟨cur,(hb g hg).trans h1,h2⟩
section
variable {base:Nat} {A:Nat→Addr} {db:Nat} {F:Nat→Prop} {d:S.V.bq} {w0:World} {tb:Nat} {x:Bx} {fr en:ByteArray} {lim lo:Nat}
theorem Gs.grow{w:World}{v s:Value}{acc us:List Pr}{M:List Nat}(h:Gs base A db F d w0 tb x fr en lim lo w v acc M)(gi:Dv base A db F d w0)(hs:gK w s us)(hb:(acc.length+us.length)*32≤140737488355328)(hl:acc.length+us.length≤lim):∃ a' c' w',(Builtin.append_ #[63,63] 63 #[v,s]).run prog w = .ok (.slice a' (acc.length+us.length) c') w'∧w'.frozen? ⟨x.p,0,none⟩=false∧w'.cell? ⟨x.p,0,none⟩=some v∧w'.cell? ⟨x.l,0,none⟩=some (.int .i64 (lim:Int))∧Gs base A db F d w0 tb x fr en lim lo (w'.setCell ⟨x.p,0,none⟩ (.slice a' (acc.length+us.length) c')) (.slice a' (acc.length+us.length) c') (acc++us) M∧wj db x.p x.mb w v (w'.setCell ⟨x.p,0,none⟩ (.slice a' (acc.length+us.length) c')) (.slice a' (acc.length+us.length) c'):=by
 obtain ⟨a',c',w',hr,kB,hg,aE⟩:=yE.app lo v s acc us w h.ps hs hb h.lo;have Pm:=h.ord x.p (by simp)
 have fM:∀ b,b<lo→some b≠v.ownBlock:=fun b hb e=>by
  have:=(h.ps.1.dn b e.symm).1;omega
 have bG:B.ax w' x.p #[v] 63:=(hg.block x.p h.row.lt (fM _ Pm.2)).trans h.row;have dF:=bL.set x.p 0 w' (.slice a' (acc.length+us.length) c');have pW:w.heap.size≤w'.heap.size:=hg.size;have PC:wj db x.p x.mb w v (w'.setCell ⟨x.p,0,none⟩ (.slice a' (acc.length+us.length) c')) (.slice a' (acc.length+us.length) c'):=⟨al pW dF.size,fun k hk _ h2 _ h3=>(dF.block k (ar hk pW) h2).trans (hg.block k hk (fun e=>h3 e.symm)),aE⟩
 have si:=h.lo;have lU:Below w0.heap.size w (w'.setCell ⟨x.p,0,none⟩ (.slice a' (acc.length+us.length) c')):=⟨dF.os.trans hg.os,dF.tape.trans hg.tape,dF.output.trans hg.output,al pW dF.size,fun k hk=>(dF.block k (by omega) (by omega)).trans (hg.block k (by omega) (fM k (by omega)))⟩
 obtain ⟨ye,zD⟩:=h.dv.grown lU h.mv gi;have hlx:=h.ord x.l (by simp)
 refine ⟨a',c',w',hr,by unfold B.ax at bG;simp [World.frozen?,bG],bG.cell 0 (by simp),bV (hg.block x.l (World.block_lt_of_cell? w _ h.cl) (fM _ hlx.2)) h.cl,h.keep ye zD PC (rC bG _) (kB.same fun g G7=>?_) (by rw [ae];exact hl) (h.met.same ((dF.block x.mb (ar h.met.lt pW) (h.met.ne (h.row.cell 0 (by simp))).symm).trans (hg.block x.mb h.met.lt (fM _ (h.ord x.mb (by simp)).2)))) h.DM,PC⟩
 have:=kB.1.dn g G7;exact dF.block g this.2 (by omega)
theorem Gs.meet{w w':World}{v:Value}{acc:List Pr}{M M':List Nat}(h:Gs base A db F d w0 tb x fr en lim lo w v acc M)(gi:Dv base A db F d w0)(hm:Met w' x.mb M')(ny:M'.length<1099511627776)(hg:w.grownBy w' (some x.mb)):Gs base A db F d w0 tb x fr en lim lo w' v acc M'∧wj db x.p x.mb w v w' v:=by
 have hom:=h.ord x.mb (by simp)
 have si:=h.lo;have pW:w.heap.size≤w'.heap.size:=hg.size;have dK:∀ k,k≠x.mb→some k≠some x.mb:=fun k hk e=>hk (Option.some.inj e)
 have PC:wj db x.p x.mb w v w' v:=⟨pW,fun k hk _ _ h3 _=>hg.block k hk (dK k h3),fun _ h=>.inl h⟩
 have lU:Below w0.heap.size w w':=⟨hg.os,hg.tape,hg.output,pW,fun k hk=>hg.block k (by omega) (dK k (by omega))⟩
 obtain ⟨ye,zD⟩:=h.dv.grown lU h.mv gi;refine ⟨h.keep ye zD PC ((hg.block x.p h.row.lt (dK _ (h.met.ne (h.row.cell 0 (by simp))))).trans h.row) (h.ps.same fun g G7=>?_) h.len hm ny,PC⟩
 have:=h.ps.1.dn g G7;exact hg.block g this.2 (dK _ (by omega))
end
def Mo(ks:List ByteArray):Nat→Option ByteArray
 | 0=>none
 | j+1=>ks[j]?
theorem Av:∀ (l:List ByteArray) (lo:Option ByteArray) (k:ByteArray),jg lo (l++[k])=some k
 | [],_,_=>rfl
 | _::l,_,k=>Av l _ k
theorem OB(ks:List ByteArray)(q:Nat)(hq:q≤ks.length):jg none (ks.take q)=Mo ks q:=by
 cases q with
 | zero=>simp [jg,Mo]
 | succ j =>
  have hj:j<ks.length:=by omega
  rw [gm,af hj];show jg none (ks.take j++[ks[j]])=ks[j]?
  rw [Av,af hj]
theorem TO(lk:List B.Lk)(i:Nat)(en:ByteArray)(hi:i≤lk.length):AH lk i en=yy en (Mo (lk.map (·.1)) i):=by
 cases i with
 | zero=>rfl
 | succ j =>
  have hj:j<lk.length:=by omega
  show (if en=⟨#[]⟩ then false else match lk[j]? with | some p=>!cX p.1 en | none=>false)=yy en ((lk.map (·.1))[j]?)
  rw [aL,af hj];simp only [kC,yy];by_cases h:en=⟨#[]⟩
  ·simp [h]
  ·simp [h]
theorem Lv{α:Type}(g:α→List Pr→List Pr × Bool)(en:ByteArray)(ks:List ByteArray)(cs:List α)(i:Nat)(acc:List Pr)(hi:cs.length≤i):lV g en (Mo ks i) (ks.drop i) (cs.drop i) acc=(acc,true):=by
 rw [dB hi];rfl
theorem Hf{α:Type}(g:α→List Pr→List Pr × Bool)(en:ByteArray)(ks:List ByteArray)(cs:List α)(i:Nat)(acc:List Pr)(c:α)(hc:cs[i]?=some c):lV g en (Mo ks i) (ks.drop i) (cs.drop i) acc=if yy en (Mo ks i)=true then (acc,false) else if (g c acc).2=true then lV g en (Mo ks (i+1)) (ks.drop (i+1)) (cs.drop (i+1)) (g c acc).1 else ((g c acc).1,false):=by
 obtain ⟨hi,hv⟩:=List.getElem?_eq_some_iff.1 hc;rw [bf hi,hv];show (if yy en (Mo ks i)=true then (acc,false) else if (g c acc).2=true then lV g en (ks.drop i).head? (ks.drop i).tail (cs.drop (i+1)) (g c acc).1 else ((g c acc).1,false))=_
 rw [List.head?_drop,List.tail_drop];rfl
theorem N8{lk:List B.Lk}{key:ByteArray}{q:Nat}(hp:B.fI lk key q)(hs:(lk.map (·.1)).Pairwise fun a b=>cX a b=true):(lk.map (·.1)).findIdx (fun k=>cX key k)=q:=by
 obtain ⟨h1,h2⟩:=nu hp hs;have hq:q≤(lk.map (·.1)).length:=by rw [aA];exact hp.1
 rw [← aG q (lk.map (·.1)),List.findIdx_append];have e1:((lk.map (·.1)).take q).findIdx (fun k=>cX key k)=((lk.map (·.1)).take q).length:=List.findIdx_eq_length.2 fun k hk=>h1 k hk
 rw [if_neg (by rw [e1];exact Nat.lt_irrefl _),ag,a8 hq]
 cases hd:(lk.map (·.1)).drop q with
 | nil=>simp
 | cons k r =>
  have:=h2 k (by rw [hd];rfl)
  rw [lH,this];simp
theorem Lu{fr en:ByteArray}{lim h q:Nat}{t:Nd (h+1)}{lk:List B.Lk}(acc:List Pr)(hk:t.2.1=lk.map (·.1))(hp:B.fI lk fr q)(hs:t.2.1.Pairwise fun a b=>cX a b=true):fu fr en lim (h+1) t acc=lV (fu fr en lim h) en (Mo t.2.1 q) (t.2.1.drop q) (t.2.2.drop q) acc:=by
 show lV _ en (jg none (t.2.1.take (t.2.1.findIdx fun k=>cX fr k))) _ _ acc=_
 have e:(t.2.1.findIdx fun k=>cX fr k)=q:=by rw [hk];exact N8 hp (by rw [← hk];exact hs)
 rw [e,OB _ _ (by rw [hk,aA];exact hp.1)]
theorem xg{h:Nat}{cs:List (Nd h)}{i:Nat}{c:Nd h}(hc:cs[i]?=some c):(cs.take (i+1)).flatMap (dE h)=(cs.take i).flatMap (dE h)++dE h c:=by
 rw [gm,hc,aT];simp
theorem IN{h:Nat}{cs:List (Nd h)}(i:Nat):((cs.take i).flatMap (dE h)).Sublist (cs.flatMap (dE h)):=by
 conv=>rhs;rw [← aG i cs]
 rw [aT];exact List.sublist_append_left _ _
theorem IP{h:Nat}{t:Nd (h+1)}{i:Nat}{c:Nd h}(hc:t.2.2[i]?=some c)(hn:(dE (h+1) t).Nodup):(dE h c).Nodup∧∀ j ∈ dE h c,j ∉ df t.1∧j ∉ (t.2.2.take i).flatMap (dE h):=by
 have hn:(df t.1++t.2.2.flatMap (dE h)).Nodup:=hn;have h1:(df t.1++((t.2.2.take i).flatMap (dE h)++dE h c)).Nodup:=hn.sublist (by rw [← xg hc];exact List.Sublist.append_left (IN _) _)
 obtain ⟨_,h2,h3⟩:=List.nodup_append.1 h1;obtain ⟨_,h4,h5⟩:=List.nodup_append.1 h2;refine ⟨h4,fun j hj=>⟨fun h=>h3 j h j (cz _ hj) rfl,fun h=>h5 j h j hj rfl⟩⟩
theorem Se(w:World)(m n:Int):(Builtin.min_ #[3,3] 3 #[.int .i64 m,.int .i64 n]).run prog w = .ok (.int .i64 (min m n)) w:=by
 simp [Builtin.min_,Builtin.min2]
 split <;> omega
theorem Bh{ops:Array Oper}{o:Oper}{a:Act}{w:World}{K:Act→World→Prop}{Q:Exit→Act→World→Prop}{E:Prop}(nM:o.guard=none)(x y:Operand)
  (ho:o.op = .call { callee:=.builtin .min,args:=#[x,y],argTypes:=#[3,3] }) (zq:o.type=3) (m n r:Int) (hx:a.eval x = .int .i64 m) (hy:a.eval y = .int .i64 n) (hr:min m n=r)
  (h:K (a.put o.dst (.int .i64 r)) w):if Region.wanted o (yielded ops a.tmps)=true then Oper.wp prog o a w K Q else E:=by
 have hw:Region.wanted o (yielded ops a.tmps)=true:=by simp [Region.wanted,nM]
 rw [if_pos hw];unfold Oper.wp;simp [execOp,ho,resolve,invoke,builtin,hx,hy,zq,Se,Result.andThen,hr]
 exact h
attribute [local go_sem ↓] Go.wp_at_zero Go.wp_at_succ
theorem xM{PG:Int→Option PD}{w:World}{h:Nat}{p:C.Ch}{t:Nd h}(hk:eu PG w h p t):SO p=(fx h t:Int)∧fx h t<1048576:=by
 cases p with
 | pg id =>
  have hk:gE PG h id t:=hk;cases h with
  | zero =>
   obtain ⟨h1,h2,_⟩:=hk;have e:(fx 0 t:Int)=id:=h2;exact ⟨e.symm,by omega⟩
  | succ h =>
   obtain ⟨h1,h2,_⟩:=hk;have e:(fx (h+1) t:Int)=id:=h2;exact ⟨e.symm,by omega⟩
 | nd b =>
  have h0:fx h t=0:=hk.1;exact ⟨by rw [h0];rfl,by omega⟩
theorem Gx{h:Nat}{t:Nd h}:∀ i ∈ df (fx h t),i ∈ dE h t:=fun i hi=>by
 cases h with
 | zero=>exact hi
 | succ h=>exact dV _ hi
theorem IW{h:Nat}{t:Nd h}:(df (fx h t)).length≤(dE h t).length:=by
 cases h with
 | zero=>exact aj _
 | succ h =>
  show (df t.1).length≤(df t.1++_).length
  rw [ae];omega
section
variable {base:Nat} {A:Nat→Addr} {db:Nat} {F:Nat→Prop} {d:S.V.bq} {w0:World} {tb:Nat} {x:Bx} {fr en:ByteArray} {lim lo:Nat}
theorem Gs.again{h:Nat}{p:C.Ch}{t:Nd h}{w:World}{v:Value}{acc:List Pr}{M:List Nat}(hg:Gs base A db F d w0 tb x fr en lim lo w v acc M)(gi:Dv base A db F d w0)(hk:eu (cJ d) w0 h p t)(lZ:∀ i ∈ dE h t,i ∉ M)(ny:M.length+(dE h t).length<1099511627776):Calls prog 91 #[.map (some x.mb),p.val] w fun e w'=>e = .returned (.bool false)∧Gs base A db F d w0 tb x fr en lim lo w' v acc (M++df (fx h t))∧wj db x.p x.mb w v w' v:=by
 obtain ⟨h1,h2⟩:=xM hk;have fM:decide (fx h t ∈ M)=false:=by
  rw [decide_eq_false_iff_not];intro hm;have h3:=hg.met.ok _ hm;refine lZ _ (Gx _ ?_) hm;unfold df;rw [if_neg (by omega)]
  simp
 refine (rR p (fx h t) h1 h2 x.mb M w hg.met hg.DM).mono ?_
 rintro e w' ⟨rfl,hm,AQ⟩;rw [I4] at hm;have hl:=IW (t:=t);obtain ⟨g1,g2⟩:=hg.meet gi hm (by rw [ae];omega) AQ
 exact ⟨by rw [fM],g1,g2⟩
def Fx(base:Nat)(A:Nat→Addr)(db:Nat)(F:Nat→Prop)(d:S.V.bq)(w0:World)(tb:Nat)(x:Bx)(fr en:ByteArray)(lim lo:Nat)(w:World)(v:Value)(M P:List Nat)(r:List Pr × Bool)(e:Ending)(w':World):Prop :=
 ∃ v' M',e = .returned (.bool r.2)∧Gs base A db F d w0 tb x fr en lim lo w' v' r.1 M'∧wj db x.p x.mb w v w' v'∧(∀ i ∈ M',i ∈ M∨i ∈ P)∧M'.length≤M.length+P.length
theorem EB{rv:Value}(gi:Dv base A db F d w0)(GW:B.ax w0 tb #[.pointer (some ⟨db,0,none⟩),rv] 100)(p:C.Ch)(t:Nd 0)(dp:Nat)(w:World)(v:Value)(acc:List Pr)(M:List Nat)(hk:eu (cJ d) w0 0 p t)(nM:jI ⟨0,t⟩)(h:Gs base A db F d w0 tb x fr en lim lo w v acc M)(PJ:dp≤64)(UB:lim≤9223372036854775807)(dZ:(acc.length+t.2.length)*32≤140737488355328)(lZ:∀ i ∈ dE 0 t,i ∉ M)(ny:M.length+(dE 0 t).length<1099511627776):Calls prog 90 #[p.val,.int .i64 (dp:Int),.pointer (some ⟨x.m,0,none⟩),.pointer (some ⟨x.f,0,none⟩),.pointer (some ⟨x.t,0,none⟩),.pointer (some ⟨x.fr,0,none⟩),.pointer (some ⟨x.en,0,none⟩),.pointer (some ⟨x.p,0,none⟩),.pointer (some ⟨x.l,0,none⟩),.pointer (some ⟨x.g,0,none⟩)] w (Fx base A db F d w0 tb x fr en lim lo w v M (dE 0 t) (fu fr en lim 0 t acc)):=by
 have Ii:=ab (h.again gi hk lZ ny);have oc:Hid (∀ W,Gs base A db F d w0 tb x fr en lim lo W v acc (M++df (fx 0 t))→Calls prog 92 #[.pointer (some ⟨tb,0,none⟩),p.val,.int .i64 (dp:Int)] W fun e w'=>(lY (ph d w0) A ⟨0,t⟩ e w'∧True)∧Dv base A db F d w'∧Mv db F W w'):=fun W hW=>by
  have aw:=hW.mv.bU gi;refine (lx (ph d w0) p ⟨0,t⟩ tb rv dp W ⟨⟨hk,nM⟩,.inl aw⟩ (cG aw GW) hW.dv (.inr PJ)).mono ?_
  rintro e w' ⟨⟨h1,_⟩,h2,h3⟩;exact ⟨⟨h1,trivial⟩,h2,h3⟩
 obtain ⟨pt,px,gw⟩:=bz p;rw [gw] at oc Ii ⊢;have k0:w.cell? ⟨x.m,0,none⟩=some (.map (some x.mb)):=h.cm;have HRM:=ab dZ;have HDP:=ab PJ;have Fm:=ab gi;have WS:=ab UB;have RK:=ab ny;clear h hk nM gi GW gw PJ dZ UB lZ ny;go_enter func90,ntmps90;go_wp2_with fail;refine Ii.out.mono ?_
 rintro e wa ⟨rfl,yb,Pb⟩;have k1:wa.cell? ⟨x.t,0,none⟩=some (.pointer (some ⟨tb,0,none⟩)):=yb.ct;have Cz:=ab (oc.out wa yb);have HS:=ab yb;have HT:=ab Pb;clear yb Pb oc Ii k0;go_wp2_with fail;refine Cz.out.mono ?_
 rintro e w1 ⟨⟨zB,_⟩,dX,eo⟩;rcases zB with ⟨hE,_⟩ | ⟨b,n,pv,lv,cv,rfl,hs,hn⟩
 ·exact (hE:False).elim
 ·have mh:=ab (HS.out.go eo dX);have Ic:Hid (wj db x.p x.mb w v w1 v):=HT.out.trans (wj.mv v eo);have kB:n.ps=t.2:=hn.1.1.2;have h0:n.us.length=0:=by have h9:n.us=[]:=hn.1.1.1;rw [h9];rfl
  have mZ:=ab (ch b n pv lv cv w1 hs);rw [show decide (n.us.length=0)=true by simp [h0]] at mZ
  have hlen:n.ps.length≤4000:=hs.fine.2.1;have HWI:Hid (∀ W,Below w1.heap.size w1 W→Calls prog 94 #[pv,.string fr,.string en] W fun e w'=>∃ a c,e = .returned (.slice a (eb n.ps fr en).length c)∧gK w' (.slice a (eb n.ps fr en).length c) (eb n.ps fr en)∧Below w1.heap.size w1 w'):=fun W hW=>(FW pv n.ps fr en W (by omega) (hs.iD.below hW)).mono fun e w' ⟨a,c,h1,h2,h3⟩=>⟨a,c,h1,h2,Below.next hW h3⟩
  have p0:=hs.c0;have VA:=mh.out.cfr;have Yk:=mh.out.cen;have sX:=ab kB;obtain ⟨xa,xc,zC⟩:=hs.iD.form;subst zC;clear dX eo Cz hs hn h0 kB k1;go_wp2_with fail;refine mZ.out.mono ?_
  rintro e w1' ⟨rfl,rfl⟩;go_wp2_with fail;go_region_held3 (fun w'=>w'.cell? ⟨b,0,none⟩=some (.slice xa n.ps.length xc)∧w'.cell? ⟨x.fr,0,none⟩=some (.string fr)∧w'.cell? ⟨x.en,0,none⟩=some (.string en)) (go_keep)
   (first
    | (go_at_call 94;refine (HWI.out _ (by first | exact Below.refl _ _ | exact B.aN (Below.refl _ _))).mono ?_;rintro e w2 ⟨ya,yc,rfl,hy,aO⟩;have HY:=ab hy;have bJ:=ab aO;have m0:=(aO.cell (p:=⟨b,0,none⟩) (World.block_lt_of_cell? w1 _ p0)).trans p0;have m1:=(aO.cell (p:=⟨x.fr,0,none⟩) (World.block_lt_of_cell? w1 _ VA)).trans VA;have m2:=(aO.cell (p:=⟨x.en,0,none⟩) (World.block_lt_of_cell? w1 _ Yk)).trans Yk;clear hy aO))
  have lI:=ab (mh.out.below (B.aN bJ.out));have HG2:Hid (wj db x.p x.mb w v w2.drew v):=Ic.out.trans (wj.below v (B.aN bJ.out));obtain ⟨wl,Rh⟩ : ∃ wl,wl=eb n.ps fr en:=⟨_,rfl⟩;rw [← Rh] at HY ⊢;obtain ⟨q,hq⟩ : ∃ q,q=min wl.length (lim - acc.length):=⟨_,rfl⟩;have FJ:=lI.out.len;have UB:=WS.out;have ab7:wl.length≤n.ps.length:=by rw [Rh];unfold eb;rw [ao,ag];omega
  have hyc:wl.length≤yc:=by obtain ⟨_,_,he,h,_⟩:=HY.out;cases he;exact h
  have qM:=fun W=>Kj W ya wl.length yc q (by omega)
  have mX:(wl.take q).length=q:=by rw [ag];omega
  have AQ:=lI.out.grow (us:=wl.take q) (s:=.slice ya q yc) Fm.out ((HY.out.below (B.aN (Below.refl _ _))).take (by omega)) (by rw [mX];have:=HRM.out;rw [← sX.out] at this;omega) (by rw [mX];omega)
  rw [mX] at AQ;obtain ⟨a',c',w3,bg,kfz,kp,kl,pW,Xx⟩:=AQ;have bM:(fu fr en lim 0 t acc).1=acc++wl.take q∧(fu fr en lim 0 t acc).2=decide (((acc.length+q:Nat):Int)<(lim:Int)):=by
   have e1:(eb t.2 fr en).take (lim - acc.length)=wl.take q:=by
    rw [← sX.out,← Rh,hq,Nat.min_comm,← List.take_eq_take_min]
   refine ⟨?_,?_⟩
   ·show acc++(eb t.2 fr en).take (lim - acc.length)=_
    rw [e1]
   ·show decide ((acc++(eb t.2 fr en).take (lim - acc.length)).length<lim)=_
    rw [e1,ae,mX];congr 1
    exact propext ⟨fun h=>by omega,fun h=>by omega⟩
  have nY:Hid (Fx base A db F d w0 tb x fr en lim lo w v M (dE 0 t) (fu fr en lim 0 t acc) (.returned (.bool (decide (((acc.length+q:Nat):Int)<(lim:Int))))) (w3.setCell ⟨x.p,0,none⟩ (.slice a' (acc.length+q) c'))):=by
   refine ⟨_,M++df (fx 0 t),by rw [bM.2],by rw [bM.1];exact pW,HG2.out.trans Xx,fun i hi=>?_,?_⟩
   ·rcases List.mem_append.1 hi with h | h
    ·exact .inl h
    ·exact .inr (Gx _ h)
   ·rw [ae];exact aj _
  have sG:=ab bg;obtain ⟨va,vc,jS⟩:=lI.out.ps.1.form;have kp2:w2.cell? ⟨x.p,0,none⟩=some v:=(mh.out.below bJ.out).row.cell 0 (by simp)
  have kl2:w2.cell? ⟨x.l,0,none⟩=some (.int .i64 (lim:Int)):=(mh.out.below bJ.out).cl;have Y8:min (wl.length:Int) ((lim:Int) - (acc.length:Int))=(q:Int):=by omega
  have kl4:(w3.setCell ⟨x.p,0,none⟩ (.slice a' (acc.length+q) c')).cell? ⟨x.l,0,none⟩=some (.int .i64 (lim:Int)):=pW.cl;have kp4:(w3.setCell ⟨x.p,0,none⟩ (.slice a' (acc.length+q) c')).cell? ⟨x.p,0,none⟩=some (.slice a' (acc.length+q) c'):=pW.row.cell 0 (by simp)
  subst jS;have ah7:(0:Int)≤(acc.length:Int):=by omega
  have ah6:(acc.length:Int)≤(lim:Int):=by omega
  have ahB:(lim:Int)≤9223372036854775807:=by omega
  have hwr:IntKind.i64.wrap ((lim:Int) - (acc.length:Int))=(lim:Int) - (acc.length:Int):=by rw [IntKind.wrap_i64];omega
  clear pW Xx bg Rh hq ab7 hyc mX hlen HS mZ HWI HY p0 VA Yk m0 m1 m2 bM RK HT sX Ic HG2 mh lI bJ HRM HDP Fm WS;go_wp2_with fail;go_region_law (first | (refine Bh rfl (.tmp 43) (.tmp 47) rfl rfl _ _ _ rfl rfl Y8 ?_) | (refine kI 63 rfl (.tmp 40) (.tmp 49) rfl rfl _ _ rfl rfl _ _ sG.out ?_))
  all_goals
   go_wp2;go_ret;exact nY.out
end
def QT(h:Nat)(t:Nd h):Prop:=(∃ lo hi,Ok h t lo hi)∧nK h t≤4072∧wL h t
theorem Yd{h:Nat}{c:Nd h}{lo hi:Option ByteArray}(hf:ld h c lo hi):QT h c:=by
 refine ⟨⟨lo,hi,hf.1⟩,hf.2.2,?_⟩;have h1:=hf.2.1;cases h with
 | zero =>
  intro e;have h1:1556≤fL c.2:=h1;rw [e,ry] at h1;omega
 | succ h =>
  intro e;have h1:1777≤fD c.2.1:=h1;rw [e] at h1;have:fD []=6:=rfl;omega
theorem vJ{h:Nat}{t:Nd (h+1)}{i:Nat}{c:Nd h}(ho:QT (h+1) t)(hc:t.2.2[i]?=some c):QT h c:=by
 obtain ⟨⟨lo,hi,ho⟩,_⟩:=ho;obtain ⟨pQ,mz,hf⟩:=kR ((fy h t lo hi).1 ho) i c hc;exact Yd hf
theorem DB{h:Nat}{t:Nd h}(ho:eW (some ⟨h,t⟩)):QT h t:=⟨⟨none,none,ho.1⟩,ho.2.1,ho.2.2⟩
def Vv:PD→Prop
 | .leaf l=>zL l true=none
 | .br f lk=>B.nB f lk true=none
theorem DC{t:Nd 0}(ho:QT 0 t):zL t.2 true=none:=by
 obtain ⟨⟨lo,hi,hr,hm⟩,hs,h1⟩:=ho;have hs:fL t.2≤4072:=hs;have h1:t.2≠[]:=h1;unfold zL;rw [if_neg (by simp only [Bool.not_eq_false,me];exact fun p hp=>(hm p hp).1),if_neg (by simpa using hr),if_neg (by omega),if_neg (by simp [h1])]
theorem IX{n:Nat}(h:n≠0):df n=[n]:=if_neg h
theorem IS{h:Nat}:∀ (cs:List (Nd h)),(∀ c ∈ cs,fx h c≠0)→(cs.map (fx h)).Sublist (cs.flatMap (dE h))
 | [],_=>List.Sublist.refl _
 | c::cs,dK=>by
  have h0:fx h c≠0:=dK c (by simp)
  have e:∃ r,dE h c=fx h c::r:=by
   cases h with
   | zero=>exact ⟨[],IX h0⟩
   | succ h=>exact ⟨_,congrArg (·++c.2.2.flatMap (dE h)) (IX h0)⟩
  obtain ⟨r,e⟩:=e;rw [List.map_cons,List.flatMap_cons,e];exact List.Sublist.cons_cons _ ((IS cs fun d hd=>dK d (by simp [hd])).trans (dC _ _))
theorem Eb{h:Nat}(ks:List ByteArray)(cs:List (Nd h))(hl:cs.length=ks.length+1):B.kids (l7 cs) (qF ks cs)=cs.map fun c=>(fx h c:Int):=by
 cases cs with
 | nil=>simp at hl
 | cons c cs =>
  show (fx h c:Int)::(ks.zip (cs.map fun c=>(fx h c:Int))).map (·.2)=(fx h c:Int)::cs.map fun c=>(fx h c:Int)
  rw [List.map_snd_zip (by rw [aA];simp at hl;omega)]
theorem BH{h:Nat}(ks:List ByteArray)(cs:List (Nd h))(hl:cs.length=ks.length+1):(qF ks cs).map (·.1)=ks:=by
 unfold qF;rw [List.map_fst_zip (by rw [aA,List.length_tail];omega)]
theorem vO{h:Nat}(ks:List ByteArray)(cs:List (Nd h))(hl:cs.length=ks.length+1):(qF ks cs).length=ks.length:=by
 have:=congrArg List.length (BH ks cs hl);rwa [aA] at this
theorem QF{h:Nat}{ks:List ByteArray}{cs:List (Nd h)}{lo hi:Option ByteArray}(ho:gX (ld h) lo hi ks cs)(hs:fD ks≤4072)(h1:ks≠[])(hr:∀ c ∈ cs,2≤fx h c∧fx h c<1048576)(hn:(cs.flatMap (dE h)).Nodup):B.nB (l7 cs) (qF ks cs) true=none:=by
 have hl:=j9 ho;have hlen:=vO ks cs hl;have hk:=BH ks cs hl;have uJ:=Eb ks cs hl;have tL:=xy ho;have oL:=jO ho;have dj:∀ x ∈ B.kids (l7 cs) (qF ks cs),2≤x∧x<1048576:=fun x hx=>by
  rw [uJ] at hx;obtain ⟨c,hc,rfl⟩:=List.mem_map.1 hx;have:=hr c hc;omega
 have hf:B.fX (l7 cs)=true:=by
  have:=dj (l7 cs) (by simp [B.kids])
  simp only [B.fX,decide_eq_true_eq];exact this
 have hm:(qF ks cs).all B.gz=true:=by
  rw [me];intro p hp;have a1:cW p.1:=tL p.1 (by rw [← hk];exact j6 hp)
  have a2:=dj p.2 (by simp only [B.kids];exact dU _ (j6 hp))
  simp only [B.gz,decide_eq_true_eq];exact ⟨a1.1,a1.2,a2⟩
 have hri:B.nO (qF ks cs):=fun i hi=>by
  rw [← hk] at oL;have:=List.pairwise_iff_getElem.1 oL i (i+1) (by rw [aA];omega) (by rw [aA];omega) (by omega)
  rwa [cd,cd] at this
 have jz:(B.kids (l7 cs) (qF ks cs)).Nodup:=by
  rw [uJ];have h2:(cs.map (fx h)).Nodup:=hn.sublist (IS cs fun c hc=>by have:=hr c hc;omega)
  have h3:(cs.map fun c=>(fx h c:Int))=(cs.map (fx h)).map fun n:Nat=>(n:Int):=by rw [eH];rfl
  rw [h3];exact List.Pairwise.map _ (fun a b Cu e=>Cu (by omega)) h2
 have cx:B.jL (qF ks cs)≤4072:=by
  have:=wH (qF ks cs);rw [hk] at this;omega
 have dK:qF ks cs≠[]:=fun e=>h1 (by rw [← hk,e];rfl)
 unfold B.nB;rw [if_neg dK,if_neg (by rw [hf,hm];simp),if_neg (by simpa using hri),if_neg (by simpa using jz),if_neg (by omega),if_neg (by simp)]
theorem AA{PG:Int→Option PD}{w:World}{P:Nat→Nat}(hP:∀ j,2≤P j∧P j<1048576){h:Nat}{p:C.Ch}{t:Nd h}(hk:eu PG w h p t)(k:Nat):2≤fx h (aW P h t k).1∧fx h (aW P h t k).1<1048576:=by
 have hid:=xM hk;by_cases h0:fx h t=0
 ·cases h with
  | zero =>
   have h0:t.1=0:=h0;simp only [aW,h0,if_true];exact hP _
  | succ h =>
   have h0:t.1=0:=h0;simp only [aW,h0,if_true];exact hP _
 ·have h2:2≤fx h t:=by
   cases p with
   | pg id =>
    have hk:gE PG h id t:=hk;cases h with
    | zero =>
     have h3:=hk.2.1;have h4:=hk.1;show 2≤t.1
     omega
    | succ h =>
     have h3:=hk.2.1;have h4:=hk.1;show 2≤t.1
     omega
   | nd b=>exact absurd hk.1 h0
  cases h with
  | zero =>
   have Lq:¬ t.1=0:=h0;simp only [aW,Lq,if_false];exact ⟨h2,hid.2⟩
  | succ h =>
   have Lq:¬ t.1=0:=h0;simp only [aW,Lq,if_false];exact ⟨h2,hid.2⟩
theorem oD{PG XH:Int→Option PD}:∀ (h:Nat) {id:Int} {t:Nd h},gE PG h id t→(∀ i ∈ dE h t,XH (i:Int)=PG (i:Int))→gE XH h id t
 | 0,id,t,hp,he=>by
  obtain ⟨h1,h2,h3⟩:=hp;have h0:t.1≠0:=by omega
  have:=he t.1 (by show t.1 ∈ df t.1;unfold df;rw [if_neg h0];simp)
  rw [h2] at this;exact ⟨h1,h2,this.trans h3⟩
 | h+1,id,t,hp,he=>by
  obtain ⟨h1,h2,f,lk,h3,h4,h5,h6⟩:=hp;have h0:t.1≠0:=by omega
  have:=he t.1 (by show t.1 ∈ df t.1++_;unfold df;rw [if_neg h0];simp)
  rw [h2] at this;refine ⟨h1,h2,f,lk,this.trans h3,h4,h5,fun i c x hc hx=>oD h (h6 i c x hc hx) fun j hj=>he j ?_⟩
  exact cz _ (List.mem_flatMap.2 ⟨c,cu hc,hj⟩)
theorem xI{PG XH:Int→Option PD}{w:World}{P:Nat→Nat}(hP:∀ j,2≤P j∧P j<1048576):∀ (h:Nat) {p:C.Ch} {t:Nd h} (k:Nat),eu PG w h p t→(∃ lo hi,Ok h t lo hi)→(∀ i ∈ dE h t,XH (i:Int)=PG (i:Int))→(∀ x ∈ (aW P h t k).2,XH (x.1:Int)=some x.2)→gE XH h (fx h (aW P h t k).1:Int) (aW P h t k).1
 | 0,p,t,k,hk,_,he,hs=>by
  cases p with
  | pg id =>
   have hk:gE PG 0 id t:=hk;have h0:¬ t.1=0:=by have:=hk.1;have:=hk.2.1;omega
   have e:(fx 0 t:Int)=id:=hk.2.1;simp only [aW,h0,if_false];rw [e];exact oD 0 hk he
  | nd b =>
   have h0:t.1=0:=hk.1;simp only [aW,h0,if_true] at hs ⊢;have h1:=hP k;exact ⟨by show 2≤(P k:Int)∧(P k:Int)<1048576;omega,rfl,hs (P k,.leaf t.2) (by simp)⟩
 | h+1,p,t,k,hk,ho,he,hs=>by
  cases p with
  | pg id =>
   have hk:gE PG (h+1) id t:=hk;have h0:¬ t.1=0:=by have:=hk.1;have:=hk.2.1;omega
   have e:(fx (h+1) t:Int)=id:=hk.2.1;simp only [aW,h0,if_false];rw [e];exact oD (h+1) hk he
  | nd b =>
   have h0:t.1=0:=hk.1;obtain ⟨_,n,pv,lv,cv,Pf,hn⟩:=hk;obtain ⟨lo,hi,ho⟩:=ho;have S4:=(fy h t lo hi).1 ho;have hl:=j9 S4;have Jh:(b9 (aW P h) t.2.2 k).1.length=t.2.1.length+1:=by rw [iE,hl]
   simp only [aW,h0,if_true] at hs ⊢;have h1:=hP (k+(b9 (aW P h) t.2.2 k).2.length);refine ⟨by show 2≤(P (k+(b9 (aW P h) t.2.2 k).2.length):Int)∧(P (k+(b9 (aW P h) t.2.2 k).2.length):Int)<1048576;omega,rfl,_,_,hs (P (k+(b9 (aW P h) t.2.2 k).2.length),.br (l7 (b9 (aW P h) t.2.2 k).1) (qF t.2.1 (b9 (aW P h) t.2.2 k).1)) (by simp),(BH _ _ Jh).symm,by show (b9 (aW P h) t.2.2 k).1.length=_;rw [vO _ _ Jh,Jh],fun i c' x uM hx=>?_⟩
   have uM:(b9 (aW P h) t.2.2 k).1[i]?=some c':=uM;rw [Eb _ _ Jh,aL,uM] at hx;simp only [kC,Option.some.injEq] at hx;have mz:i<t.2.2.length:=by
    have:=(List.getElem?_eq_some_iff.1 uM).1;rw [iE] at this;exact this
   have ML:n.us.length=t.2.2.length:=hn.1;obtain ⟨q,hq⟩ : ∃ q,n.us[i]?=some q:=⟨_,af (by omega)⟩
   have Lm:t.2.2[i]?=some t.2.2[i]:=af mz;obtain ⟨ki,g1,g2⟩:=rY (aW P h) t.2.2 k i _ Lm;rw [uM] at g1;cases g1;rw [← hx];obtain ⟨pQ,vz,hf⟩:=kR S4 i _ Lm;exact xI hP h ki (hn.pS hq Lm) ⟨pQ,vz,hf.1⟩ (fun j hj=>he j (cz _ (List.mem_flatMap.2 ⟨_,cu Lm,hj⟩))) fun y hy=>hs y (dV _ (g2 y hy))
theorem wJ{l:List Nat}{i x:Nat}(h:l[i]?=some x):(l.take (i+1)).sum=(l.take i).sum+x:=by
 rw [gm,h,List.sum_append];simp
theorem lL:∀ (l:List Nat) (i:Nat),(l.take i).sum≤l.sum
 | [],i=>by simp
 | x::l,0=>by simp
 | x::l,i+1=>by
  have:=lL l i;simp only [List.take_succ_cons,q7];omega
section
variable {PG:Int→Option PD}
theorem xB:∀ (h:Nat) (b:Nat) (t:Nd h) (w:World),eu PG w h (.nd b) t→jl h t≤1099511627776→Calls prog 290 #[.pointer (some ⟨b,0,none⟩)] w fun e w'=>e = .returned (.int .i64 (jl h t:Int))∧w=w'
 | 0,b,t,w,⟨h0,n,pv,lv,cv,hs,hn⟩,hc=>by
  have p3:=hs.c3;have hu:n.us=[]:=hn.1;obtain ⟨ca,cc,qO⟩:=hs.kids.form;rw [hu,List.length_nil] at qO;subst qO;have Lq:t.1=0:=h0;have HC:Hid (jl 0 t=1):=if_pos Lq;clear hs hn hc;go_enter func290,ntmps290;go_wp2;refine wp_loop_rounds 1 ?_
  rw [rounds_succ];go_wp2;go_ret;exact ⟨by rw [HC.out];rfl,rfl⟩
 | h+1,b,t,w,⟨h0,n,pv,lv,cv,hs,hn⟩,hc=>by
  have p3:=hs.c3;have Lq:t.1=0:=h0;have fs:jl (h+1) t=(t.2.2.map (jl h)).sum+1:=if_pos Lq;have FR:=ab fs;have HC:=ab hc;obtain ⟨ca,cc,qO,-,-,aX⟩:=hs.kids;rw [C.aR,Nat.mul_one] at qO;subst qO;have yP:=ab aX;have HK:Hid (∀ (i:Nat) (p:C.Ch) (c:Nd h),n.us[i]?=some p→t.2.2[i]?=some c→eu PG w h p c):=fun i p c h1 h2=>hn.pS h1 h2
  have HL:Hid (n.us.length≤4001∧n.us.length=t.2.2.length):=⟨hs.fine.2.2.2.2,hn.1⟩;clear hs hn aX fs hc;go_enter func290,ntmps290;go_wp2;go_loopw [3,11] (fun cv iv wr=>∃ (i:Nat),cv = .int .i64 ((((t.2.2.map (jl h)).take i).sum:Int)+1)∧iv = .int .i64 (i:Int)∧i≤n.us.length∧w=wr) (fun _ iv _=>n.us.length - (intOf iv).toNat)
  case atStart=>exact ⟨0,by simp,rfl,aD _,rfl⟩
  case round =>
   obtain ⟨i,rfl,rfl,hi,rfl⟩:=hrel;by_cases bP:i<n.us.length
   ·obtain ⟨g,o,rfl,c1⟩:=yP.out i _ (C.gI n.us i bP);have hI0:(0:Int)≤(i:Int):=by omega
    have hI1:(i:Int)<(n.us.length:Int):=by omega
    have hI2:(n.us.length:Int)≤4001:=by have:=HL.out.1;omega
    have hp:n.us[i]?=some n.us[i]:=af bP;obtain ⟨c,Lm⟩ : ∃ c,t.2.2[i]?=some c:=⟨_,af (by have:=HL.out.2;omega)⟩
    have vw:=HK.out i n.us[i] c hp Lm;have fi:((t.2.2.map (jl h)).take (i+1)).sum=((t.2.2.map (jl h)).take i).sum+jl h c:=wJ (by rw [aL,Lm];rfl)
    have hle:=lL (t.2.2.map (jl h)) (i+1);have G4:=HC.out;rw [FR.out] at G4;generalize n.us[i]=p at *;obtain ⟨S,hS⟩ : ∃ S,S=((t.2.2.map (jl h)).take i).sum:=⟨_,rfl⟩;rw [← hS] at fi ⊢;have gY:Hid (((t.2.2.map (jl h)).take (i+1)).sum=S+jl h c∧S+jl h c≤1099511627776):=⟨fi,by omega⟩
    have hsb:(S:Int)≤1099511627776:=by omega
    have xT:(0:Int)≤(S:Int):=by omega
    have Tg:jl h c≤1099511627776:=by omega
    clear yP HK hp fi hle G4 hS;cases p with
    | pg id =>
     have UQ:w.cell? ⟨g,o+i,none⟩=some (.iface 146 (.int .i64 id)):=c1;have Py:gE PG h id c:=vw;have HZ:Hid (jl h c=0):=EZ (by
      cases h with
      | zero=>have h1:=Py.1;have h2:=Py.2.1;show c.1≠0;omega
      | succ h=>have h1:=Py.1;have h2:=Py.2.1;show c.1≠0;omega)
     clear c1 vw Py;go_wp2_with fail;refine (xe id w).mono ?_
     rintro e w1 ⟨rfl,rfl⟩;go_wp2;go_roundw
     case rel=>exact ⟨i+1,by have h1:=gY.out.1;have h2:=HZ.out;rw [h1,h2];simp,by go_num,bP,trivial⟩
     case measure=>simp [intOf];omega
    | nd b2 =>
     have UQ:w.cell? ⟨g,o+i,none⟩=some (.iface 152 (.pointer (some ⟨b2,0,none⟩))):=c1;have HR:=ab (xB h b2 c w vw Tg);have Rg:(0:Int)≤(jl h c:Int):=by omega
     have sN:(S:Int)+(jl h c:Int)≤1099511627776:=by have:=gY.out.2;omega
     obtain ⟨X,hX⟩ : ∃ X,X=jl h c:=⟨_,rfl⟩;rw [← hX] at HR Rg sN gY;clear c1 vw hX Tg;go_wp2_with fail;refine HR.out.mono ?_
     rintro e w1 ⟨rfl,rfl⟩;go_wp2;go_roundw
     case rel=>exact ⟨i+1,by have h1:=gY.out.1;rw [h1];congr 1;omega,by go_num,bP,trivial⟩
     case measure=>simp [intOf];omega
   ·have hI1:¬ (i:Int)<(n.us.length:Int):=by omega
    have he:(t.2.2.map (jl h)).take i=t.2.2.map (jl h):=aq (by rw [aA];have:=HL.out.2;omega)
    have HE:Hid ((((t.2.2.map (jl h)).take i).sum:Int)+1=(jl (h+1) t:Int)):=by show _=_;rw [he,FR.out];omega
    rw [HE.out];clear he FR HK yP;go_wp2;go_ret;exact ⟨rfl,rfl⟩
end
def eG:cQ→Nat
 | none=>0
 | some x=>jl x.1 x.2
section
variable {base:Nat} {A:Nat→Addr} {db:Nat} {F:Nat→Prop} {d:S.V.bq} {W0:World} {r:cQ}
theorem qj{w:World}{tb:Nat}(hc:Ts base A db F d W0 w tb r)(hn:eG r≤1099511627776):Calls prog 20 #[.pointer (some ⟨tb,0,none⟩)] w fun e w'=>e = .returned (.int .i64 (eG r:Int))∧w=w':=by
 obtain ⟨rv,ht,zA⟩:=hc.tr;have c1:=ht.c1;clear ht hc;rcases zA with ⟨rfl,rfl⟩ | ⟨p,h,t,rfl,rfl,hp⟩
 ·have hq:=fun W=>oR W
  go_enter func20,ntmps20;go_wp2;go_ret;exact ⟨rfl,rfl⟩
 ·cases p with
  | pg id =>
   have UQ:w.cell? ⟨tb,1,none⟩=some (.iface 146 (.int .i64 id)):=c1;have hq:=fun W=>jU 146 (.int .i64 id) W
   have Py:gE (cJ d) h id t:=hp;have HZ:Hid (eG (some ⟨h,t⟩)=0):=EZ (by
    cases h with
    | zero=>have h1:=Py.1;have h2:=Py.2.1;show t.1≠0;omega
    | succ h=>have h1:=Py.1;have h2:=Py.2.1;show t.1≠0;omega)
   clear c1 hp Py;go_enter func20,ntmps20;go_wp2_with fail;refine (xe id w).mono ?_
   rintro e w1 ⟨rfl,rfl⟩;go_wp2;go_ret;exact ⟨by rw [HZ.out];rfl,rfl⟩
  | nd b =>
   have UQ:w.cell? ⟨tb,1,none⟩=some (.iface 152 (.pointer (some ⟨b,0,none⟩))):=c1;have hq:=fun W=>jU 152 (.pointer (some ⟨b,0,none⟩)) W
   have HR:=ab (xB h b t w hp hn);clear c1 hp;go_enter func20,ntmps20;go_wp2_with fail;refine HR.out.mono ?_
   rintro e w1 ⟨rfl,rfl⟩;go_wp2;go_ret;exact ⟨rfl,rfl⟩
end
def vi(w:World)(base:Nat)(v:Value)(l:List Nat):Prop :=
 w.ownsRow base 3 1 v l.length (Q.kS l)∧∀ g,v.ownBlock=some g→∃ cur,w.heap[g]?=some (.cells cur 3 (0,0))∧∀ u ∈ cur.toList,Plain u
theorem vi.nil(w:World)(base:Nat):vi w base (.slice none 0 0) []:=⟨World.ownsRow_nil _ _ _ _,fun g h=>by simp [Value.ownBlock] at h⟩
theorem vi.form{w:World}{base:Nat}{v:Value}{l:List Nat}(h:vi w base v l):∃ a c,v = .slice a l.length c:=by
 rcases h.1.2 with ⟨rfl,h0⟩ | ⟨g0,cap,cur,rfl,_⟩
 ·cases l with
  | nil=>exact ⟨_,_,rfl⟩
  | cons _ _=>simp at h0
 ·exact ⟨_,_,rfl⟩
theorem vi.dn{w:World}{base:Nat}{v:Value}{l:List Nat}(h:vi w base v l){g:Nat}(hg:v.ownBlock=some g):base≤g∧g<w.heap.size:=by
 rcases h.1.2 with ⟨rfl,h0⟩ | ⟨g0,cap,cur,rfl,mY,qh,_⟩
 ·simp [Value.ownBlock] at hg
 ·simp only [Value.ownBlock,Option.some.injEq] at hg;subst hg;exact ⟨mY,(Array.getElem?_eq_some_iff.1 qh).1⟩
theorem vi.odd{w:World}{base:Nat}{v:Value}{l:List Nat}(h:vi w base v l){g:Nat}(hg:v.ownBlock=some g):TV w g:=by
 obtain ⟨cur,h1,h2⟩:=h.2 g hg;refine ⟨fun j u hc=>?_,fun cs fr e=>?_,fun cs fr e=>?_⟩
 ·rw [cell_of_row w g j cur _ _ h1] at hc;exact (h2 u (by have:=Array.getElem?_eq_some_iff.1 hc;obtain ⟨h3,h4⟩:=this;rw [← h4];exact gH h3)).no
 ·rw [h1] at e;simp at e
 ·rw [h1] at e;simp at e
theorem vi.same{w w':World}{lo:Nat}{v:Value}{l:List Nat}(h:vi w lo v l)(hb:∀ g,v.ownBlock=some g→w'.heap[g]?=w.heap[g]?):vi w' lo v l:=by
 refine ⟨⟨h.1.1,?_⟩,fun g hg=>?_⟩
 ·rcases h.1.2 with h' | ⟨g,cap,cur,h',h1,h2,hr⟩
  ·exact .inl h'
  ·exact .inr ⟨g,cap,cur,h',h1,(hb g (by rw [h'];rfl)).trans h2,hr⟩
 ·obtain ⟨cur,h1,h2⟩:=h.2 g hg;exact ⟨cur,(hb g hg).trans h1,h2⟩
theorem xC(l:List Nat):∀ u ∈ Q.kS l,Plain u:=fun u hu=>by
 obtain ⟨n,_,rfl⟩:=List.mem_map.1 hu;exact .inr ⟨_,_,rfl⟩
theorem CG(n:Nat):∀ u ∈ (Builtin.zeroCells (Value.int .i64 0).cells n).toList,Plain u:=by
 intro u hu;simp only [Builtin.zeroCells,Value.cells] at hu;simp at hu
 obtain ⟨i,_,rfl⟩:=hu;have h:i % 1=0:=Nat.mod_one i
 first | exact .inr ⟨.i64,0,rfl⟩ | (simp [h];exact .inr ⟨.i64,0,rfl⟩)
theorem Un:(prog.info? 3).map (fun i=>(i.zero,i.size,i.bytes))=some (some (.int .i64 0),1,8):=by kernel_rfl
theorem vi.push(base:Nat)(v:Value)(l:List Nat)(p:Nat)(w:World)(h:vi w base v l)(hn:l.length≤1099511627776)(dy:base≤w.heap.size):∃ a' c' w',(Builtin.append_ #[69,69] 69 #[v,.slice (some ⟨w.heap.size,0,none⟩) 1 1]).run prog (w.alloc (.cells #[.int .i64 (p:Int)] 3)) = .ok (.slice a' (l.length+1) c') w'∧vi w' base (.slice a' (l.length+1) c') (l++[p])∧(w.alloc (.cells #[.int .i64 (p:Int)] 3)).grownBy w' v.ownBlock:=by
 obtain ⟨i0,hi,hz,cx,kU⟩:=info_parts Un;obtain ⟨W,hW⟩ : ∃ W,W=w.alloc (.cells #[.int .i64 (p:Int)] 3):=⟨_,rfl⟩;have hsW:W.heap.size=w.heap.size+1:=by rw [hW];simp
 have nz:=bN w #[.int .i64 (p:Int)] 3;rw [← hW] at nz;have ho:W.ownsRow base 3 1 v l.length (Q.kS l):=hW▸World.ownsRow.alloc h.1 _;have ik:∀ j u,([.int .i64 (p:Int)] : List Value)[j]?=some u→W.cell? ((⟨w.heap.size,0,none⟩ : Addr).add j)=some u:=fun j u hj=>by
  rw [bB,Nat.zero_add];match j,hj with
  | 0,hj=>cases hj;exact nz.2 0 (by simp)
 have La:nI W (.slice (some ⟨w.heap.size,0,none⟩) 1 1) [.int .i64 (p:Int)]:=by
  refine ⟨_,_,rfl,aj _,(fun e=>by cases e),fun j u hj=>⟨_,_,rfl,?_⟩⟩
  have:=ik j u hj;rw [bB] at this;exact this
 obtain ⟨a',c',w',hr,aE,hg⟩:=nH 69 3 (.int .i64 0) 8 Un underlying69 rfl base l.length v (Q.kS l) W ho _ [.int .i64 (p:Int)] La (by simp [Value.oneCell']) (by simp;omega) (by decide) (by omega)
 rw [aS] at hr aE;rw [← hW];have gk:w'.ownsRow base 3 1 (.slice a' (l.length+1) c') (l++[p]).length (Q.kS (l++[p])):=by
  rw [ae,Q.uD];exact aE
 have Ro:∀ u ∈ ([.int .i64 (p:Int)] : List Value),Plain u:=xC [p];suffices hh:∀ g,(Value.slice a' (l.length+1) c').ownBlock=some g→∃ cur,w'.heap[g]?=some (.cells cur 3 (0,0))∧∀ u ∈ cur.toList,Plain u from ⟨a',c',w',hr,⟨gk,hh⟩,hg⟩
 have xV:(Q.kS l).length=l.length:=by unfold Q.kS;rw [aA]
 rcases h.1.2 with ⟨rfl,h0⟩ | ⟨g0,cap,cur,rfl,mY,qh,Cn,sQ,fs,mX⟩
 ·have hq:=run_append_nil (P:=prog) W 69 69 3 i0 _ underlying69 hi hz ⟨w.heap.size,0,none⟩ 1 1 _ (by rw [cx];rfl) ik (by omega) (by omega) (by rw [kU];omega)
  rw [hq] at hr;simp only [Result.ok.injEq,Value.slice.injEq] at hr;obtain ⟨⟨rfl,-,-⟩,rfl⟩:=hr;intro g iA;simp only [Value.ownBlock,Option.some.injEq] at iA;subst iA;refine ⟨_,heap_alloc_new (World.drew _) _,fun u hu=>?_⟩
  simp only [b6,cA] at hu;rcases hu with hu | hu
  ·exact Ro u (by simpa using hu)
  ·exact CG _ u hu
 ·have fK:W.heap[g0]?=some (.cells cur 3 (0,0)):=hW▸(heap_alloc_old w _ (Array.getElem?_eq_some_iff.1 qh).1).trans qh;have yV:∀ u ∈ cur.toList,Plain u:=by
   obtain ⟨fN,h1,h2⟩:=h.2 g0 rfl;rw [qh] at h1;simp only [Option.some.injEq,Obj.cells.injEq,and_true] at h1;subst h1;exact h2
  by_cases dZ:l.length+1≤cap
  ·have hq:=run_append_room (P:=prog) W 69 69 3 i0 underlying69 hi g0 l.length cap cur fK ⟨w.heap.size,0,none⟩ 1 1 _ (by rw [cx];rfl) ik (by intro u hu;rcases Ro u hu with ⟨q,rfl⟩ | ⟨q,x,rfl⟩ <;> rfl) dZ (by rw [cx,fs];simp;omega)
   rw [hq] at hr;simp only [Result.ok.injEq,Value.slice.injEq] at hr;obtain ⟨⟨rfl,-,-⟩,rfl⟩:=hr;intro g iA;simp only [Value.ownBlock,Option.some.injEq] at iA;subst iA;refine ⟨_,setRow_heap _ g0 cur _ _ _ fK,fun u hu=>?_⟩
   simp only [cA] at hu;rcases hu with (hu | hu) | hu
   ·exact yV u (bH hu)
   ·exact Ro u hu
   ·exact yV u (bI hu)
  ·have holds:∀ j u,(Q.kS l)[j]?=some u→W.cell? ((⟨g0,0,none⟩ : Addr).add j)=some u:=World.ownsRow.cells ho (g:=g0) rfl;have hq:=run_append_grow (P:=prog) W 69 69 3 i0 _ underlying69 hi hz ⟨g0,0,none⟩ l.length cap (Q.kS l) (by rw [cx,xV];omega) holds ⟨w.heap.size,0,none⟩ 1 1 _ (by rw [cx];rfl) ik (by omega) (by omega) (growslice_fits (by omega) (by rw [kU];omega))
   rw [hq] at hr;simp only [Result.ok.injEq,Value.slice.injEq] at hr;obtain ⟨⟨rfl,-,-⟩,rfl⟩:=hr;intro g iA;simp only [Value.ownBlock,Option.some.injEq] at iA;subst iA;refine ⟨_,heap_alloc_new (World.drew _) _,fun u hu=>?_⟩
   simp only [b6,cA] at hu;rcases hu with (hu | hu) | hu
   ·exact xC l u (by simpa using hu)
   ·exact Ro u (by simpa using hu)
   ·exact CG _ u hu
end T
end Go.Proofs.YtihmgigfkmofnaaGreatDoor
