import Derived.Test.YtihmgigfkmofnaaGreatDoorG27
import Derived.Deep.DrawnRows
set_option maxHeartbeats 4000000
set_option maxRecDepth 100000
open Go.Proofs.Tryz
namespace Go.Proofs.YtihmgigfkmofnaaGreatDoor
namespace T
open Go.RowKit
structure Bx where
 m:Nat
 mb:Nat
 t:Nat
 f:Nat
 fr:Nat
 en:Nat
 p:Nat
 l:Nat
 g:Nat
def ptr(b:Nat):Value:=.pointer (some ⟨b,0,none⟩)
def Bx.adT(x:Bx):Array Value:=#[ptr x.m,ptr x.f,ptr x.t,ptr x.fr,ptr x.en,ptr x.p,ptr x.l,ptr x.g]
structure Gs(base:Nat)(A:Nat→Addr)(db:Nat)(F:Nat→Prop)(d:S.V.bq)(w0:World)(tb:Nat)(x:Bx)(fr en:ByteArray)(lim lo:Nat)(w:World)(v:Value)(acc:List Pr)(M:List Nat):Prop where
 dv:Dv base A db F d w
 mv:Mv db F w0 w
 cm:w.cell? ⟨x.m,0,none⟩=some (.map (some x.mb))
 ct:w.cell? ⟨x.t,0,none⟩=some (ptr tb)
 cf:w.cell? ⟨x.f,0,none⟩=some .nilIface
 cfr:w.cell? ⟨x.fr,0,none⟩=some (.string fr)
 cen:w.cell? ⟨x.en,0,none⟩=some (.string en)
 cl:w.cell? ⟨x.l,0,none⟩=some (.int .i64 (lim:Int))
 cg:w.cell? ⟨x.g,0,none⟩=some (.func (.func 90) #[] x.adT)
 row:B.au w x.p #[v] 63
 ps:yk w lo v acc
 len:acc.length≤lim
 met:Met w x.mb M
 Dq:M.length<1099511627776
 ord:∀ b ∈ [x.m,x.t,x.f,x.fr,x.en,x.l,x.g,x.p,x.mb],w0.heap.size≤b∧b<lo
 no:∀ b ∈ [x.m,x.t,x.f,x.fr,x.en,x.l,x.g],b≠x.p
 Tl:db<w0.heap.size
 lo:lo≤w.heap.size
section
variable {base:Nat} {A:Nat→Addr} {db:Nat} {F:Nat→Prop} {d:S.V.bq} {w0:World} {tb:Nat} {x:Bx} {fr en:ByteArray} {lim lo:Nat} {w w':World} {v v':Value} {acc Mj:List Pr} {M M':List Nat}
theorem Gs.keep(h:Gs base A db F d w0 tb x fr en lim lo w v acc M)(hv:Dv base A db F d w')(hm:Mv db F w0 w')(hg:vJ db x.p x.mb w v w' v')(hr:B.au w' x.p #[v'] 63)(hp:yk w' lo v' Mj)(hl:Mj.length≤lim)(Zi:Met w' x.mb M')(mT:M'.length<1099511627776):Gs base A db F d w0 tb x fr en lim lo w' v' Mj M':=by
 have hb:∀ b ∈ [x.m,x.t,x.f,x.fr,x.en,x.l,x.g],∀ u,w.cell? ⟨b,0,none⟩=some u→w'.cell? ⟨b,0,none⟩=some u:=fun b hb u hc=>by
  have ho:=h.ord b (by simp only [dK,dx,or_false] at hb ⊢;rcases hb with rfl | rfl | rfl | rfl | rfl | rfl | rfl <;> simp)
  refine bB (hg.block b (World.block_lt_of_cell? w _ hc) (by have:=h.Tl;omega) (h.no b hb) (h.met.ne hc) fun e=>?_) hc
  have:=(h.ps.1.dr b e).1;omega
 exact ⟨hv,hm,hb _ (by simp) _ h.cm,hb _ (by simp) _ h.ct,hb _ (by simp) _ h.cf,hb _ (by simp) _ h.cfr,hb _ (by simp) _ h.cen,hb _ (by simp) _ h.cl,hb _ (by simp) _ h.cg,hr,hp,hl,Zi,mT,h.ord,h.no,h.Tl,ar h.lo hg.size⟩
theorem yk.mv{w w':World}(h:yk w lo v acc)(hm:Mv db F w w')(hdb:db<lo):yk w' lo v acc:=by
 have hb:∀ g,v.ownBlock=some g→w'.heap[g]?=w.heap[g]?:=fun g hg=>by
  have:=h.1.dr g hg;exact hm.one.block g this.2 (by omega)
 refine ⟨⟨h.1.1,?_⟩,fun g hg=>?_⟩
 ·rcases h.1.2 with h' | ⟨g,cap,cur,h',h1,h2,hr⟩
  ·exact .inl h'
  ·exact .inr ⟨g,cap,cur,h',h1,(hb g (by rw [h'];rfl)).trans h2,hr⟩
 ·obtain ⟨cur,h1,h2⟩:=h.2 g hg;exact ⟨cur,(hb g hg).trans h1,h2⟩
theorem Gs.go(h:Gs base A db F d w0 tb x fr en lim lo w v acc M)(hm:Mv db F w w')(hv:Dv base A db F d w'):Gs base A db F d w0 tb x fr en lim lo w' v acc M:=by
 have O8:=h.ord x.p (by simp)
 refine h.keep hv (h.mv.trans hm) (vJ.mv v hm) ?_ (h.ps.mv hm (by have:=h.Tl;omega)) h.len (h.met.same (hm.one.block x.mb h.met.lt (by have:=h.ord x.mb (by simp);have:=h.Tl;omega))) h.Dq
 exact (hm.one.block x.p h.row.lt (by have:=h.Tl;omega)).trans h.row
theorem Gs.below(h:Gs base A db F d w0 tb x fr en lim lo w v acc M)(hb:Below w.heap.size w w'):Gs base A db F d w0 tb x fr en lim lo w' v acc M:=h.go (Mv.of hb) (h.dv.below hb)
end
theorem qX{w:World}{b:Nat}{v:Value}{T:TypeId}(h:B.au w b #[v] T)(u:Value):B.au (w.setCell ⟨b,0,none⟩ u) b #[u] T:=by
 unfold B.au at h ⊢;rw [setCell_eq_setRow w b 0 #[v] T (0,0) u h];exact setRow_heap w b #[v] _ T (0,0) h
theorem yk.same{w w':World}{lo:Nat}{v:Value}{acc:List Pr}(h:yk w lo v acc)(hb:∀ g,v.ownBlock=some g→w'.heap[g]?=w.heap[g]?):yk w' lo v acc:=by
 refine ⟨⟨h.1.1,?_⟩,fun g hg=>?_⟩
 ·rcases h.1.2 with h' | ⟨g,cap,cur,h',h1,h2,hr⟩
  ·exact .inl h'
  ·exact .inr ⟨g,cap,cur,h',h1,(hb g (by rw [h'];rfl)).trans h2,hr⟩
 ·obtain ⟨cur,h1,h2⟩:=h.2 g hg;exact ⟨cur,(hb g hg).trans h1,h2⟩
section
variable {base:Nat} {A:Nat→Addr} {db:Nat} {F:Nat→Prop} {d:S.V.bq} {w0:World} {tb:Nat} {x:Bx} {fr en:ByteArray} {lim lo:Nat}
theorem Gs.grow{w:World}{v s:Value}{acc us:List Pr}{M:List Nat}(h:Gs base A db F d w0 tb x fr en lim lo w v acc M)(iF:Dv base A db F d w0)(hs:gG w s us)(hb:(acc.length+us.length)*32≤140737488355328)(hl:acc.length+us.length≤lim):∃ a' c' w',(Builtin.append_ #[63,63] 63 #[v,s]).run prog w = .ok (.slice a' (acc.length+us.length) c') w'∧w'.frozen? ⟨x.p,0,none⟩=false∧w'.cell? ⟨x.p,0,none⟩=some v∧w'.cell? ⟨x.l,0,none⟩=some (.int .i64 (lim:Int))∧Gs base A db F d w0 tb x fr en lim lo (w'.setCell ⟨x.p,0,none⟩ (.slice a' (acc.length+us.length) c')) (.slice a' (acc.length+us.length) c') (acc++us) M∧vJ db x.p x.mb w v (w'.setCell ⟨x.p,0,none⟩ (.slice a' (acc.length+us.length) c')) (.slice a' (acc.length+us.length) c'):=by
 obtain ⟨a',c',w',hr,j6,hg,aE⟩:=yk.app lo v s acc us w h.ps hs hb h.lo;have O8:=h.ord x.p (by simp)
 have fJ:∀ b,b<lo→some b≠v.ownBlock:=fun b hb e=>by
  have:=(h.ps.1.dr b e.symm).1;omega
 have bE:B.au w' x.p #[v] 63:=(hg.block x.p h.row.lt (fJ _ O8.2)).trans h.row;have dC:=bJ.set x.p 0 w' (.slice a' (acc.length+us.length) c');have pE:w.heap.size≤w'.heap.size:=hg.size;have Pn:vJ db x.p x.mb w v (w'.setCell ⟨x.p,0,none⟩ (.slice a' (acc.length+us.length) c')) (.slice a' (acc.length+us.length) c'):=⟨ar pE dC.size,fun k hk _ h2 _ h3=>(dC.block k (aq hk pE) h2).trans (hg.block k hk (fun e=>h3 e.symm)),aE⟩
 have o8:=h.lo;have nN:Below w0.heap.size w (w'.setCell ⟨x.p,0,none⟩ (.slice a' (acc.length+us.length) c')):=⟨dC.os.trans hg.os,dC.tape.trans hg.tape,dC.output.trans hg.output,ar pE dC.size,fun k hk=>(dC.block k (by omega) (by omega)).trans (hg.block k (by omega) (fJ k (by omega)))⟩
 obtain ⟨GW,K0⟩:=h.dv.grown nN h.mv iF;have hlx:=h.ord x.l (by simp)
 refine ⟨a',c',w',hr,by unfold B.au at bE;simp [World.frozen?,bE],bE.cell 0 (by simp),bB (hg.block x.l (World.block_lt_of_cell? w _ h.cl) (fJ _ hlx.2)) h.cl,h.keep GW K0 Pn (qX bE _) (j6.same fun g GR=>?_) (by rw [ae];exact hl) (h.met.same ((dC.block x.mb (aq h.met.lt pE) (h.met.ne (h.row.cell 0 (by simp))).symm).trans (hg.block x.mb h.met.lt (fJ _ (h.ord x.mb (by simp)).2)))) h.Dq,Pn⟩
 have:=j6.1.dr g GR;exact dC.block g this.2 (by omega)
theorem Gs.meet{w w':World}{v:Value}{acc:List Pr}{M M':List Nat}(h:Gs base A db F d w0 tb x fr en lim lo w v acc M)(iF:Dv base A db F d w0)(hm:Met w' x.mb M')(mT:M'.length<1099511627776)(hg:w.grownBy w' (some x.mb)):Gs base A db F d w0 tb x fr en lim lo w' v acc M'∧vJ db x.p x.mb w v w' v:=by
 have hom:=h.ord x.mb (by simp)
 have o8:=h.lo;have pE:w.heap.size≤w'.heap.size:=hg.size;have dE:∀ k,k≠x.mb→some k≠some x.mb:=fun k hk e=>hk (Option.some.inj e)
 have Pn:vJ db x.p x.mb w v w' v:=⟨pE,fun k hk _ _ h3 _=>hg.block k hk (dE k h3),fun _ h=>.inl h⟩
 have nN:Below w0.heap.size w w':=⟨hg.os,hg.tape,hg.output,pE,fun k hk=>hg.block k (by omega) (dE k (by omega))⟩
 obtain ⟨GW,K0⟩:=h.dv.grown nN h.mv iF;refine ⟨h.keep GW K0 Pn ((hg.block x.p h.row.lt (dE _ (h.met.ne (h.row.cell 0 (by simp))))).trans h.row) (h.ps.same fun g GR=>?_) h.len hm mT,Pn⟩
 have:=h.ps.1.dr g GR;exact hg.block g this.2 (dE _ (by omega))
end
def Mi(ks:List ByteArray):Nat→Option ByteArray
 | 0=>none
 | j+1=>ks[j]?
theorem z6:∀ (l:List ByteArray) (lo:Option ByteArray) (k:ByteArray),iV lo (l++[k])=some k
 | [],_,_=>rfl
 | _::l,_,k=>z6 l _ k
theorem Om(ks:List ByteArray)(q:Nat)(hq:q≤ks.length):iV none (ks.take q)=Mi ks q:=by
 cases q with
 | zero=>simp [iV,Mi]
 | succ j =>
  have hj:j<ks.length:=by omega
  rw [gm,af hj];show iV none (ks.take j++[ks[j]])=ks[j]?
  rw [z6,af hj]
theorem TD(lk:List B.Lk)(i:Nat)(en:ByteArray)(hi:i≤lk.length):Ai lk i en=ye en (Mi (lk.map (·.1)) i):=by
 cases i with
 | zero=>rfl
 | succ j =>
  have hj:j<lk.length:=by omega
  show (if en=⟨#[]⟩ then false else match lk[j]? with | some p=>!cR p.1 en | none=>false)=ye en ((lk.map (·.1))[j]?)
  rw [aM,af hj];simp only [j7,ye];by_cases h:en=⟨#[]⟩
  ·simp [h]
  ·simp [h]
theorem Lq{α:Type}(g:α→List Pr→List Pr × Bool)(en:ByteArray)(ks:List ByteArray)(cs:List α)(i:Nat)(acc:List Pr)(hi:cs.length≤i):lE g en (Mi ks i) (ks.drop i) (cs.drop i) acc=(acc,true):=by
 rw [dy hi];rfl
theorem G0{α:Type}(g:α→List Pr→List Pr × Bool)(en:ByteArray)(ks:List ByteArray)(cs:List α)(i:Nat)(acc:List Pr)(c:α)(hc:cs[i]?=some c):lE g en (Mi ks i) (ks.drop i) (cs.drop i) acc=if ye en (Mi ks i)=true then (acc,false) else if (g c acc).2=true then lE g en (Mi ks (i+1)) (ks.drop (i+1)) (cs.drop (i+1)) (g c acc).1 else ((g c acc).1,false):=by
 obtain ⟨hi,hv⟩:=List.getElem?_eq_some_iff.1 hc;rw [aZ hi,hv];show (if ye en (Mi ks i)=true then (acc,false) else if (g c acc).2=true then lE g en (ks.drop i).head? (ks.drop i).tail (cs.drop (i+1)) (g c acc).1 else ((g c acc).1,false))=_
 rw [List.head?_drop,List.tail_drop];rfl
theorem NX{lk:List B.Lk}{key:ByteArray}{q:Nat}(hp:B.fE lk key q)(hs:(lk.map (·.1)).Pairwise fun a b=>cR a b=true):(lk.map (·.1)).findIdx (fun k=>cR key k)=q:=by
 obtain ⟨h1,h2⟩:=mQ hp hs;have hq:q≤(lk.map (·.1)).length:=by rw [az];exact hp.1
 rw [← aH q (lk.map (·.1)),List.findIdx_append];have e1:((lk.map (·.1)).take q).findIdx (fun k=>cR key k)=((lk.map (·.1)).take q).length:=List.findIdx_eq_length.2 fun k hk=>h1 k hk
 rw [if_neg (by rw [e1];exact Nat.lt_irrefl _),ag,a7 hq]
 cases hd:(lk.map (·.1)).drop q with
 | nil=>simp
 | cons k r =>
  have:=h2 k (by rw [hd];rfl)
  rw [lh,this];simp
theorem Lp{fr en:ByteArray}{lim h q:Nat}{t:Nd (h+1)}{lk:List B.Lk}(acc:List Pr)(hk:t.2.1=lk.map (·.1))(hp:B.fE lk fr q)(hs:t.2.1.Pairwise fun a b=>cR a b=true):fo fr en lim (h+1) t acc=lE (fo fr en lim h) en (Mi t.2.1 q) (t.2.1.drop q) (t.2.2.drop q) acc:=by
 show lE _ en (iV none (t.2.1.take (t.2.1.findIdx fun k=>cR fr k))) _ _ acc=_
 have e:(t.2.1.findIdx fun k=>cR fr k)=q:=by rw [hk];exact NX hp (by rw [← hk];exact hs)
 rw [e,Om _ _ (by rw [hk,az];exact hp.1)]
theorem wK{h:Nat}{cs:List (Nd h)}{i:Nat}{c:Nd h}(hc:cs[i]?=some c):(cs.take (i+1)).flatMap (dB h)=(cs.take i).flatMap (dB h)++dB h c:=by
 rw [gm,hc,aR];simp
theorem IF{h:Nat}{cs:List (Nd h)}(i:Nat):((cs.take i).flatMap (dB h)).Sublist (cs.flatMap (dB h)):=by
 conv=>rhs;rw [← aH i cs]
 rw [aR];exact List.sublist_append_left _ _
theorem IG{h:Nat}{t:Nd (h+1)}{i:Nat}{c:Nd h}(hc:t.2.2[i]?=some c)(hn:(dB (h+1) t).Nodup):(dB h c).Nodup∧∀ j ∈ dB h c,j ∉ cY t.1∧j ∉ (t.2.2.take i).flatMap (dB h):=by
 have hn:(cY t.1++t.2.2.flatMap (dB h)).Nodup:=hn;have h1:(cY t.1++((t.2.2.take i).flatMap (dB h)++dB h c)).Nodup:=hn.sublist (by rw [← wK hc];exact List.Sublist.append_left (IF _) _)
 obtain ⟨_,h2,h3⟩:=List.nodup_append.1 h1;obtain ⟨_,h4,h5⟩:=List.nodup_append.1 h2;refine ⟨h4,fun j hj=>⟨fun h=>h3 j h j (cd _ hj) rfl,fun h=>h5 j h j hj rfl⟩⟩
theorem R4(w:World)(m n:Int):(Builtin.min_ #[3,3] 3 #[.int .i64 m,.int .i64 n]).run prog w = .ok (.int .i64 (min m n)) w:=by
 simp [Builtin.min_,Builtin.min2]
 split <;> omega
theorem AX{ops:Array Oper}{o:Oper}{a:Act}{w:World}{K:Act→World→Prop}{Q:Exit→Act→World→Prop}{E:Prop}(nx:o.guard=none)(x y:Operand)
  (ho:o.op = .call { callee:=.builtin .min,args:=#[x,y],argTypes:=#[3,3] }) (yS:o.type=3) (m n r:Int) (hx:a.eval x = .int .i64 m) (hy:a.eval y = .int .i64 n) (hr:min m n=r)
  (h:K (a.put o.dst (.int .i64 r)) w):if Region.wanted o (yielded ops a.tmps)=true then Oper.wp prog o a w K Q else E:=by
 have hw:Region.wanted o (yielded ops a.tmps)=true:=by simp [Region.wanted,nx]
 rw [if_pos hw];unfold Oper.wp;simp [execOp,ho,resolve,invoke,builtin,hx,hy,yS,R4,Result.andThen,hr]
 exact h
attribute [local go_sem ↓] Go.wp_at_zero Go.wp_at_succ
theorem xo{PG:Int→Option PD}{w:World}{h:Nat}{p:C.Ch}{t:Nd h}(hk:eh PG w h p t):SA p=(ft h t:Int)∧ft h t<1048576:=by
 cases p with
 | pg id =>
  have hk:gA PG h id t:=hk;cases h with
  | zero =>
   obtain ⟨h1,h2,_⟩:=hk;have e:(ft 0 t:Int)=id:=h2;exact ⟨e.symm,by omega⟩
  | succ h =>
   obtain ⟨h1,h2,_⟩:=hk;have e:(ft (h+1) t:Int)=id:=h2;exact ⟨e.symm,by omega⟩
 | nd b =>
  have h0:ft h t=0:=hk.1;exact ⟨by rw [h0];rfl,by omega⟩
theorem Gd{h:Nat}{t:Nd h}:∀ i ∈ cY (ft h t),i ∈ dB h t:=fun i hi=>by
 cases h with
 | zero=>exact hi
 | succ h=>exact dR _ hi
theorem IN{h:Nat}{t:Nd h}:(cY (ft h t)).length≤(dB h t).length:=by
 cases h with
 | zero=>exact aj _
 | succ h =>
  show (cY t.1).length≤(cY t.1++_).length
  rw [ae];omega
section
variable {base:Nat} {A:Nat→Addr} {db:Nat} {F:Nat→Prop} {d:S.V.bq} {w0:World} {tb:Nat} {x:Bx} {fr en:ByteArray} {lim lo:Nat}
theorem Gs.again{h:Nat}{p:C.Ch}{t:Nd h}{w:World}{v:Value}{acc:List Pr}{M:List Nat}(hg:Gs base A db F d w0 tb x fr en lim lo w v acc M)(iF:Dv base A db F d w0)(hk:eh (cM d) w0 h p t)(lK:∀ i ∈ dB h t,i ∉ M)(mT:M.length+(dB h t).length<1099511627776):Calls prog 91 #[.map (some x.mb),p.val] w fun e w'=>e = .returned (.bool false)∧Gs base A db F d w0 tb x fr en lim lo w' v acc (M++cY (ft h t))∧vJ db x.p x.mb w v w' v:=by
 obtain ⟨h1,h2⟩:=xo hk;have fJ:decide (ft h t ∈ M)=false:=by
  rw [decide_eq_false_iff_not];intro hm;have h3:=hg.met.ok _ hm;refine lK _ (Gd _ ?_) hm;unfold cY;rw [if_neg (by omega)]
  simp
 refine (rp p (ft h t) h1 h2 x.mb M w hg.met hg.Dq).mono ?_
 rintro e w' ⟨rfl,hm,As⟩;rw [IW] at hm;have hl:=IN (t:=t);obtain ⟨g1,g2⟩:=hg.meet iF hm (by rw [ae];omega) As
 exact ⟨by rw [fJ],g1,g2⟩
def E6(base:Nat)(A:Nat→Addr)(db:Nat)(F:Nat→Prop)(d:S.V.bq)(w0:World)(tb:Nat)(x:Bx)(fr en:ByteArray)(lim lo:Nat)(w:World)(v:Value)(M P:List Nat)(r:List Pr × Bool)(e:Ending)(w':World):Prop :=
 ∃ v' M',e = .returned (.bool r.2)∧Gs base A db F d w0 tb x fr en lim lo w' v' r.1 M'∧vJ db x.p x.mb w v w' v'∧(∀ i ∈ M',i ∈ M∨i ∈ P)∧M'.length≤M.length+P.length
theorem Ei{rv:Value}(iF:Dv base A db F d w0)(GG:B.au w0 tb #[.pointer (some ⟨db,0,none⟩),rv] 100)(p:C.Ch)(t:Nd 0)(dp:Nat)(w:World)(v:Value)(acc:List Pr)(M:List Nat)(hk:eh (cM d) w0 0 p t)(nx:jl ⟨0,t⟩)(h:Gs base A db F d w0 tb x fr en lim lo w v acc M)(Pu:dp≤64)(UA:lim≤9223372036854775807)(dW:(acc.length+t.2.length)*32≤140737488355328)(lK:∀ i ∈ dB 0 t,i ∉ M)(mT:M.length+(dB 0 t).length<1099511627776):Calls prog 90 #[p.val,.int .i64 (dp:Int),.pointer (some ⟨x.m,0,none⟩),.pointer (some ⟨x.f,0,none⟩),.pointer (some ⟨x.t,0,none⟩),.pointer (some ⟨x.fr,0,none⟩),.pointer (some ⟨x.en,0,none⟩),.pointer (some ⟨x.p,0,none⟩),.pointer (some ⟨x.l,0,none⟩),.pointer (some ⟨x.g,0,none⟩)] w (E6 base A db F d w0 tb x fr en lim lo w v M (dB 0 t) (fo fr en lim 0 t acc)):=by
 have H8:=ab (h.again iF hk lK mT);have vG:Hid (∀ W,Gs base A db F d w0 tb x fr en lim lo W v acc (M++cY (ft 0 t))→Calls prog 92 #[.pointer (some ⟨tb,0,none⟩),p.val,.int .i64 (dp:Int)] W fun e w'=>(lI (oP d w0) A ⟨0,t⟩ e w'∧True)∧Dv base A db F d w'∧Mv db F W w'):=fun W hW=>by
  have aw:=hW.mv.cC iF;refine (qe (oP d w0) p ⟨0,t⟩ tb rv dp W ⟨⟨hk,nx⟩,.inl aw⟩ (dU aw GG) hW.dv (.inr Pu)).mono ?_
  rintro e w' ⟨⟨h1,_⟩,h2,h3⟩;exact ⟨⟨h1,trivial⟩,h2,h3⟩
 obtain ⟨pt,px,iS⟩:=bM p;rw [iS] at vG H8 ⊢;have k0:w.cell? ⟨x.m,0,none⟩=some (.map (some x.mb)):=h.cm;have HRM:=ab dW;have HDP:=ab Pu;have QJ:=ab iF;have WS:=ab UA;have Rz:=ab mT;clear h hk nx iF GG iS Pu dW UA lK mT;go_enter func90,ntmps90;go_wp2_with fail;refine H8.out.mono ?_
 rintro e wa ⟨rfl,yY,OW⟩;have k1:wa.cell? ⟨x.t,0,none⟩=some (.pointer (some ⟨tb,0,none⟩)):=yY.ct;have Cg:=ab (vG.out wa yY);have HS:=ab yY;have HT:=ab OW;clear yY OW vG H8 k0;go_wp2_with fail;refine Cg.out.mono ?_
 rintro e w1 ⟨⟨DW,_⟩,fI,fK⟩;rcases DW with ⟨hE,_⟩ | ⟨b,n,pv,lv,cv,rfl,hs,hn⟩
 ·exact (hE:False).elim
 ·have lT:=ab (HS.out.go fK fI);have Hy:Hid (vJ db x.p x.mb w v w1 v):=HT.out.trans (vJ.mv v fK);have j6:n.ps=t.2:=hn.1.1.2;have h0:n.us.length=0:=by have h9:n.us=[]:=hn.1.1.1;rw [h9];rfl
  have su:=ab (cB b n pv lv cv w1 hs);rw [show decide (n.us.length=0)=true by simp [h0]] at su
  have hlen:n.ps.length≤4000:=hs.fine.2.1;have HWI:Hid (∀ W,Below w1.heap.size w1 W→Calls prog 94 #[pv,.string fr,.string en] W fun e w'=>∃ a c,e = .returned (.slice a (dX n.ps fr en).length c)∧gG w' (.slice a (dX n.ps fr en).length c) (dX n.ps fr en)∧Below w1.heap.size w1 w'):=fun W hW=>(FA pv n.ps fr en W (by omega) (hs.iy.below hW)).mono fun e w' ⟨a,c,h1,h2,h3⟩=>⟨a,c,h1,h2,Below.next hW h3⟩
  have p0:=hs.c0;have VC:=lT.out.cfr;have Yq:=lT.out.cen;have sr:=ab j6;obtain ⟨xa,xc,Bo⟩:=hs.iy.form;subst Bo;clear fI fK Cg hs hn h0 j6 k1;go_wp2_with fail;refine su.out.mono ?_
  rintro e w1' ⟨rfl,rfl⟩;go_wp2_with fail;go_region_held3 (fun w'=>w'.cell? ⟨b,0,none⟩=some (.slice xa n.ps.length xc)∧w'.cell? ⟨x.fr,0,none⟩=some (.string fr)∧w'.cell? ⟨x.en,0,none⟩=some (.string en)) (go_keep)
   (first
    | (go_at_call 94;refine (HWI.out _ (by first | exact Below.refl _ _ | exact B.aO (Below.refl _ _))).mono ?_;rintro e w2 ⟨ya,yc,rfl,hy,aU⟩;have HY:=ab hy;have bH:=ab aU;have m0:=(aU.cell (p:=⟨b,0,none⟩) (World.block_lt_of_cell? w1 _ p0)).trans p0;have m1:=(aU.cell (p:=⟨x.fr,0,none⟩) (World.block_lt_of_cell? w1 _ VC)).trans VC;have m2:=(aU.cell (p:=⟨x.en,0,none⟩) (World.block_lt_of_cell? w1 _ Yq)).trans Yq;clear hy aU))
  have ll:=ab (lT.out.below (B.aO bH.out));have HG2:Hid (vJ db x.p x.mb w v w2.drew v):=Hy.out.trans (vJ.below v (B.aO bH.out));obtain ⟨wl,Q5⟩ : ∃ wl,wl=dX n.ps fr en:=⟨_,rfl⟩;rw [← Q5] at HY ⊢;obtain ⟨q,hq⟩ : ∃ q,q=min wl.length (lim - acc.length):=⟨_,rfl⟩;have Fm:=ll.out.len;have UA:=WS.out;have acw:wl.length≤n.ps.length:=by rw [Q5];unfold dX;rw [ao,ag];omega
  have hyc:wl.length≤yc:=by obtain ⟨_,_,he,h,_⟩:=HY.out;cases he;exact h
  have qq:=fun W=>J6 W ya wl.length yc q (by omega)
  have mH:(wl.take q).length=q:=by rw [ag];omega
  have As:=ll.out.grow (us:=wl.take q) (s:=.slice ya q yc) QJ.out ((HY.out.below (B.aO (Below.refl _ _))).take (by omega)) (by rw [mH];have:=HRM.out;rw [← sr.out] at this;omega) (by rw [mH];omega)
  rw [mH] at As;obtain ⟨a',c',w3,bn,kfz,kp,kl,pE,Xw⟩:=As;have b8:(fo fr en lim 0 t acc).1=acc++wl.take q∧(fo fr en lim 0 t acc).2=decide (((acc.length+q:Nat):Int)<(lim:Int)):=by
   have e1:(dX t.2 fr en).take (lim - acc.length)=wl.take q:=by
    rw [← sr.out,← Q5,hq,Nat.min_comm,← List.take_eq_take_min]
   refine ⟨?_,?_⟩
   ·show acc++(dX t.2 fr en).take (lim - acc.length)=_
    rw [e1]
   ·show decide ((acc++(dX t.2 fr en).take (lim - acc.length)).length<lim)=_
    rw [e1,ae,mH];congr 1
    exact propext ⟨fun h=>by omega,fun h=>by omega⟩
  have mB:Hid (E6 base A db F d w0 tb x fr en lim lo w v M (dB 0 t) (fo fr en lim 0 t acc) (.returned (.bool (decide (((acc.length+q:Nat):Int)<(lim:Int))))) (w3.setCell ⟨x.p,0,none⟩ (.slice a' (acc.length+q) c'))):=by
   refine ⟨_,M++cY (ft 0 t),by rw [b8.2],by rw [b8.1];exact pE,HG2.out.trans Xw,fun i hi=>?_,?_⟩
   ·rcases List.mem_append.1 hi with h | h
    ·exact .inl h
    ·exact .inr (Gd _ h)
   ·rw [ae];exact aj _
  have rV:=ab bn;obtain ⟨va,vc,kL⟩:=ll.out.ps.1.form;have kp2:w2.cell? ⟨x.p,0,none⟩=some v:=(lT.out.below bH.out).row.cell 0 (by simp)
  have kl2:w2.cell? ⟨x.l,0,none⟩=some (.int .i64 (lim:Int)):=(lT.out.below bH.out).cl;have Zk:min (wl.length:Int) ((lim:Int) - (acc.length:Int))=(q:Int):=by omega
  have kl4:(w3.setCell ⟨x.p,0,none⟩ (.slice a' (acc.length+q) c')).cell? ⟨x.l,0,none⟩=some (.int .i64 (lim:Int)):=pE.cl;have kp4:(w3.setCell ⟨x.p,0,none⟩ (.slice a' (acc.length+q) c')).cell? ⟨x.p,0,none⟩=some (.slice a' (acc.length+q) c'):=pE.row.cell 0 (by simp)
  subst kL;have aiD:(0:Int)≤(acc.length:Int):=by omega
  have aiC:(acc.length:Int)≤(lim:Int):=by omega
  have ah7:(lim:Int)≤9223372036854775807:=by omega
  have hwr:IntKind.i64.wrap ((lim:Int) - (acc.length:Int))=(lim:Int) - (acc.length:Int):=by rw [IntKind.wrap_i64];omega
  clear pE Xw bn Q5 hq acw hyc mH hlen HS su HWI HY p0 VC Yq m0 m1 m2 b8 Rz HT sr Hy HG2 lT ll bH HRM HDP QJ WS;go_wp2_with fail;go_region_law (first | (refine AX rfl (.tmp 43) (.tmp 47) rfl rfl _ _ _ rfl rfl Zk ?_) | (refine kj 63 rfl (.tmp 40) (.tmp 49) rfl rfl _ _ rfl rfl _ _ rV.out ?_))
  all_goals
   go_wp2;go_ret;exact mB.out
end
def QE(h:Nat)(t:Nd h):Prop:=(∃ lo hi,Ok h t lo hi)∧np h t≤4072∧vZ h t
theorem Yi{h:Nat}{c:Nd h}{lo hi:Option ByteArray}(hf:kO h c lo hi):QE h c:=by
 refine ⟨⟨lo,hi,hf.1⟩,hf.2.2,?_⟩;have h1:=hf.2.1;cases h with
 | zero =>
  intro e;have h1:1556≤fR c.2:=h1;rw [e,qT] at h1;omega
 | succ h =>
  intro e;have h1:1777≤fB c.2.1:=h1;rw [e] at h1;have:fB []=6:=rfl;omega
theorem vi{h:Nat}{t:Nd (h+1)}{i:Nat}{c:Nd h}(ho:QE (h+1) t)(hc:t.2.2[i]?=some c):QE h c:=by
 obtain ⟨⟨lo,hi,ho⟩,_⟩:=ho;obtain ⟨pz,mh,hf⟩:=kD ((fu h t lo hi).1 ho) i c hc;exact Yi hf
theorem Df{h:Nat}{t:Nd h}(ho:eP (some ⟨h,t⟩)):QE h t:=⟨⟨none,none,ho.1⟩,ho.2.1,ho.2.2⟩
def Vx:PD→Prop
 | .leaf l=>zh l true=none
 | .br f lk=>B.mX f lk true=none
theorem Dg{t:Nd 0}(ho:QE 0 t):zh t.2 true=none:=by
 obtain ⟨⟨lo,hi,hr,hm⟩,hs,h1⟩:=ho;have hs:fR t.2≤4072:=hs;have h1:t.2≠[]:=h1;unfold zh;rw [if_neg (by simp only [Bool.not_eq_false,lS];exact fun p hp=>(hm p hp).1),if_neg (by simpa using hr),if_neg (by omega),if_neg (by simp [h1])]
theorem IP{n:Nat}(h:n≠0):cY n=[n]:=if_neg h
theorem IJ{h:Nat}:∀ (cs:List (Nd h)),(∀ c ∈ cs,ft h c≠0)→(cs.map (ft h)).Sublist (cs.flatMap (dB h))
 | [],_=>List.Sublist.refl _
 | c::cs,dE=>by
  have h0:ft h c≠0:=dE c (by simp)
  have e:∃ r,dB h c=ft h c::r:=by
   cases h with
   | zero=>exact ⟨[],IP h0⟩
   | succ h=>exact ⟨_,congrArg (·++c.2.2.flatMap (dB h)) (IP h0)⟩
  obtain ⟨r,e⟩:=e;rw [List.map_cons,List.flatMap_cons,e];exact List.Sublist.cons_cons _ ((IJ cs fun d hd=>dE d (by simp [hd])).trans (dz _ _))
theorem DQ{h:Nat}(ks:List ByteArray)(cs:List (Nd h))(hl:cs.length=ks.length+1):B.kids (lN cs) (qj ks cs)=cs.map fun c=>(ft h c:Int):=by
 cases cs with
 | nil=>simp at hl
 | cons c cs =>
  show (ft h c:Int)::(ks.zip (cs.map fun c=>(ft h c:Int))).map (·.2)=(ft h c:Int)::cs.map fun c=>(ft h c:Int)
  rw [List.map_snd_zip (by rw [az];simp at hl;omega)]
theorem Bl{h:Nat}(ks:List ByteArray)(cs:List (Nd h))(hl:cs.length=ks.length+1):(qj ks cs).map (·.1)=ks:=by
 unfold qj;rw [List.map_fst_zip (by rw [az,List.length_tail];omega)]
theorem vq{h:Nat}(ks:List ByteArray)(cs:List (Nd h))(hl:cs.length=ks.length+1):(qj ks cs).length=ks.length:=by
 have:=congrArg List.length (Bl ks cs hl);rwa [az] at this
theorem Qq{h:Nat}{ks:List ByteArray}{cs:List (Nd h)}{lo hi:Option ByteArray}(ho:gR (kO h) lo hi ks cs)(hs:fB ks≤4072)(h1:ks≠[])(hr:∀ c ∈ cs,2≤ft h c∧ft h c<1048576)(hn:(cs.flatMap (dB h)).Nodup):B.mX (lN cs) (qj ks cs) true=none:=by
 have hl:=jO ho;have hlen:=vq ks cs hl;have hk:=Bl ks cs hl;have tY:=DQ ks cs hl;have sZ:=wU ho;have oz:=jC ho;have df:∀ x ∈ B.kids (lN cs) (qj ks cs),2≤x∧x<1048576:=fun x hx=>by
  rw [tY] at hx;obtain ⟨c,hc,rfl⟩:=List.mem_map.1 hx;have:=hr c hc;omega
 have hf:B.fX (lN cs)=true:=by
  have:=df (lN cs) (by simp [B.kids])
  simp only [B.fX,decide_eq_true_eq];exact this
 have hm:(qj ks cs).all B.gy=true:=by
  rw [lS];intro p hp;have a1:cQ p.1:=sZ p.1 (by rw [← hk];exact jK hp)
  have a2:=df p.2 (by simp only [B.kids];exact dQ _ (jK hp))
  simp only [B.gy,decide_eq_true_eq];exact ⟨a1.1,a1.2,a2⟩
 have hri:B.nz (qj ks cs):=fun i hi=>by
  rw [← hk] at oz;have:=List.pairwise_iff_getElem.1 oz i (i+1) (by rw [az];omega) (by rw [az];omega) (by omega)
  rwa [bZ,bZ] at this
 have jo:(B.kids (lN cs) (qj ks cs)).Nodup:=by
  rw [tY];have h2:(cs.map (ft h)).Nodup:=hn.sublist (IJ cs fun c hc=>by have:=hr c hc;omega)
  have h3:(cs.map fun c=>(ft h c:Int))=(cs.map (ft h)).map fun n:Nat=>(n:Int):=by rw [eF];rfl
  rw [h3];exact List.Pairwise.map _ (fun a b Cb e=>Cb (by omega)) h2
 have b7:B.jM (qj ks cs)≤4072:=by
  have:=vV (qj ks cs);rw [hk] at this;omega
 have dE:qj ks cs≠[]:=fun e=>h1 (by rw [← hk,e];rfl)
 unfold B.mX;rw [if_neg dE,if_neg (by rw [hf,hm];simp),if_neg (by simpa using hri),if_neg (by simpa using jo),if_neg (by omega),if_neg (by simp)]
theorem Ac{PG:Int→Option PD}{w:World}{P:Nat→Nat}(hP:∀ j,2≤P j∧P j<1048576){h:Nat}{p:C.Ch}{t:Nd h}(hk:eh PG w h p t)(k:Nat):2≤ft h (aW P h t k).1∧ft h (aW P h t k).1<1048576:=by
 have hid:=xo hk;by_cases h0:ft h t=0
 ·cases h with
  | zero =>
   have h0:t.1=0:=h0;simp only [aW,h0,if_true];exact hP _
  | succ h =>
   have h0:t.1=0:=h0;simp only [aW,h0,if_true];exact hP _
 ·have h2:2≤ft h t:=by
   cases p with
   | pg id =>
    have hk:gA PG h id t:=hk;cases h with
    | zero =>
     have h3:=hk.2.1;have h4:=hk.1;show 2≤t.1
     omega
    | succ h =>
     have h3:=hk.2.1;have h4:=hk.1;show 2≤t.1
     omega
   | nd b=>exact absurd hk.1 h0
  cases h with
  | zero =>
   have Ll:¬ t.1=0:=h0;simp only [aW,Ll,if_false];exact ⟨h2,hid.2⟩
  | succ h =>
   have Ll:¬ t.1=0:=h0;simp only [aW,Ll,if_false];exact ⟨h2,hid.2⟩
theorem oj{PG XG:Int→Option PD}:∀ (h:Nat) {id:Int} {t:Nd h},gA PG h id t→(∀ i ∈ dB h t,XG (i:Int)=PG (i:Int))→gA XG h id t
 | 0,id,t,hp,he=>by
  obtain ⟨h1,h2,h3⟩:=hp;have h0:t.1≠0:=by omega
  have:=he t.1 (by show t.1 ∈ cY t.1;unfold cY;rw [if_neg h0];simp)
  rw [h2] at this;exact ⟨h1,h2,this.trans h3⟩
 | h+1,id,t,hp,he=>by
  obtain ⟨h1,h2,f,lk,h3,h4,h5,h6⟩:=hp;have h0:t.1≠0:=by omega
  have:=he t.1 (by show t.1 ∈ cY t.1++_;unfold cY;rw [if_neg h0];simp)
  rw [h2] at this;refine ⟨h1,h2,f,lk,this.trans h3,h4,h5,fun i c x hc hx=>oj h (h6 i c x hc hx) fun j hj=>he j ?_⟩
  exact cd _ (List.mem_flatMap.2 ⟨c,cG hc,hj⟩)
theorem xl{PG XG:Int→Option PD}{w:World}{P:Nat→Nat}(hP:∀ j,2≤P j∧P j<1048576):∀ (h:Nat) {p:C.Ch} {t:Nd h} (k:Nat),eh PG w h p t→(∃ lo hi,Ok h t lo hi)→(∀ i ∈ dB h t,XG (i:Int)=PG (i:Int))→(∀ x ∈ (aW P h t k).2,XG (x.1:Int)=some x.2)→gA XG h (ft h (aW P h t k).1:Int) (aW P h t k).1
 | 0,p,t,k,hk,_,he,hs=>by
  cases p with
  | pg id =>
   have hk:gA PG 0 id t:=hk;have h0:¬ t.1=0:=by have:=hk.1;have:=hk.2.1;omega
   have e:(ft 0 t:Int)=id:=hk.2.1;simp only [aW,h0,if_false];rw [e];exact oj 0 hk he
  | nd b =>
   have h0:t.1=0:=hk.1;simp only [aW,h0,if_true] at hs ⊢;have h1:=hP k;exact ⟨by show 2≤(P k:Int)∧(P k:Int)<1048576;omega,rfl,hs (P k,.leaf t.2) (by simp)⟩
 | h+1,p,t,k,hk,ho,he,hs=>by
  cases p with
  | pg id =>
   have hk:gA PG (h+1) id t:=hk;have h0:¬ t.1=0:=by have:=hk.1;have:=hk.2.1;omega
   have e:(ft (h+1) t:Int)=id:=hk.2.1;simp only [aW,h0,if_false];rw [e];exact oj (h+1) hk he
  | nd b =>
   have h0:t.1=0:=hk.1;obtain ⟨_,n,pv,lv,cv,SJ,hn⟩:=hk;obtain ⟨lo,hi,ho⟩:=ho;have O9:=(fu h t lo hi).1 ho;have hl:=jO O9;have I8:(bY (aW P h) t.2.2 k).1.length=t.2.1.length+1:=by rw [ik,hl]
   simp only [aW,h0,if_true] at hs ⊢;have h1:=hP (k+(bY (aW P h) t.2.2 k).2.length);refine ⟨by show 2≤(P (k+(bY (aW P h) t.2.2 k).2.length):Int)∧(P (k+(bY (aW P h) t.2.2 k).2.length):Int)<1048576;omega,rfl,_,_,hs (P (k+(bY (aW P h) t.2.2 k).2.length),.br (lN (bY (aW P h) t.2.2 k).1) (qj t.2.1 (bY (aW P h) t.2.2 k).1)) (by simp),(Bl _ _ I8).symm,by show (bY (aW P h) t.2.2 k).1.length=_;rw [vq _ _ I8,I8],fun i c' x ub hx=>?_⟩
   have ub:(bY (aW P h) t.2.2 k).1[i]?=some c':=ub;rw [DQ _ _ I8,aM,ub] at hx;simp only [j7,Option.some.injEq] at hx;have mh:i<t.2.2.length:=by
    have:=(List.getElem?_eq_some_iff.1 ub).1;rw [ik] at this;exact this
   have MD:n.us.length=t.2.2.length:=hn.1;obtain ⟨q,hq⟩ : ∃ q,n.us[i]?=some q:=⟨_,af (by omega)⟩
   have Le:t.2.2[i]?=some t.2.2[i]:=af mh;obtain ⟨ki,g1,g2⟩:=rA (aW P h) t.2.2 k i _ Le;rw [ub] at g1;cases g1;rw [← hx];obtain ⟨pz,uS,hf⟩:=kD O9 i _ Le;exact xl hP h ki (hn.qL hq Le) ⟨pz,uS,hf.1⟩ (fun j hj=>he j (cd _ (List.mem_flatMap.2 ⟨_,cG Le,hj⟩))) fun y hy=>hs y (dR _ (g2 y hy))
theorem vX{l:List Nat}{i x:Nat}(h:l[i]?=some x):(l.take (i+1)).sum=(l.take i).sum+x:=by
 rw [gm,h,List.sum_append];simp
theorem lx:∀ (l:List Nat) (i:Nat),(l.take i).sum≤l.sum
 | [],i=>by simp
 | x::l,0=>by simp
 | x::l,i+1=>by
  have:=lx l i;simp only [List.take_succ_cons,qH];omega
section
variable {PG:Int→Option PD}
theorem wX:∀ (h:Nat) (b:Nat) (t:Nd h) (w:World),eh PG w h (.nd b) t→iX h t≤1099511627776→Calls prog 290 #[.pointer (some ⟨b,0,none⟩)] w fun e w'=>e = .returned (.int .i64 (iX h t:Int))∧w=w'
 | 0,b,t,w,⟨h0,n,pv,lv,cv,hs,hn⟩,hc=>by
  have p3:=hs.c3;have hu:n.us=[]:=hn.1;obtain ⟨ca,cc,sg⟩:=hs.kids.form;rw [hu,List.length_nil] at sg;subst sg;have Ll:t.1=0:=h0;have HC:Hid (iX 0 t=1):=if_pos Ll;clear hs hn hc;go_enter func290,ntmps290;go_wp2;refine wp_loop_rounds 1 ?_
  rw [rounds_succ];go_wp2;go_ret;exact ⟨by rw [HC.out];rfl,rfl⟩
 | h+1,b,t,w,⟨h0,n,pv,lv,cv,hs,hn⟩,hc=>by
  have p3:=hs.c3;have Ll:t.1=0:=h0;have fH:iX (h+1) t=(t.2.2.map (iX h)).sum+1:=if_pos Ll;have Fv:=ab fH;have HC:=ab hc;obtain ⟨ca,cc,sg,-,-,bh⟩:=hs.kids;rw [C.aS,Nat.mul_one] at sg;subst sg;have yt:=ab bh;have HK:Hid (∀ (i:Nat) (p:C.Ch) (c:Nd h),n.us[i]?=some p→t.2.2[i]?=some c→eh PG w h p c):=fun i p c h1 h2=>hn.qL h1 h2
  have HL:Hid (n.us.length≤4001∧n.us.length=t.2.2.length):=⟨hs.fine.2.2.2.2,hn.1⟩;clear hs hn bh fH hc;go_enter func290,ntmps290;go_wp2;go_loopw [3,11] (fun cv iv wr=>∃ (i:Nat),cv = .int .i64 ((((t.2.2.map (iX h)).take i).sum:Int)+1)∧iv = .int .i64 (i:Int)∧i≤n.us.length∧w=wr) (fun _ iv _=>n.us.length - (intOf iv).toNat)
  case atStart=>exact ⟨0,by simp,rfl,aD _,rfl⟩
  case round =>
   obtain ⟨i,rfl,rfl,hi,rfl⟩:=hrel;by_cases bN:i<n.us.length
   ·obtain ⟨g,o,rfl,c1⟩:=yt.out i _ (C.fw n.us i bN);have hI0:(0:Int)≤(i:Int):=by omega
    have hI1:(i:Int)<(n.us.length:Int):=by omega
    have hI2:(n.us.length:Int)≤4001:=by have:=HL.out.1;omega
    have hp:n.us[i]?=some n.us[i]:=af bN;obtain ⟨c,Le⟩ : ∃ c,t.2.2[i]?=some c:=⟨_,af (by have:=HL.out.2;omega)⟩
    have pQ:=HK.out i n.us[i] c hp Le;have fj:((t.2.2.map (iX h)).take (i+1)).sum=((t.2.2.map (iX h)).take i).sum+iX h c:=vX (by rw [aM,Le];rfl)
    have hle:=lx (t.2.2.map (iX h)) (i+1);have GP:=HC.out;rw [Fv.out] at GP;generalize n.us[i]=p at *;obtain ⟨S,hS⟩ : ∃ S,S=((t.2.2.map (iX h)).take i).sum:=⟨_,rfl⟩;rw [← hS] at fj ⊢;have gS:Hid (((t.2.2.map (iX h)).take (i+1)).sum=S+iX h c∧S+iX h c≤1099511627776):=⟨fj,by omega⟩
    have Uq:(S:Int)≤1099511627776:=by omega
    have xB:(0:Int)≤(S:Int):=by omega
    have S3:iX h c≤1099511627776:=by omega
    clear yt HK hp fj hle GP hS;cases p with
    | pg id =>
     have UQ:w.cell? ⟨g,o+i,none⟩=some (.iface 146 (.int .i64 id)):=c1;have Pj:gA PG h id c:=pQ;have HZ:Hid (iX h c=0):=EF (by
      cases h with
      | zero=>have h1:=Pj.1;have h2:=Pj.2.1;show c.1≠0;omega
      | succ h=>have h1:=Pj.1;have h2:=Pj.2.1;show c.1≠0;omega)
     clear c1 pQ Pj;go_wp2_with fail;refine (wI id w).mono ?_
     rintro e w1 ⟨rfl,rfl⟩;go_wp2;go_roundw
     case rel=>exact ⟨i+1,by have h1:=gS.out.1;have h2:=HZ.out;rw [h1,h2];simp,by go_num,bN,trivial⟩
     case measure=>simp [intOf];omega
    | nd b2 =>
     have UQ:w.cell? ⟨g,o+i,none⟩=some (.iface 152 (.pointer (some ⟨b2,0,none⟩))):=c1;have HR:=ab (wX h b2 c w pQ S3);have Q4:(0:Int)≤(iX h c:Int):=by omega
     have sd:(S:Int)+(iX h c:Int)≤1099511627776:=by have:=gS.out.2;omega
     obtain ⟨X,hX⟩ : ∃ X,X=iX h c:=⟨_,rfl⟩;rw [← hX] at HR Q4 sd gS;clear c1 pQ hX S3;go_wp2_with fail;refine HR.out.mono ?_
     rintro e w1 ⟨rfl,rfl⟩;go_wp2;go_roundw
     case rel=>exact ⟨i+1,by have h1:=gS.out.1;rw [h1];congr 1;omega,by go_num,bN,trivial⟩
     case measure=>simp [intOf];omega
   ·have hI1:¬ (i:Int)<(n.us.length:Int):=by omega
    have he:(t.2.2.map (iX h)).take i=t.2.2.map (iX h):=al (by rw [az];have:=HL.out.2;omega)
    have HE:Hid ((((t.2.2.map (iX h)).take i).sum:Int)+1=(iX (h+1) t:Int)):=by show _=_;rw [he,Fv.out];omega
    rw [HE.out];clear he Fv HK yt;go_wp2;go_ret;exact ⟨rfl,rfl⟩
end
def eE:ch→Nat
 | none=>0
 | some x=>iX x.1 x.2
section
variable {base:Nat} {A:Nat→Addr} {db:Nat} {F:Nat→Prop} {d:S.V.bq} {W0:World} {r:ch}
theorem pT{w:World}{tb:Nat}(hc:Ts base A db F d W0 w tb r)(hn:eE r≤1099511627776):Calls prog 20 #[.pointer (some ⟨tb,0,none⟩)] w fun e w'=>e = .returned (.int .i64 (eE r:Int))∧w=w':=by
 obtain ⟨rv,ht,xC⟩:=hc.tr;have c1:=ht.c1;clear ht hc;rcases xC with ⟨rfl,rfl⟩ | ⟨p,h,t,rfl,rfl,hp⟩
 ·have hq:=fun W=>oE W
  go_enter func20,ntmps20;go_wp2;go_ret;exact ⟨rfl,rfl⟩
 ·cases p with
  | pg id =>
   have UQ:w.cell? ⟨tb,1,none⟩=some (.iface 146 (.int .i64 id)):=c1;have hq:=fun W=>mW 146 (.int .i64 id) W
   have Pj:gA (cM d) h id t:=hp;have HZ:Hid (eE (some ⟨h,t⟩)=0):=EF (by
    cases h with
    | zero=>have h1:=Pj.1;have h2:=Pj.2.1;show t.1≠0;omega
    | succ h=>have h1:=Pj.1;have h2:=Pj.2.1;show t.1≠0;omega)
   clear c1 hp Pj;go_enter func20,ntmps20;go_wp2_with fail;refine (wI id w).mono ?_
   rintro e w1 ⟨rfl,rfl⟩;go_wp2;go_ret;exact ⟨by rw [HZ.out];rfl,rfl⟩
  | nd b =>
   have UQ:w.cell? ⟨tb,1,none⟩=some (.iface 152 (.pointer (some ⟨b,0,none⟩))):=c1;have hq:=fun W=>mW 152 (.pointer (some ⟨b,0,none⟩)) W
   have HR:=ab (wX h b t w hp hn);clear c1 hp;go_enter func20,ntmps20;go_wp2_with fail;refine HR.out.mono ?_
   rintro e w1 ⟨rfl,rfl⟩;go_wp2;go_ret;exact ⟨rfl,rfl⟩
end
def uI(w:World)(base:Nat)(v:Value)(l:List Nat):Prop :=
 w.ownsRow base 3 1 v l.length (Q.kE l)∧∀ g,v.ownBlock=some g→∃ cur,w.heap[g]?=some (.cells cur 3 (0,0))∧∀ u ∈ cur.toList,Plain u
theorem uI.nil(w:World)(base:Nat):uI w base (.slice none 0 0) []:=⟨World.ownsRow_nil _ _ _ _,fun g h=>by simp [Value.ownBlock] at h⟩
theorem uI.form{w:World}{base:Nat}{v:Value}{l:List Nat}(h:uI w base v l):∃ a c,v = .slice a l.length c:=by
 rcases h.1.2 with ⟨rfl,h0⟩ | ⟨g0,cap,cur,rfl,_⟩
 ·cases l with
  | nil=>exact ⟨_,_,rfl⟩
  | cons _ _=>simp at h0
 ·exact ⟨_,_,rfl⟩
theorem uI.dr{w:World}{base:Nat}{v:Value}{l:List Nat}(h:uI w base v l){g:Nat}(hg:v.ownBlock=some g):base≤g∧g<w.heap.size:=by
 rcases h.1.2 with ⟨rfl,h0⟩ | ⟨g0,cap,cur,rfl,lM,pR,_⟩
 ·simp [Value.ownBlock] at hg
 ·simp only [Value.ownBlock,Option.some.injEq] at hg;subst hg;exact ⟨lM,(Array.getElem?_eq_some_iff.1 pR).1⟩
theorem uI.odd{w:World}{base:Nat}{v:Value}{l:List Nat}(h:uI w base v l){g:Nat}(hg:v.ownBlock=some g):QF w g:=by
 obtain ⟨cur,h1,h2⟩:=h.2 g hg;refine ⟨fun j u hc=>?_,fun cs fr e=>?_,fun cs fr e=>?_⟩
 ·rw [cell_of_row w g j cur _ _ h1] at hc;exact (h2 u (by have:=Array.getElem?_eq_some_iff.1 hc;obtain ⟨h3,h4⟩:=this;rw [← h4];exact gE h3)).no
 ·rw [h1] at e;simp at e
 ·rw [h1] at e;simp at e
theorem uI.same{w w':World}{lo:Nat}{v:Value}{l:List Nat}(h:uI w lo v l)(hb:∀ g,v.ownBlock=some g→w'.heap[g]?=w.heap[g]?):uI w' lo v l:=by
 refine ⟨⟨h.1.1,?_⟩,fun g hg=>?_⟩
 ·rcases h.1.2 with h' | ⟨g,cap,cur,h',h1,h2,hr⟩
  ·exact .inl h'
  ·exact .inr ⟨g,cap,cur,h',h1,(hb g (by rw [h'];rfl)).trans h2,hr⟩
 ·obtain ⟨cur,h1,h2⟩:=h.2 g hg;exact ⟨cur,(hb g hg).trans h1,h2⟩
theorem wY(l:List Nat):∀ u ∈ Q.kE l,Plain u:=fun u hu=>by
 obtain ⟨n,_,rfl⟩:=List.mem_map.1 hu;exact .inr ⟨_,_,rfl⟩
theorem Ck(n:Nat):∀ u ∈ (Builtin.zeroCells (Value.int .i64 0).cells n).toList,Plain u:=by
 intro u hu;simp only [Builtin.zeroCells,Value.cells] at hu;simp at hu
 obtain ⟨i,_,rfl⟩:=hu;have h:i % 1=0:=Nat.mod_one i
 first | exact .inr ⟨.i64,0,rfl⟩ | (simp [h];exact .inr ⟨.i64,0,rfl⟩)
theorem Uk:(prog.info? 3).map (fun i=>(i.zero,i.size,i.bytes))=some (some (.int .i64 0),1,8):=by kernel_rfl
theorem uI.push(base:Nat)(v:Value)(l:List Nat)(p:Nat)(w:World)(h:uI w base v l)(hn:l.length≤1099511627776)(du:base≤w.heap.size):∃ a' c' w',(Builtin.append_ #[69,69] 69 #[v,.slice (some ⟨w.heap.size,0,none⟩) 1 1]).run prog (w.alloc (.cells #[.int .i64 (p:Int)] 3)) = .ok (.slice a' (l.length+1) c') w'∧uI w' base (.slice a' (l.length+1) c') (l++[p])∧(w.alloc (.cells #[.int .i64 (p:Int)] 3)).grownBy w' v.ownBlock:=by
 obtain ⟨i0,hi,hz,b7,kF⟩:=info_parts Uk;obtain ⟨W,hW⟩ : ∃ W,W=w.alloc (.cells #[.int .i64 (p:Int)] 3):=⟨_,rfl⟩;have hsW:W.heap.size=w.heap.size+1:=by rw [hW];simp
 have mU:=bL w #[.int .i64 (p:Int)] 3;rw [← hW] at mU;have ho:W.ownsRow base 3 1 v l.length (Q.kE l):=hW▸World.ownsRow.alloc h.1 _;have ia:∀ j u,([.int .i64 (p:Int)] : List Value)[j]?=some u→W.cell? ((⟨w.heap.size,0,none⟩ : Addr).add j)=some u:=fun j u hj=>by
  rw [bz,Nat.zero_add];match j,hj with
  | 0,hj=>cases hj;exact mU.2 0 (by simp)
 have KW:ni W (.slice (some ⟨w.heap.size,0,none⟩) 1 1) [.int .i64 (p:Int)]:=by
  refine ⟨_,_,rfl,aj _,(fun e=>by cases e),fun j u hj=>⟨_,_,rfl,?_⟩⟩
  have:=ia j u hj;rw [bz] at this;exact this
 obtain ⟨a',c',w',hr,aE,hg⟩:=nh 69 3 (.int .i64 0) 8 Uk underlying69 rfl base l.length v (Q.kE l) W ho _ [.int .i64 (p:Int)] KW (by simp [Value.oneCell']) (by simp;omega) (by decide) (by omega)
 rw [aP] at hr aE;rw [← hW];have gi:w'.ownsRow base 3 1 (.slice a' (l.length+1) c') (l++[p]).length (Q.kE (l++[p])):=by
  rw [ae,Q.tR];exact aE
 have Rf:∀ u ∈ ([.int .i64 (p:Int)] : List Value),Plain u:=wY [p];suffices hh:∀ g,(Value.slice a' (l.length+1) c').ownBlock=some g→∃ cur,w'.heap[g]?=some (.cells cur 3 (0,0))∧∀ u ∈ cur.toList,Plain u from ⟨a',c',w',hr,⟨gi,hh⟩,hg⟩
 have xD:(Q.kE l).length=l.length:=by unfold Q.kE;rw [az]
 rcases h.1.2 with ⟨rfl,h0⟩ | ⟨g0,cap,cur,rfl,lM,pR,B4,sf,fH,mH⟩
 ·have hq:=run_append_nil (P:=prog) W 69 69 3 i0 _ underlying69 hi hz ⟨w.heap.size,0,none⟩ 1 1 _ (by rw [b7];rfl) ia (by omega) (by omega) (by rw [kF];omega)
  rw [hq] at hr;simp only [Result.ok.injEq,Value.slice.injEq] at hr;obtain ⟨⟨rfl,-,-⟩,rfl⟩:=hr;intro g ib;simp only [Value.ownBlock,Option.some.injEq] at ib;subst ib;refine ⟨_,heap_alloc_new (World.drew _) _,fun u hu=>?_⟩
  simp only [bW,cu] at hu;rcases hu with hu | hu
  ·exact Rf u (by simpa using hu)
  ·exact Ck _ u hu
 ·have fG:W.heap[g0]?=some (.cells cur 3 (0,0)):=hW▸(heap_alloc_old w _ (Array.getElem?_eq_some_iff.1 pR).1).trans pR;have yz:∀ u ∈ cur.toList,Plain u:=by
   obtain ⟨fL,h1,h2⟩:=h.2 g0 rfl;rw [pR] at h1;simp only [Option.some.injEq,Obj.cells.injEq,and_true] at h1;subst h1;exact h2
  by_cases dW:l.length+1≤cap
  ·have hq:=run_append_room (P:=prog) W 69 69 3 i0 underlying69 hi g0 l.length cap cur fG ⟨w.heap.size,0,none⟩ 1 1 _ (by rw [b7];rfl) ia (by intro u hu;rcases Rf u hu with ⟨q,rfl⟩ | ⟨q,x,rfl⟩ <;> rfl) dW (by rw [b7,fH];simp;omega)
   rw [hq] at hr;simp only [Result.ok.injEq,Value.slice.injEq] at hr;obtain ⟨⟨rfl,-,-⟩,rfl⟩:=hr;intro g ib;simp only [Value.ownBlock,Option.some.injEq] at ib;subst ib;refine ⟨_,setRow_heap _ g0 cur _ _ _ fG,fun u hu=>?_⟩
   simp only [cu] at hu;rcases hu with (hu | hu) | hu
   ·exact yz u (bF hu)
   ·exact Rf u hu
   ·exact yz u (bG hu)
  ·have holds:∀ j u,(Q.kE l)[j]?=some u→W.cell? ((⟨g0,0,none⟩ : Addr).add j)=some u:=World.ownsRow.cells ho (g:=g0) rfl;have hq:=run_append_grow (P:=prog) W 69 69 3 i0 _ underlying69 hi hz ⟨g0,0,none⟩ l.length cap (Q.kE l) (by rw [b7,xD];omega) holds ⟨w.heap.size,0,none⟩ 1 1 _ (by rw [b7];rfl) ia (by omega) (by omega) (growslice_fits (by omega) (by rw [kF];omega))
   rw [hq] at hr;simp only [Result.ok.injEq,Value.slice.injEq] at hr;obtain ⟨⟨rfl,-,-⟩,rfl⟩:=hr;intro g ib;simp only [Value.ownBlock,Option.some.injEq] at ib;subst ib;refine ⟨_,heap_alloc_new (World.drew _) _,fun u hu=>?_⟩
   simp only [bW,cu] at hu;rcases hu with (hu | hu) | hu
   ·exact wY l u (by simpa using hu)
   ·exact Rf u (by simpa using hu)
   ·exact Ck _ u hu
end T
end Go.Proofs.YtihmgigfkmofnaaGreatDoor
