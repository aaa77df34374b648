import Derived.Test.YtihmgigfkmofnaaGreatDoorG28
import Derived.Deep.DrawnRows
set_option maxHeartbeats 4000000
set_option maxRecDepth 100000
open Go.Proofs.Tryz
namespace Go.Proofs.YtihmgigfkmofnaaGreatDoor
namespace T
open Go.RowKit
structure Bx where
 m:Nat
 mb:Nat
 t:Nat
 f:Nat
 fr:Nat
 en:Nat
 p:Nat
 l:Nat
 g:Nat
def ptr(b:Nat):Value:=.pointer (some ⟨b,0,none⟩)
def Bx.aej(x:Bx):Array Value:=#[ptr x.m,ptr x.f,ptr x.t,ptr x.fr,ptr x.en,ptr x.p,ptr x.l,ptr x.g]
structure Gs(base:Nat)(A:Nat→Addr)(db:Nat)(F:Nat→Prop)(d:S.V.bw)(w0:World)(tb:Nat)(x:Bx)(fr en:ByteArray)(lim lo:Nat)(w:World)(v:Value)(acc:List Pr)(M:List Nat):Prop where
 dv:Dv base A db F d w
 mv:Mv db F w0 w
 cm:w.cell? ⟨x.m,0,none⟩=some (.map (some x.mb))
 ct:w.cell? ⟨x.t,0,none⟩=some (ptr tb)
 cf:w.cell? ⟨x.f,0,none⟩=some .nilIface
 cfr:w.cell? ⟨x.fr,0,none⟩=some (.string fr)
 cen:w.cell? ⟨x.en,0,none⟩=some (.string en)
 cl:w.cell? ⟨x.l,0,none⟩=some (.int .i64 (lim:Int))
 cg:w.cell? ⟨x.g,0,none⟩=some (.func (.func 90) #[] x.aej)
 row:B.au w x.p #[v] 63
 ps:yL w lo v acc
 len:acc.length≤lim
 met:Met w x.mb M
 DN:M.length<1099511627776
 ord:∀ b ∈ [x.m,x.t,x.f,x.fr,x.en,x.l,x.g,x.p,x.mb],w0.heap.size≤b∧b<lo
 no:∀ b ∈ [x.m,x.t,x.f,x.fr,x.en,x.l,x.g],b≠x.p
 TY:db<w0.heap.size
 lo:lo≤w.heap.size
section
variable {base:Nat} {A:Nat→Addr} {db:Nat} {F:Nat→Prop} {d:S.V.bw} {w0:World} {tb:Nat} {x:Bx} {fr en:ByteArray} {lim lo:Nat} {w w':World} {v v':Value} {acc MC:List Pr} {M M':List Nat}
theorem Gs.keep(h:Gs base A db F d w0 tb x fr en lim lo w v acc M)(hv:Dv base A db F d w')(hm:Mv db F w0 w')(hg:wo db x.p x.mb w v w' v')(hr:B.au w' x.p #[v'] 63)(hp:yL w' lo v' MC)(hl:MC.length≤lim)(ZU:Met w' x.mb M')(nx:M'.length<1099511627776):Gs base A db F d w0 tb x fr en lim lo w' v' MC M':=by
 have hb:∀ b ∈ [x.m,x.t,x.f,x.fr,x.en,x.l,x.g],∀ u,w.cell? ⟨b,0,none⟩=some u→w'.cell? ⟨b,0,none⟩=some u:=fun b hb u hc=>by
  have ho:=h.ord b (by simp only [dP,dA,or_false] at hb ⊢;rcases hb with rfl | rfl | rfl | rfl | rfl | rfl | rfl <;> simp)
  refine bL (hg.block b (World.block_lt_of_cell? w _ hc) (by have:=h.TY;omega) (h.no b hb) (h.met.ne hc) fun e=>?_) hc
  have:=(h.ps.1.dF b e).1;omega
 exact ⟨hv,hm,hb _ (by simp) _ h.cm,hb _ (by simp) _ h.ct,hb _ (by simp) _ h.cf,hb _ (by simp) _ h.cfr,hb _ (by simp) _ h.cen,hb _ (by simp) _ h.cl,hb _ (by simp) _ h.cg,hr,hp,hl,ZU,nx,h.ord,h.no,h.TY,ar h.lo hg.size⟩
theorem yL.mv{w w':World}(h:yL w lo v acc)(hm:Mv db F w w')(hdb:db<lo):yL w' lo v acc:=by
 have hb:∀ g,v.ownBlock=some g→w'.heap[g]?=w.heap[g]?:=fun g hg=>by
  have:=h.1.dF g hg;exact hm.one.block g this.2 (by omega)
 refine ⟨⟨h.1.1,?_⟩,fun g hg=>?_⟩
 ·rcases h.1.2 with h' | ⟨g,cap,cur,h',h1,h2,hr⟩
  ·exact .inl h'
  ·exact .inr ⟨g,cap,cur,h',h1,(hb g (by rw [h'];rfl)).trans h2,hr⟩
 ·obtain ⟨cur,h1,h2⟩:=h.2 g hg;exact ⟨cur,(hb g hg).trans h1,h2⟩
theorem Gs.go(h:Gs base A db F d w0 tb x fr en lim lo w v acc M)(hm:Mv db F w w')(hv:Dv base A db F d w'):Gs base A db F d w0 tb x fr en lim lo w' v acc M:=by
 have PJ:=h.ord x.p (by simp)
 refine h.keep hv (h.mv.trans hm) (wo.mv v hm) ?_ (h.ps.mv hm (by have:=h.TY;omega)) h.len (h.met.same (hm.one.block x.mb h.met.lt (by have:=h.ord x.mb (by simp);have:=h.TY;omega))) h.DN
 exact (hm.one.block x.p h.row.lt (by have:=h.TY;omega)).trans h.row
theorem Gs.below(h:Gs base A db F d w0 tb x fr en lim lo w v acc M)(hb:Below w.heap.size w w'):Gs base A db F d w0 tb x fr en lim lo w' v acc M:=h.go (Mv.of hb) (h.dv.below hb)
end
theorem rj{w:World}{b:Nat}{v:Value}{T:TypeId}(h:B.au w b #[v] T)(u:Value):B.au (w.setCell ⟨b,0,none⟩ u) b #[u] T:=by
 unfold B.au at h ⊢;rw [setCell_eq_setRow w b 0 #[v] T (0,0) u h];exact setRow_heap w b #[v] _ T (0,0) h
theorem yL.same{w w':World}{lo:Nat}{v:Value}{acc:List Pr}(h:yL w lo v acc)(hb:∀ g,v.ownBlock=some g→w'.heap[g]?=w.heap[g]?):yL w' lo v acc:=by
 refine ⟨⟨h.1.1,?_⟩,fun g hg=>?_⟩
 ·rcases h.1.2 with h' | ⟨g,cap,cur,h',h1,h2,hr⟩
  ·exact .inl h'
  ·exact .inr ⟨g,cap,cur,h',h1,(hb g (by rw [h'];rfl)).trans h2,hr⟩
 ·obtain ⟨cur,h1,h2⟩:=h.2 g hg;exact ⟨cur,(hb g hg).trans h1,h2⟩
section
variable {base:Nat} {A:Nat→Addr} {db:Nat} {F:Nat→Prop} {d:S.V.bw} {w0:World} {tb:Nat} {x:Bx} {fr en:ByteArray} {lim lo:Nat}
theorem Gs.grow{w:World}{v s:Value}{acc us:List Pr}{M:List Nat}(h:Gs base A db F d w0 tb x fr en lim lo w v acc M)(iL:Dv base A db F d w0)(hs:gM w s us)(hb:(acc.length+us.length)*32≤140737488355328)(hl:acc.length+us.length≤lim):∃ a' c' w',(Builtin.append_ #[63,63] 63 #[v,s]).run prog w = .ok (.slice a' (acc.length+us.length) c') w'∧w'.frozen? ⟨x.p,0,none⟩=false∧w'.cell? ⟨x.p,0,none⟩=some v∧w'.cell? ⟨x.l,0,none⟩=some (.int .i64 (lim:Int))∧Gs base A db F d w0 tb x fr en lim lo (w'.setCell ⟨x.p,0,none⟩ (.slice a' (acc.length+us.length) c')) (.slice a' (acc.length+us.length) c') (acc++us) M∧wo db x.p x.mb w v (w'.setCell ⟨x.p,0,none⟩ (.slice a' (acc.length+us.length) c')) (.slice a' (acc.length+us.length) c'):=by
 obtain ⟨a',c',w',hr,kt,hg,aF⟩:=yL.app lo v s acc us w h.ps hs hb h.lo;have PJ:=h.ord x.p (by simp)
 have fQ:∀ b,b<lo→some b≠v.ownBlock:=fun b hb e=>by
  have:=(h.ps.1.dF b e.symm).1;omega
 have bE:B.au w' x.p #[v] 63:=(hg.block x.p h.row.lt (fQ _ PJ.2)).trans h.row;have dE:=bJ.set x.p 0 w' (.slice a' (acc.length+us.length) c');have pO:w.heap.size≤w'.heap.size:=hg.size;have PY:wo db x.p x.mb w v (w'.setCell ⟨x.p,0,none⟩ (.slice a' (acc.length+us.length) c')) (.slice a' (acc.length+us.length) c'):=⟨ar pO dE.size,fun k hk _ h2 _ h3=>(dE.block k (aq hk pO) h2).trans (hg.block k hk (fun e=>h3 e.symm)),aF⟩
 have pz:=h.lo;have nV:Below w0.heap.size w (w'.setCell ⟨x.p,0,none⟩ (.slice a' (acc.length+us.length) c')):=⟨dE.os.trans hg.os,dE.tape.trans hg.tape,dE.output.trans hg.output,ar pO dE.size,fun k hk=>(dE.block k (by omega) (by omega)).trans (hg.block k (by omega) (fQ k (by omega)))⟩
 obtain ⟨EC,Ll⟩:=h.dv.grown nV h.mv iL;have hlx:=h.ord x.l (by simp)
 refine ⟨a',c',w',hr,by unfold B.au at bE;simp [World.frozen?,bE],bE.cell 0 (by simp),bL (hg.block x.l (World.block_lt_of_cell? w _ h.cl) (fQ _ hlx.2)) h.cl,h.keep EC Ll PY (rj bE _) (kt.same fun g Ct=>?_) (by rw [ae];exact hl) (h.met.same ((dE.block x.mb (aq h.met.lt pO) (h.met.ne (h.row.cell 0 (by simp))).symm).trans (hg.block x.mb h.met.lt (fQ _ (h.ord x.mb (by simp)).2)))) h.DN,PY⟩
 have:=kt.1.dF g Ct;exact dE.block g this.2 (by omega)
theorem Gs.meet{w w':World}{v:Value}{acc:List Pr}{M M':List Nat}(h:Gs base A db F d w0 tb x fr en lim lo w v acc M)(iL:Dv base A db F d w0)(hm:Met w' x.mb M')(nx:M'.length<1099511627776)(hg:w.grownBy w' (some x.mb)):Gs base A db F d w0 tb x fr en lim lo w' v acc M'∧wo db x.p x.mb w v w' v:=by
 have hom:=h.ord x.mb (by simp)
 have pz:=h.lo;have pO:w.heap.size≤w'.heap.size:=hg.size;have dH:∀ k,k≠x.mb→some k≠some x.mb:=fun k hk e=>hk (Option.some.inj e)
 have PY:wo db x.p x.mb w v w' v:=⟨pO,fun k hk _ _ h3 _=>hg.block k hk (dH k h3),fun _ h=>.inl h⟩
 have nV:Below w0.heap.size w w':=⟨hg.os,hg.tape,hg.output,pO,fun k hk=>hg.block k (by omega) (dH k (by omega))⟩
 obtain ⟨EC,Ll⟩:=h.dv.grown nV h.mv iL;refine ⟨h.keep EC Ll PY ((hg.block x.p h.row.lt (dH _ (h.met.ne (h.row.cell 0 (by simp))))).trans h.row) (h.ps.same fun g Ct=>?_) h.len hm nx,PY⟩
 have:=h.ps.1.dF g Ct;exact hg.block g this.2 (dH _ (by omega))
end
def MB(ks:List ByteArray):Nat→Option ByteArray
 | 0=>none
 | j+1=>ks[j]?
theorem Ax:∀ (l:List ByteArray) (lo:Option ByteArray) (k:ByteArray),iZ lo (l++[k])=some k
 | [],_,_=>rfl
 | _::l,_,k=>Ax l _ k
theorem OS(ks:List ByteArray)(q:Nat)(hq:q≤ks.length):iZ none (ks.take q)=MB ks q:=by
 cases q with
 | zero=>simp [iZ,MB]
 | succ j =>
  have hj:j<ks.length:=by omega
  rw [gw,af hj];show iZ none (ks.take j++[ks[j]])=ks[j]?
  rw [Ax,af hj]
theorem Ud(lk:List B.Lk)(i:Nat)(en:ByteArray)(hi:i≤lk.length):AJ lk i en=yF en (MB (lk.map (·.1)) i):=by
 cases i with
 | zero=>rfl
 | succ j =>
  have hj:j<lk.length:=by omega
  show (if en=⟨#[]⟩ then false else match lk[j]? with | some p=>!cQ p.1 en | none=>false)=yF en ((lk.map (·.1))[j]?)
  rw [aL,af hj];simp only [kx,yF];by_cases h:en=⟨#[]⟩
  ·simp [h]
  ·simp [h]
theorem LG{α:Type}(g:α→List Pr→List Pr × Bool)(en:ByteArray)(ks:List ByteArray)(cs:List α)(i:Nat)(acc:List Pr)(hi:cs.length≤i):lR g en (MB ks i) (ks.drop i) (cs.drop i) acc=(acc,true):=by
 rw [dB hi];rfl
theorem Hf{α:Type}(g:α→List Pr→List Pr × Bool)(en:ByteArray)(ks:List ByteArray)(cs:List α)(i:Nat)(acc:List Pr)(c:α)(hc:cs[i]?=some c):lR g en (MB ks i) (ks.drop i) (cs.drop i) acc=if yF en (MB ks i)=true then (acc,false) else if (g c acc).2=true then lR g en (MB ks (i+1)) (ks.drop (i+1)) (cs.drop (i+1)) (g c acc).1 else ((g c acc).1,false):=by
 obtain ⟨hi,hv⟩:=List.getElem?_eq_some_iff.1 hc;rw [a7 hi,hv];show (if yF en (MB ks i)=true then (acc,false) else if (g c acc).2=true then lR g en (ks.drop i).head? (ks.drop i).tail (cs.drop (i+1)) (g c acc).1 else ((g c acc).1,false))=_
 rw [List.head?_drop,List.tail_drop];rfl
theorem Ot{lk:List B.Lk}{key:ByteArray}{q:Nat}(hp:B.fL lk key q)(hs:(lk.map (·.1)).Pairwise fun a b=>cQ a b=true):(lk.map (·.1)).findIdx (fun k=>cQ key k)=q:=by
 obtain ⟨h1,h2⟩:=nj hp hs;have hq:q≤(lk.map (·.1)).length:=by rw [az];exact hp.1
 rw [← aH q (lk.map (·.1)),List.findIdx_append];have e1:((lk.map (·.1)).take q).findIdx (fun k=>cQ key k)=((lk.map (·.1)).take q).length:=List.findIdx_eq_length.2 fun k hk=>h1 k hk
 rw [if_neg (by rw [e1];exact Nat.lt_irrefl _),ag,a6 hq]
 cases hd:(lk.map (·.1)).drop q with
 | nil=>simp
 | cons k r =>
  have:=h2 k (by rw [hd];rfl)
  rw [lC,this];simp
theorem LF{fr en:ByteArray}{lim h q:Nat}{t:Nd (h+1)}{lk:List B.Lk}(acc:List Pr)(hk:t.2.1=lk.map (·.1))(hp:B.fL lk fr q)(hs:t.2.1.Pairwise fun a b=>cQ a b=true):fw fr en lim (h+1) t acc=lR (fw fr en lim h) en (MB t.2.1 q) (t.2.1.drop q) (t.2.2.drop q) acc:=by
 show lR _ en (iZ none (t.2.1.take (t.2.1.findIdx fun k=>cQ fr k))) _ _ acc=_
 have e:(t.2.1.findIdx fun k=>cQ fr k)=q:=by rw [hk];exact Ot hp (by rw [← hk];exact hs)
 rw [e,OS _ _ (by rw [hk,az];exact hp.1)]
theorem xo{h:Nat}{cs:List (Nd h)}{i:Nat}{c:Nd h}(hc:cs[i]?=some c):(cs.take (i+1)).flatMap (dG h)=(cs.take i).flatMap (dG h)++dG h c:=by
 rw [gw,hc,aR];simp
theorem IW{h:Nat}{cs:List (Nd h)}(i:Nat):((cs.take i).flatMap (dG h)).Sublist (cs.flatMap (dG h)):=by
 conv=>rhs;rw [← aH i cs]
 rw [aR];exact List.sublist_append_left _ _
theorem IX{h:Nat}{t:Nd (h+1)}{i:Nat}{c:Nd h}(hc:t.2.2[i]?=some c)(hn:(dG (h+1) t).Nodup):(dG h c).Nodup∧∀ j ∈ dG h c,j ∉ cY t.1∧j ∉ (t.2.2.take i).flatMap (dG h):=by
 have hn:(cY t.1++t.2.2.flatMap (dG h)).Nodup:=hn;have h1:(cY t.1++((t.2.2.take i).flatMap (dG h)++dG h c)).Nodup:=hn.sublist (by rw [← xo hc];exact List.Sublist.append_left (IW _) _)
 obtain ⟨_,h2,h3⟩:=List.nodup_append.1 h1;obtain ⟨_,h4,h5⟩:=List.nodup_append.1 h2;refine ⟨h4,fun j hj=>⟨fun h=>h3 j h j (cd _ hj) rfl,fun h=>h5 j h j hj rfl⟩⟩
theorem Sy(w:World)(m n:Int):(Builtin.min_ #[3,3] 3 #[.int .i64 m,.int .i64 n]).run prog w = .ok (.int .i64 (min m n)) w:=by
 simp [Builtin.min_,Builtin.min2]
 split <;> omega
theorem Bk{ops:Array Oper}{o:Oper}{a:Act}{w:World}{K:Act→World→Prop}{Q:Exit→Act→World→Prop}{E:Prop}(nK:o.guard=none)(x y:Operand)
  (ho:o.op = .call { callee:=.builtin .min,args:=#[x,y],argTypes:=#[3,3] }) (zr:o.type=3) (m n r:Int) (hx:a.eval x = .int .i64 m) (hy:a.eval y = .int .i64 n) (hr:min m n=r)
  (h:K (a.put o.dst (.int .i64 r)) w):if Region.wanted o (yielded ops a.tmps)=true then Oper.wp prog o a w K Q else E:=by
 have hw:Region.wanted o (yielded ops a.tmps)=true:=by simp [Region.wanted,nK]
 rw [if_pos hw];unfold Oper.wp;simp [execOp,ho,resolve,invoke,builtin,hx,hy,zr,Sy,Result.andThen,hr]
 exact h
attribute [local go_sem ↓] Go.wp_at_zero Go.wp_at_succ
theorem xU{PG:Int→Option PD}{w:World}{h:Nat}{p:C.Ch}{t:Nd h}(hk:ew PG w h p t):Te p=(fy h t:Int)∧fy h t<1048576:=by
 cases p with
 | pg id =>
  have hk:gE PG h id t:=hk;cases h with
  | zero =>
   obtain ⟨h1,h2,_⟩:=hk;have e:(fy 0 t:Int)=id:=h2;exact ⟨e.symm,by omega⟩
  | succ h =>
   obtain ⟨h1,h2,_⟩:=hk;have e:(fy (h+1) t:Int)=id:=h2;exact ⟨e.symm,by omega⟩
 | nd b =>
  have h0:fy h t=0:=hk.1;exact ⟨by rw [h0];rfl,by omega⟩
theorem Gz{h:Nat}{t:Nd h}:∀ i ∈ cY (fy h t),i ∈ dG h t:=fun i hi=>by
 cases h with
 | zero=>exact hi
 | succ h=>exact dZ _ hi
theorem I3{h:Nat}{t:Nd h}:(cY (fy h t)).length≤(dG h t).length:=by
 cases h with
 | zero=>exact aj _
 | succ h =>
  show (cY t.1).length≤(cY t.1++_).length
  rw [ae];omega
section
variable {base:Nat} {A:Nat→Addr} {db:Nat} {F:Nat→Prop} {d:S.V.bw} {w0:World} {tb:Nat} {x:Bx} {fr en:ByteArray} {lim lo:Nat}
theorem Gs.again{h:Nat}{p:C.Ch}{t:Nd h}{w:World}{v:Value}{acc:List Pr}{M:List Nat}(hg:Gs base A db F d w0 tb x fr en lim lo w v acc M)(iL:Dv base A db F d w0)(hk:ew (cM d) w0 h p t)(lX:∀ i ∈ dG h t,i ∉ M)(nx:M.length+(dG h t).length<1099511627776):Calls prog 91 #[.map (some x.mb),p.val] w fun e w'=>e = .returned (.bool false)∧Gs base A db F d w0 tb x fr en lim lo w' v acc (M++cY (fy h t))∧wo db x.p x.mb w v w' v:=by
 obtain ⟨h1,h2⟩:=xU hk;have fQ:decide (fy h t ∈ M)=false:=by
  rw [decide_eq_false_iff_not];intro hm;have h3:=hg.met.ok _ hm;refine lX _ (Gz _ ?_) hm;unfold cY;rw [if_neg (by omega)]
  simp
 refine (rC p (fy h t) h1 h2 x.mb M w hg.met hg.DN).mono ?_
 rintro e w' ⟨rfl,hm,AT⟩;rw [Ja] at hm;have hl:=I3 (t:=t);obtain ⟨g1,g2⟩:=hg.meet iL hm (by rw [ae];omega) AT
 exact ⟨by rw [fQ],g1,g2⟩
def FA(base:Nat)(A:Nat→Addr)(db:Nat)(F:Nat→Prop)(d:S.V.bw)(w0:World)(tb:Nat)(x:Bx)(fr en:ByteArray)(lim lo:Nat)(w:World)(v:Value)(M P:List Nat)(r:List Pr × Bool)(e:Ending)(w':World):Prop :=
 ∃ v' M',e = .returned (.bool r.2)∧Gs base A db F d w0 tb x fr en lim lo w' v' r.1 M'∧wo db x.p x.mb w v w' v'∧(∀ i ∈ M',i ∈ M∨i ∈ P)∧M'.length≤M.length+P.length
theorem EE{rv:Value}(iL:Dv base A db F d w0)(G0:B.au w0 tb #[.pointer (some ⟨db,0,none⟩),rv] 100)(p:C.Ch)(t:Nd 0)(dp:Nat)(w:World)(v:Value)(acc:List Pr)(M:List Nat)(hk:ew (cM d) w0 0 p t)(nK:jF ⟨0,t⟩)(h:Gs base A db F d w0 tb x fr en lim lo w v acc M)(P3:dp≤64)(U7:lim≤9223372036854775807)(eh:(acc.length+t.2.length)*32≤140737488355328)(lX:∀ i ∈ dG 0 t,i ∉ M)(nx:M.length+(dG 0 t).length<1099511627776):Calls prog 90 #[p.val,.int .i64 (dp:Int),.pointer (some ⟨x.m,0,none⟩),.pointer (some ⟨x.f,0,none⟩),.pointer (some ⟨x.t,0,none⟩),.pointer (some ⟨x.fr,0,none⟩),.pointer (some ⟨x.en,0,none⟩),.pointer (some ⟨x.p,0,none⟩),.pointer (some ⟨x.l,0,none⟩),.pointer (some ⟨x.g,0,none⟩)] w (FA base A db F d w0 tb x fr en lim lo w v M (dG 0 t) (fw fr en lim 0 t acc)):=by
 have Iq:=ab (h.again iL hk lX nx);have wg:Hid (∀ W,Gs base A db F d w0 tb x fr en lim lo W v acc (M++cY (fy 0 t))→Calls prog 92 #[.pointer (some ⟨tb,0,none⟩),p.val,.int .i64 (dp:Int)] W fun e w'=>(lV (oX d w0) A ⟨0,t⟩ e w'∧True)∧Dv base A db F d w'∧Mv db F W w'):=fun W hW=>by
  have aw:=hW.mv.cH iL;refine (qn (oX d w0) p ⟨0,t⟩ tb rv dp W ⟨⟨hk,nK⟩,.inl aw⟩ (ed aw G0) hW.dv (.inr P3)).mono ?_
  rintro e w' ⟨⟨h1,_⟩,h2,h3⟩;exact ⟨⟨h1,trivial⟩,h2,h3⟩
 obtain ⟨pt,px,iV⟩:=bP p;rw [iV] at wg Iq ⊢;have k0:w.cell? ⟨x.m,0,none⟩=some (.map (some x.mb)):=h.cm;have HRM:=ab eh;have HDP:=ab P3;have Ri:=ab iL;have XD:=ab U7;have R5:=ab nx;clear h hk nK iL G0 iV P3 eh U7 lX nx;go_enter func90,ntmps90;go_wp2_with fail;refine Iq.out.mono ?_
 rintro e wa ⟨rfl,zD,Jk⟩;have k1:wa.cell? ⟨x.t,0,none⟩=some (.pointer (some ⟨tb,0,none⟩)):=zD.ct;have CA:=ab (wg.out wa zD);have HS:=ab zD;have HT:=ab Jk;clear zD Jk wg Iq k0;go_wp2_with fail;refine CA.out.mono ?_
 rintro e w1 ⟨⟨Ei,_⟩,fP,fs⟩;rcases Ei with ⟨hE,_⟩ | ⟨b,n,pv,lv,cv,rfl,hs,hn⟩
 ·exact (hE:False).elim
 ·have mh:=ab (HS.out.go fs fP);have Ik:Hid (wo db x.p x.mb w v w1 v):=HT.out.trans (wo.mv v fs);have kt:n.ps=t.2:=hn.1.1.2;have h0:n.us.length=0:=by have h9:n.us=[]:=hn.1.1.1;rw [h9];rfl
  have sJ:=ab (cB b n pv lv cv w1 hs);rw [show decide (n.us.length=0)=true by simp [h0]] at sJ
  have hlen:n.ps.length≤4000:=hs.fine.2.1;have HWI:Hid (∀ W,Below w1.heap.size w1 W→Calls prog 94 #[pv,.string fr,.string en] W fun e w'=>∃ a c,e = .returned (.slice a (ej n.ps fr en).length c)∧gM w' (.slice a (ej n.ps fr en).length c) (ej n.ps fr en)∧Below w1.heap.size w1 w'):=fun W hW=>(FW pv n.ps fr en W (by omega) (hs.iI.below hW)).mono fun e w' ⟨a,c,h1,h2,h3⟩=>⟨a,c,h1,h2,Below.next hW h3⟩
  have p0:=hs.c0;have V8:=mh.out.cfr;have Y0:=mh.out.cen;have sH:=ab kt;obtain ⟨xa,xc,BN⟩:=hs.iI.form;subst BN;clear fP fs CA hs hn h0 kt k1;go_wp2_with fail;refine sJ.out.mono ?_
  rintro e w1' ⟨rfl,rfl⟩;go_wp2_with fail;go_region_held3 (fun w'=>w'.cell? ⟨b,0,none⟩=some (.slice xa n.ps.length xc)∧w'.cell? ⟨x.fr,0,none⟩=some (.string fr)∧w'.cell? ⟨x.en,0,none⟩=some (.string en)) (go_keep)
   (first
    | (go_at_call 94;refine (HWI.out _ (by first | exact Below.refl _ _ | exact B.aK (Below.refl _ _))).mono ?_;rintro e w2 ⟨ya,yc,rfl,hy,aS⟩;have HY:=ab hy;have bG:=ab aS;have m0:=(aS.cell (p:=⟨b,0,none⟩) (World.block_lt_of_cell? w1 _ p0)).trans p0;have m1:=(aS.cell (p:=⟨x.fr,0,none⟩) (World.block_lt_of_cell? w1 _ V8)).trans V8;have m2:=(aS.cell (p:=⟨x.en,0,none⟩) (World.block_lt_of_cell? w1 _ Y0)).trans Y0;clear hy aS))
  have lD:=ab (mh.out.below (B.aK bG.out));have HG2:Hid (wo db x.p x.mb w v w2.drew v):=Ik.out.trans (wo.below v (B.aK bG.out));obtain ⟨wl,RD⟩ : ∃ wl,wl=ej n.ps fr en:=⟨_,rfl⟩;rw [← RD] at HY ⊢;obtain ⟨q,hq⟩ : ∃ q,q=min wl.length (lim - acc.length):=⟨_,rfl⟩;have FK:=lD.out.len;have U7:=XD.out;have acZ:wl.length≤n.ps.length:=by rw [RD];unfold ej;rw [ao,ag];omega
  have hyc:wl.length≤yc:=by obtain ⟨_,_,he,h,_⟩:=HY.out;cases he;exact h
  have pZ:=fun W=>Kq W ya wl.length yc q (by omega)
  have mf:(wl.take q).length=q:=by rw [ag];omega
  have AT:=lD.out.grow (us:=wl.take q) (s:=.slice ya q yc) Ri.out ((HY.out.below (B.aK (Below.refl _ _))).take (by omega)) (by rw [mf];have:=HRM.out;rw [← sH.out] at this;omega) (by rw [mf];omega)
  rw [mf] at AT;obtain ⟨a',c',w3,bq,kfz,kp,kl,pO,Vd⟩:=AT;have ch:(fw fr en lim 0 t acc).1=acc++wl.take q∧(fw fr en lim 0 t acc).2=decide (((acc.length+q:Nat):Int)<(lim:Int)):=by
   have e1:(ej t.2 fr en).take (lim - acc.length)=wl.take q:=by
    rw [← sH.out,← RD,hq,Nat.min_comm,← List.take_eq_take_min]
   refine ⟨?_,?_⟩
   ·show acc++(ej t.2 fr en).take (lim - acc.length)=_
    rw [e1]
   ·show decide ((acc++(ej t.2 fr en).take (lim - acc.length)).length<lim)=_
    rw [e1,ae,mf];congr 1
    exact propext ⟨fun h=>by omega,fun h=>by omega⟩
  have me:Hid (FA base A db F d w0 tb x fr en lim lo w v M (dG 0 t) (fw fr en lim 0 t acc) (.returned (.bool (decide (((acc.length+q:Nat):Int)<(lim:Int))))) (w3.setCell ⟨x.p,0,none⟩ (.slice a' (acc.length+q) c'))):=by
   refine ⟨_,M++cY (fy 0 t),by rw [ch.2],by rw [ch.1];exact pO,HG2.out.trans Vd,fun i hi=>?_,?_⟩
   ·rcases List.mem_append.1 hi with h | h
    ·exact .inl h
    ·exact .inr (Gz _ h)
   ·rw [ae];exact aj _
  have sk:=ab bq;obtain ⟨va,vc,kq⟩:=lD.out.ps.1.form;have kp2:w2.cell? ⟨x.p,0,none⟩=some v:=(mh.out.below bG.out).row.cell 0 (by simp)
  have kl2:w2.cell? ⟨x.l,0,none⟩=some (.int .i64 (lim:Int)):=(mh.out.below bG.out).cl;have ZW:min (wl.length:Int) ((lim:Int) - (acc.length:Int))=(q:Int):=by omega
  have kl4:(w3.setCell ⟨x.p,0,none⟩ (.slice a' (acc.length+q) c')).cell? ⟨x.l,0,none⟩=some (.int .i64 (lim:Int)):=pO.cl;have kp4:(w3.setCell ⟨x.p,0,none⟩ (.slice a' (acc.length+q) c')).cell? ⟨x.p,0,none⟩=some (.slice a' (acc.length+q) c'):=pO.row.cell 0 (by simp)
  subst kq;have ai1:(0:Int)≤(acc.length:Int):=by omega
  have ai0:(acc.length:Int)≤(lim:Int):=by omega
  have aiv:(lim:Int)≤9223372036854775807:=by omega
  have hwr:IntKind.i64.wrap ((lim:Int) - (acc.length:Int))=(lim:Int) - (acc.length:Int):=by rw [IntKind.wrap_i64];omega
  clear pO Vd bq RD hq acZ hyc mf hlen HS sJ HWI HY p0 V8 Y0 m0 m1 m2 ch R5 HT sH Ik HG2 mh lD bG HRM HDP Ri XD;go_wp2_with fail;go_region_law (first | (refine Bk rfl (.tmp 43) (.tmp 47) rfl rfl _ _ _ rfl rfl ZW ?_) | (refine kC 63 rfl (.tmp 40) (.tmp 49) rfl rfl _ _ rfl rfl _ _ sk.out ?_))
  all_goals
   go_wp2;go_ret;exact me.out
end
def Re(h:Nat)(t:Nd h):Prop:=(∃ lo hi,Ok h t lo hi)∧nI h t≤4072∧wP h t
theorem YT{h:Nat}{c:Nd h}{lo hi:Option ByteArray}(hf:kW h c lo hi):Re h c:=by
 refine ⟨⟨lo,hi,hf.1⟩,hf.2.2,?_⟩;have h1:=hf.2.1;cases h with
 | zero =>
  intro e;have h1:1556≤fY c.2:=h1;rw [e,q7] at h1;omega
 | succ h =>
  intro e;have h1:1777≤fE c.2.1:=h1;rw [e] at h1;have:fE []=6:=rfl;omega
theorem vH{h:Nat}{t:Nd (h+1)}{i:Nat}{c:Nd h}(ho:Re (h+1) t)(hc:t.2.2[i]?=some c):Re h c:=by
 obtain ⟨⟨lo,hi,ho⟩,_⟩:=ho;obtain ⟨pJ,mz,hf⟩:=kN ((fA h t lo hi).1 ho) i c hc;exact YT hf
theorem DF{h:Nat}{t:Nd h}(ho:fc (some ⟨h,t⟩)):Re h t:=⟨⟨none,none,ho.1⟩,ho.2.1,ho.2.2⟩
def V3:PD→Prop
 | .leaf l=>zI l true=none
 | .br f lk=>B.nB f lk true=none
theorem DG{t:Nd 0}(ho:Re 0 t):zI t.2 true=none:=by
 obtain ⟨⟨lo,hi,hr,hm⟩,hs,h1⟩:=ho;have hs:fY t.2≤4072:=hs;have h1:t.2≠[]:=h1;unfold zI;rw [if_neg (by simp only [Bool.not_eq_false,mc];exact fun p hp=>(hm p hp).1),if_neg (by simpa using hr),if_neg (by omega),if_neg (by simp [h1])]
theorem I4{n:Nat}(h:n≠0):cY n=[n]:=if_neg h
theorem IZ{h:Nat}:∀ (cs:List (Nd h)),(∀ c ∈ cs,fy h c≠0)→(cs.map (fy h)).Sublist (cs.flatMap (dG h))
 | [],_=>List.Sublist.refl _
 | c::cs,dH=>by
  have h0:fy h c≠0:=dH c (by simp)
  have e:∃ r,dG h c=fy h c::r:=by
   cases h with
   | zero=>exact ⟨[],I4 h0⟩
   | succ h=>exact ⟨_,congrArg (·++c.2.2.flatMap (dG h)) (I4 h0)⟩
  obtain ⟨r,e⟩:=e;rw [List.map_cons,List.flatMap_cons,e];exact List.Sublist.cons_cons _ ((IZ cs fun d hd=>dH d (by simp [hd])).trans (dD _ _))
theorem Eb{h:Nat}(ks:List ByteArray)(cs:List (Nd h))(hl:cs.length=ks.length+1):B.kids (l6 cs) (qv ks cs)=cs.map fun c=>(fy h c:Int):=by
 cases cs with
 | nil=>simp at hl
 | cons c cs =>
  show (fy h c:Int)::(ks.zip (cs.map fun c=>(fy h c:Int))).map (·.2)=(fy h c:Int)::cs.map fun c=>(fy h c:Int)
  rw [List.map_snd_zip (by rw [az];simp at hl;omega)]
theorem BK{h:Nat}(ks:List ByteArray)(cs:List (Nd h))(hl:cs.length=ks.length+1):(qv ks cs).map (·.1)=ks:=by
 unfold qv;rw [List.map_fst_zip (by rw [az,List.length_tail];omega)]
theorem vN{h:Nat}(ks:List ByteArray)(cs:List (Nd h))(hl:cs.length=ks.length+1):(qv ks cs).length=ks.length:=by
 have:=congrArg List.length (BK ks cs hl);rwa [az] at this
theorem QW{h:Nat}{ks:List ByteArray}{cs:List (Nd h)}{lo hi:Option ByteArray}(ho:gY (kW h) lo hi ks cs)(hs:fE ks≤4072)(h1:ks≠[])(hr:∀ c ∈ cs,2≤fy h c∧fy h c<1048576)(hn:(cs.flatMap (dG h)).Nodup):B.nB (l6 cs) (qv ks cs) true=none:=by
 have hl:=jV ho;have hlen:=vN ks cs hl;have hk:=BK ks cs hl;have uA:=Eb ks cs hl;have tm:=xD ho;have oE:=jK ho;have df:∀ x ∈ B.kids (l6 cs) (qv ks cs),2≤x∧x<1048576:=fun x hx=>by
  rw [uA] at hx;obtain ⟨c,hc,rfl⟩:=List.mem_map.1 hx;have:=hr c hc;omega
 have hf:B.gj (l6 cs)=true:=by
  have:=df (l6 cs) (by simp [B.kids])
  simp only [B.gj,decide_eq_true_eq];exact this
 have hm:(qv ks cs).all B.gB=true:=by
  rw [mc];intro p hp;have a1:cP p.1:=tm p.1 (by rw [← hk];exact jR hp)
  have a2:=df p.2 (by simp only [B.kids];exact dY _ (jR hp))
  simp only [B.gB,decide_eq_true_eq];exact ⟨a1.1,a1.2,a2⟩
 have hri:B.nM (qv ks cs):=fun i hi=>by
  rw [← hk] at oE;have:=List.pairwise_iff_getElem.1 oE i (i+1) (by rw [az];omega) (by rw [az];omega) (by omega)
  rwa [bT,bT] at this
 have jw:(B.kids (l6 cs) (qv ks cs)).Nodup:=by
  rw [uA];have h2:(cs.map (fy h)).Nodup:=hn.sublist (IZ cs fun c hc=>by have:=hr c hc;omega)
  have h3:(cs.map fun c=>(fy h c:Int))=(cs.map (fy h)).map fun n:Nat=>(n:Int):=by rw [eO];rfl
  rw [h3];exact List.Pairwise.map _ (fun a b Cv e=>Cv (by omega)) h2
 have b8:B.jT (qv ks cs)≤4072:=by
  have:=wL (qv ks cs);rw [hk] at this;omega
 have dH:qv ks cs≠[]:=fun e=>h1 (by rw [← hk,e];rfl)
 unfold B.nB;rw [if_neg dH,if_neg (by rw [hf,hm];simp),if_neg (by simpa using hri),if_neg (by simpa using jw),if_neg (by omega),if_neg (by simp)]
theorem AD{PG:Int→Option PD}{w:World}{P:Nat→Nat}(hP:∀ j,2≤P j∧P j<1048576){h:Nat}{p:C.Ch}{t:Nd h}(hk:ew PG w h p t)(k:Nat):2≤fy h (aV P h t k).1∧fy h (aV P h t k).1<1048576:=by
 have hid:=xU hk;by_cases h0:fy h t=0
 ·cases h with
  | zero =>
   have h0:t.1=0:=h0;simp only [aV,h0,if_true];exact hP _
  | succ h =>
   have h0:t.1=0:=h0;simp only [aV,h0,if_true];exact hP _
 ·have h2:2≤fy h t:=by
   cases p with
   | pg id =>
    have hk:gE PG h id t:=hk;cases h with
    | zero =>
     have h3:=hk.2.1;have h4:=hk.1;show 2≤t.1
     omega
    | succ h =>
     have h3:=hk.2.1;have h4:=hk.1;show 2≤t.1
     omega
   | nd b=>exact absurd hk.1 h0
  cases h with
  | zero =>
   have LA:¬ t.1=0:=h0;simp only [aV,LA,if_false];exact ⟨h2,hid.2⟩
  | succ h =>
   have LA:¬ t.1=0:=h0;simp only [aV,LA,if_false];exact ⟨h2,hid.2⟩
theorem ov{PG Yh:Int→Option PD}:∀ (h:Nat) {id:Int} {t:Nd h},gE PG h id t→(∀ i ∈ dG h t,Yh (i:Int)=PG (i:Int))→gE Yh h id t
 | 0,id,t,hp,he=>by
  obtain ⟨h1,h2,h3⟩:=hp;have h0:t.1≠0:=by omega
  have:=he t.1 (by show t.1 ∈ cY t.1;unfold cY;rw [if_neg h0];simp)
  rw [h2] at this;exact ⟨h1,h2,this.trans h3⟩
 | h+1,id,t,hp,he=>by
  obtain ⟨h1,h2,f,lk,h3,h4,h5,h6⟩:=hp;have h0:t.1≠0:=by omega
  have:=he t.1 (by show t.1 ∈ cY t.1++_;unfold cY;rw [if_neg h0];simp)
  rw [h2] at this;refine ⟨h1,h2,f,lk,this.trans h3,h4,h5,fun i c x hc hx=>ov h (h6 i c x hc hx) fun j hj=>he j ?_⟩
  exact cd _ (List.mem_flatMap.2 ⟨c,cG hc,hj⟩)
theorem xR{PG Yh:Int→Option PD}{w:World}{P:Nat→Nat}(hP:∀ j,2≤P j∧P j<1048576):∀ (h:Nat) {p:C.Ch} {t:Nd h} (k:Nat),ew PG w h p t→(∃ lo hi,Ok h t lo hi)→(∀ i ∈ dG h t,Yh (i:Int)=PG (i:Int))→(∀ x ∈ (aV P h t k).2,Yh (x.1:Int)=some x.2)→gE Yh h (fy h (aV P h t k).1:Int) (aV P h t k).1
 | 0,p,t,k,hk,_,he,hs=>by
  cases p with
  | pg id =>
   have hk:gE PG 0 id t:=hk;have h0:¬ t.1=0:=by have:=hk.1;have:=hk.2.1;omega
   have e:(fy 0 t:Int)=id:=hk.2.1;simp only [aV,h0,if_false];rw [e];exact ov 0 hk he
  | nd b =>
   have h0:t.1=0:=hk.1;simp only [aV,h0,if_true] at hs ⊢;have h1:=hP k;exact ⟨by show 2≤(P k:Int)∧(P k:Int)<1048576;omega,rfl,hs (P k,.leaf t.2) (by simp)⟩
 | h+1,p,t,k,hk,ho,he,hs=>by
  cases p with
  | pg id =>
   have hk:gE PG (h+1) id t:=hk;have h0:¬ t.1=0:=by have:=hk.1;have:=hk.2.1;omega
   have e:(fy (h+1) t:Int)=id:=hk.2.1;simp only [aV,h0,if_false];rw [e];exact ov (h+1) hk he
  | nd b =>
   have h0:t.1=0:=hk.1;obtain ⟨_,n,pv,lv,cv,Tn,hn⟩:=hk;obtain ⟨lo,hi,ho⟩:=ho;have Tv:=(fA h t lo hi).1 ho;have hl:=jV Tv;have Ev:(bZ (aV P h) t.2.2 k).1.length=t.2.1.length+1:=by rw [iw,hl]
   simp only [aV,h0,if_true] at hs ⊢;have h1:=hP (k+(bZ (aV P h) t.2.2 k).2.length);refine ⟨by show 2≤(P (k+(bZ (aV P h) t.2.2 k).2.length):Int)∧(P (k+(bZ (aV P h) t.2.2 k).2.length):Int)<1048576;omega,rfl,_,_,hs (P (k+(bZ (aV P h) t.2.2 k).2.length),.br (l6 (bZ (aV P h) t.2.2 k).1) (qv t.2.1 (bZ (aV P h) t.2.2 k).1)) (by simp),(BK _ _ Ev).symm,by show (bZ (aV P h) t.2.2 k).1.length=_;rw [vN _ _ Ev,Ev],fun i c' x uC hx=>?_⟩
   have uC:(bZ (aV P h) t.2.2 k).1[i]?=some c':=uC;rw [Eb _ _ Ev,aL,uC] at hx;simp only [kx,Option.some.injEq] at hx;have mz:i<t.2.2.length:=by
    have:=(List.getElem?_eq_some_iff.1 uC).1;rw [iw] at this;exact this
   have MW:n.us.length=t.2.2.length:=hn.1;obtain ⟨q,hq⟩ : ∃ q,n.us[i]?=some q:=⟨_,af (by omega)⟩
   have Lu:t.2.2[i]?=some t.2.2[i]:=af mz;obtain ⟨ki,g1,g2⟩:=rJ (aV P h) t.2.2 k i _ Lu;rw [uC] at g1;cases g1;rw [← hx];obtain ⟨pJ,vm,hf⟩:=kN Tv i _ Lu;exact xR hP h ki (hn.qT hq Lu) ⟨pJ,vm,hf.1⟩ (fun j hj=>he j (cd _ (List.mem_flatMap.2 ⟨_,cG Lu,hj⟩))) fun y hy=>hs y (dZ _ (g2 y hy))
theorem wN{l:List Nat}{i x:Nat}(h:l[i]?=some x):(l.take (i+1)).sum=(l.take i).sum+x:=by
 rw [gw,h,List.sum_append];simp
theorem lK:∀ (l:List Nat) (i:Nat),(l.take i).sum≤l.sum
 | [],i=>by simp
 | x::l,0=>by simp
 | x::l,i+1=>by
  have:=lK l i;simp only [List.take_succ_cons,qQ];omega
section
variable {PG:Int→Option PD}
theorem xG:∀ (h:Nat) (b:Nat) (t:Nd h) (w:World),ew PG w h (.nd b) t→jc h t≤1099511627776→Calls prog 290 #[.pointer (some ⟨b,0,none⟩)] w fun e w'=>e = .returned (.int .i64 (jc h t:Int))∧w=w'
 | 0,b,t,w,⟨h0,n,pv,lv,cv,hs,hn⟩,hc=>by
  have p3:=hs.c3;have hu:n.us=[]:=hn.1;obtain ⟨ca,cc,sC⟩:=hs.kids.form;rw [hu,List.length_nil] at sC;subst sC;have LA:t.1=0:=h0;have HC:Hid (jc 0 t=1):=if_pos LA;clear hs hn hc;go_enter func290,ntmps290;go_wp2;refine wp_loop_rounds 1 ?_
  rw [rounds_succ];go_wp2;go_ret;exact ⟨by rw [HC.out];rfl,rfl⟩
 | h+1,b,t,w,⟨h0,n,pv,lv,cv,hs,hn⟩,hc=>by
  have p3:=hs.c3;have LA:t.1=0:=h0;have fI:jc (h+1) t=(t.2.2.map (jc h)).sum+1:=if_pos LA;have FQ:=ab fI;have HC:=ab hc;obtain ⟨ca,cc,sC,-,-,bm⟩:=hs.kids;rw [C.aT,Nat.mul_one] at sC;subst sC;have yR:=ab bm;have HK:Hid (∀ (i:Nat) (p:C.Ch) (c:Nd h),n.us[i]?=some p→t.2.2[i]?=some c→ew PG w h p c):=fun i p c h1 h2=>hn.qT h1 h2
  have HL:Hid (n.us.length≤4001∧n.us.length=t.2.2.length):=⟨hs.fine.2.2.2.2,hn.1⟩;clear hs hn bm fI hc;go_enter func290,ntmps290;go_wp2;go_loopw [3,11] (fun cv iv wr=>∃ (i:Nat),cv = .int .i64 ((((t.2.2.map (jc h)).take i).sum:Int)+1)∧iv = .int .i64 (i:Int)∧i≤n.us.length∧w=wr) (fun _ iv _=>n.us.length - (intOf iv).toNat)
  case atStart=>exact ⟨0,by simp,rfl,aB _,rfl⟩
  case round =>
   obtain ⟨i,rfl,rfl,hi,rfl⟩:=hrel;by_cases bK:i<n.us.length
   ·obtain ⟨g,o,rfl,c1⟩:=yR.out i _ (C.gJ n.us i bK);have hI0:(0:Int)≤(i:Int):=by omega
    have hI1:(i:Int)<(n.us.length:Int):=by omega
    have hI2:(n.us.length:Int)≤4001:=by have:=HL.out.1;omega
    have hp:n.us[i]?=some n.us[i]:=af bK;obtain ⟨c,Lu⟩ : ∃ c,t.2.2[i]?=some c:=⟨_,af (by have:=HL.out.2;omega)⟩
    have p8:=HK.out i n.us[i] c hp Lu;have eK:((t.2.2.map (jc h)).take (i+1)).sum=((t.2.2.map (jc h)).take i).sum+jc h c:=wN (by rw [aL,Lu];rfl)
    have hle:=lK (t.2.2.map (jc h)) (i+1);have G8:=HC.out;rw [FQ.out] at G8;generalize n.us[i]=p at *;obtain ⟨S,hS⟩ : ∃ S,S=((t.2.2.map (jc h)).take i).sum:=⟨_,rfl⟩;rw [← hS] at eK ⊢;have gP:Hid (((t.2.2.map (jc h)).take (i+1)).sum=S+jc h c∧S+jc h c≤1099511627776):=⟨eK,by omega⟩
    have hsb:(S:Int)≤1099511627776:=by omega
    have ye:(0:Int)≤(S:Int):=by omega
    have P9:jc h c≤1099511627776:=by omega
    clear yR HK hp eK hle G8 hS;cases p with
    | pg id =>
     have Vn:w.cell? ⟨g,o+i,none⟩=some (.iface 146 (.int .i64 id)):=c1;have PU:gE PG h id c:=p8;have HZ:Hid (jc h c=0):=E1 (by
      cases h with
      | zero=>have h1:=PU.1;have h2:=PU.2.1;show c.1≠0;omega
      | succ h=>have h1:=PU.1;have h2:=PU.2.1;show c.1≠0;omega)
     clear c1 p8 PU;go_wp2_with fail;refine (xm id w).mono ?_
     rintro e w1 ⟨rfl,rfl⟩;go_wp2;go_roundw
     case rel=>exact ⟨i+1,by have h1:=gP.out.1;have h2:=HZ.out;rw [h1,h2];simp,by go_num,bK,trivial⟩
     case measure=>simp [intOf];omega
    | nd b2 =>
     have Vn:w.cell? ⟨g,o+i,none⟩=some (.iface 152 (.pointer (some ⟨b2,0,none⟩))):=c1;have HR:=ab (xG h b2 c w p8 P9);have RC:(0:Int)≤(jc h c:Int):=by omega
     have sw:(S:Int)+(jc h c:Int)≤1099511627776:=by have:=gP.out.2;omega
     obtain ⟨X,hX⟩ : ∃ X,X=jc h c:=⟨_,rfl⟩;rw [← hX] at HR RC sw gP;clear c1 p8 hX P9;go_wp2_with fail;refine HR.out.mono ?_
     rintro e w1 ⟨rfl,rfl⟩;go_wp2;go_roundw
     case rel=>exact ⟨i+1,by have h1:=gP.out.1;rw [h1];congr 1;omega,by go_num,bK,trivial⟩
     case measure=>simp [intOf];omega
   ·have hI1:¬ (i:Int)<(n.us.length:Int):=by omega
    have he:(t.2.2.map (jc h)).take i=t.2.2.map (jc h):=al (by rw [az];have:=HL.out.2;omega)
    have HE:Hid ((((t.2.2.map (jc h)).take i).sum:Int)+1=(jc (h+1) t:Int)):=by show _=_;rw [he,FQ.out];omega
    rw [HE.out];clear he FQ HK yR;go_wp2;go_ret;exact ⟨rfl,rfl⟩
end
def dO:cC→Nat
 | none=>0
 | some x=>jc x.1 x.2
section
variable {base:Nat} {A:Nat→Addr} {db:Nat} {F:Nat→Prop} {d:S.V.bw} {W0:World} {r:cC}
theorem iz{w:World}{tb:Nat}(hc:Ts base A db F d W0 w tb r)(hn:dO r≤1099511627776):Calls prog 20 #[.pointer (some ⟨tb,0,none⟩)] w fun e w'=>e = .returned (.int .i64 (dO r:Int))∧w=w':=by
 obtain ⟨rv,ht,zA⟩:=hc.tr;have c1:=ht.c1;clear ht hc;rcases zA with ⟨rfl,rfl⟩ | ⟨p,h,t,rfl,rfl,hp⟩
 ·have hq:=fun W=>oM W
  go_enter func20,ntmps20;go_wp2;go_ret;exact ⟨rfl,rfl⟩
 ·cases p with
  | pg id =>
   have Vn:w.cell? ⟨tb,1,none⟩=some (.iface 146 (.int .i64 id)):=c1;have hq:=fun W=>nA 146 (.int .i64 id) W
   have PU:gE (cM d) h id t:=hp;have HZ:Hid (dO (some ⟨h,t⟩)=0):=E1 (by
    cases h with
    | zero=>have h1:=PU.1;have h2:=PU.2.1;show t.1≠0;omega
    | succ h=>have h1:=PU.1;have h2:=PU.2.1;show t.1≠0;omega)
   clear c1 hp PU;go_enter func20,ntmps20;go_wp2_with fail;refine (xm id w).mono ?_
   rintro e w1 ⟨rfl,rfl⟩;go_wp2;go_ret;exact ⟨by rw [HZ.out];rfl,rfl⟩
  | nd b =>
   have Vn:w.cell? ⟨tb,1,none⟩=some (.iface 152 (.pointer (some ⟨b,0,none⟩))):=c1;have hq:=fun W=>nA 152 (.pointer (some ⟨b,0,none⟩)) W
   have HR:=ab (xG h b t w hp hn);clear c1 hp;go_enter func20,ntmps20;go_wp2_with fail;refine HR.out.mono ?_
   rintro e w1 ⟨rfl,rfl⟩;go_wp2;go_ret;exact ⟨rfl,rfl⟩
end
def uV(w:World)(base:Nat)(v:Value)(l:List Nat):Prop :=
 w.ownsRow base 3 1 v l.length (Q.j7 l)∧∀ g,v.ownBlock=some g→∃ cur,w.heap[g]?=some (.cells cur 3 (0,0))∧∀ u ∈ cur.toList,Plain u
theorem uV.nil(w:World)(base:Nat):uV w base (.slice none 0 0) []:=⟨World.ownsRow_nil _ _ _ _,fun g h=>by simp [Value.ownBlock] at h⟩
theorem uV.form{w:World}{base:Nat}{v:Value}{l:List Nat}(h:uV w base v l):∃ a c,v = .slice a l.length c:=by
 rcases h.1.2 with ⟨rfl,h0⟩ | ⟨g0,cap,cur,rfl,_⟩
 ·cases l with
  | nil=>exact ⟨_,_,rfl⟩
  | cons _ _=>simp at h0
 ·exact ⟨_,_,rfl⟩
theorem uV.dF{w:World}{base:Nat}{v:Value}{l:List Nat}(h:uV w base v l){g:Nat}(hg:v.ownBlock=some g):base≤g∧g<w.heap.size:=by
 rcases h.1.2 with ⟨rfl,h0⟩ | ⟨g0,cap,cur,rfl,lZ,oH,_⟩
 ·simp [Value.ownBlock] at hg
 ·simp only [Value.ownBlock,Option.some.injEq] at hg;subst hg;exact ⟨lZ,(Array.getElem?_eq_some_iff.1 oH).1⟩
theorem uV.odd{w:World}{base:Nat}{v:Value}{l:List Nat}(h:uV w base v l){g:Nat}(hg:v.ownBlock=some g):Uo w g:=by
 obtain ⟨cur,h1,h2⟩:=h.2 g hg;refine ⟨fun j u hc=>?_,fun cs fr e=>?_,fun cs fr e=>?_⟩
 ·rw [cell_of_row w g j cur _ _ h1] at hc;exact (h2 u (by have:=Array.getElem?_eq_some_iff.1 hc;obtain ⟨h3,h4⟩:=this;rw [← h4];exact gH h3)).no
 ·rw [h1] at e;simp at e
 ·rw [h1] at e;simp at e
theorem uV.same{w w':World}{lo:Nat}{v:Value}{l:List Nat}(h:uV w lo v l)(hb:∀ g,v.ownBlock=some g→w'.heap[g]?=w.heap[g]?):uV w' lo v l:=by
 refine ⟨⟨h.1.1,?_⟩,fun g hg=>?_⟩
 ·rcases h.1.2 with h' | ⟨g,cap,cur,h',h1,h2,hr⟩
  ·exact .inl h'
  ·exact .inr ⟨g,cap,cur,h',h1,(hb g (by rw [h'];rfl)).trans h2,hr⟩
 ·obtain ⟨cur,h1,h2⟩:=h.2 g hg;exact ⟨cur,(hb g hg).trans h1,h2⟩
theorem xH(l:List Nat):∀ u ∈ Q.j7 l,Plain u:=fun u hu=>by
 obtain ⟨n,_,rfl⟩:=List.mem_map.1 hu;exact .inr ⟨_,_,rfl⟩
theorem CG(n:Nat):∀ u ∈ (Builtin.zeroCells (Value.int .i64 0).cells n).toList,Plain u:=by
 intro u hu;simp only [Builtin.zeroCells,Value.cells] at hu;simp at hu
 obtain ⟨i,_,rfl⟩:=hu;have h:i % 1=0:=Nat.mod_one i
 first | exact .inr ⟨.i64,0,rfl⟩ | (simp [h];exact .inr ⟨.i64,0,rfl⟩)
theorem UT:(prog.info? 3).map (fun i=>(i.zero,i.size,i.bytes))=some (some (.int .i64 0),1,8):=by kernel_rfl
theorem uV.push(base:Nat)(v:Value)(l:List Nat)(p:Nat)(w:World)(h:uV w base v l)(hn:l.length≤1099511627776)(dx:base≤w.heap.size):∃ a' c' w',(Builtin.append_ #[69,69] 69 #[v,.slice (some ⟨w.heap.size,0,none⟩) 1 1]).run prog (w.alloc (.cells #[.int .i64 (p:Int)] 3)) = .ok (.slice a' (l.length+1) c') w'∧uV w' base (.slice a' (l.length+1) c') (l++[p])∧(w.alloc (.cells #[.int .i64 (p:Int)] 3)).grownBy w' v.ownBlock:=by
 obtain ⟨i0,hi,hz,b8,kP⟩:=info_parts UT;obtain ⟨W,hW⟩ : ∃ W,W=w.alloc (.cells #[.int .i64 (p:Int)] 3):=⟨_,rfl⟩;have hsW:W.heap.size=w.heap.size+1:=by rw [hW];simp
 have ny:=bM w #[.int .i64 (p:Int)] 3;rw [← hW] at ny;have ho:W.ownsRow base 3 1 v l.length (Q.j7 l):=hW▸World.ownsRow.alloc h.1 _;have ik:∀ j u,([.int .i64 (p:Int)] : List Value)[j]?=some u→W.cell? ((⟨w.heap.size,0,none⟩ : Addr).add j)=some u:=fun j u hj=>by
  rw [bt,Nat.zero_add];match j,hj with
  | 0,hj=>cases hj;exact ny.2 0 (by simp)
 have Lh:nG W (.slice (some ⟨w.heap.size,0,none⟩) 1 1) [.int .i64 (p:Int)]:=by
  refine ⟨_,_,rfl,aj _,(fun e=>by cases e),fun j u hj=>⟨_,_,rfl,?_⟩⟩
  have:=ik j u hj;rw [bt] at this;exact this
 obtain ⟨a',c',w',hr,aF,hg⟩:=nF 69 3 (.int .i64 0) 8 UT underlying69 rfl base l.length v (Q.j7 l) W ho _ [.int .i64 (p:Int)] Lh (by simp [Value.oneCell']) (by simp;omega) (by decide) (by omega)
 rw [aQ] at hr aF;rw [← hW];have gu:w'.ownsRow base 3 1 (.slice a' (l.length+1) c') (l++[p]).length (Q.j7 (l++[p])):=by
  rw [ae,Q.uj];exact aF
 have RK:∀ u ∈ ([.int .i64 (p:Int)] : List Value),Plain u:=xH [p];suffices hh:∀ g,(Value.slice a' (l.length+1) c').ownBlock=some g→∃ cur,w'.heap[g]?=some (.cells cur 3 (0,0))∧∀ u ∈ cur.toList,Plain u from ⟨a',c',w',hr,⟨gu,hh⟩,hg⟩
 have yf:(Q.j7 l).length=l.length:=by unfold Q.j7;rw [az]
 rcases h.1.2 with ⟨rfl,h0⟩ | ⟨g0,cap,cur,rfl,lZ,oH,BQ,sB,fI,mf⟩
 ·have hq:=run_append_nil (P:=prog) W 69 69 3 i0 _ underlying69 hi hz ⟨w.heap.size,0,none⟩ 1 1 _ (by rw [b8];rfl) ik (by omega) (by omega) (by rw [kP];omega)
  rw [hq] at hr;simp only [Result.ok.injEq,Value.slice.injEq] at hr;obtain ⟨⟨rfl,-,-⟩,rfl⟩:=hr;intro g il;simp only [Value.ownBlock,Option.some.injEq] at il;subst il;refine ⟨_,heap_alloc_new (World.drew _) _,fun u hu=>?_⟩
  simp only [bX,cu] at hu;rcases hu with hu | hu
  ·exact RK u (by simpa using hu)
  ·exact CG _ u hu
 ·have fO:W.heap[g0]?=some (.cells cur 3 (0,0)):=hW▸(heap_alloc_old w _ (Array.getElem?_eq_some_iff.1 oH).1).trans oH;have tn:∀ u ∈ cur.toList,Plain u:=by
   obtain ⟨fJ,h1,h2⟩:=h.2 g0 rfl;rw [oH] at h1;simp only [Option.some.injEq,Obj.cells.injEq,and_true] at h1;subst h1;exact h2
  by_cases eh:l.length+1≤cap
  ·have hq:=run_append_room (P:=prog) W 69 69 3 i0 underlying69 hi g0 l.length cap cur fO ⟨w.heap.size,0,none⟩ 1 1 _ (by rw [b8];rfl) ik (by intro u hu;rcases RK u hu with ⟨q,rfl⟩ | ⟨q,x,rfl⟩ <;> rfl) eh (by rw [b8,fI];simp;omega)
   rw [hq] at hr;simp only [Result.ok.injEq,Value.slice.injEq] at hr;obtain ⟨⟨rfl,-,-⟩,rfl⟩:=hr;intro g il;simp only [Value.ownBlock,Option.some.injEq] at il;subst il;refine ⟨_,setRow_heap _ g0 cur _ _ _ fO,fun u hu=>?_⟩
   simp only [cu] at hu;rcases hu with (hu | hu) | hu
   ·exact tn u (bn hu)
   ·exact RK u hu
   ·exact tn u (bH hu)
  ·have holds:∀ j u,(Q.j7 l)[j]?=some u→W.cell? ((⟨g0,0,none⟩ : Addr).add j)=some u:=World.ownsRow.cells ho (g:=g0) rfl;have hq:=run_append_grow (P:=prog) W 69 69 3 i0 _ underlying69 hi hz ⟨g0,0,none⟩ l.length cap (Q.j7 l) (by rw [b8,yf];omega) holds ⟨w.heap.size,0,none⟩ 1 1 _ (by rw [b8];rfl) ik (by omega) (by omega) (growslice_fits (by omega) (by rw [kP];omega))
   rw [hq] at hr;simp only [Result.ok.injEq,Value.slice.injEq] at hr;obtain ⟨⟨rfl,-,-⟩,rfl⟩:=hr;intro g il;simp only [Value.ownBlock,Option.some.injEq] at il;subst il;refine ⟨_,heap_alloc_new (World.drew _) _,fun u hu=>?_⟩
   simp only [bX,cu] at hu;rcases hu with (hu | hu) | hu
   ·exact xH l u (by simpa using hu)
   ·exact RK u (by simpa using hu)
   ·exact CG _ u hu
end T
end Go.Proofs.YtihmgigfkmofnaaGreatDoor
