import Derived.Test.YtihmgigfkmofnaaGreatDoorG27
import Derived.Deep.DrawnRows
set_option maxHeartbeats 4000000
set_option maxRecDepth 100000
open Go.Proofs.Tryz
namespace Go.Proofs.YtihmgigfkmofnaaGreatDoor
namespace T
open Go.RowKit
structure Bx where
 m:Nat
 mb:Nat
 t:Nat
 f:Nat
 fr:Nat
 en:Nat
 p:Nat
 l:Nat
 g:Nat
def ptr(b:Nat):Value:=.pointer (some ⟨b,0,none⟩)
def Bx.afQ(x:Bx):Array Value:=#[ptr x.m,ptr x.f,ptr x.t,ptr x.fr,ptr x.en,ptr x.p,ptr x.l,ptr x.g]
structure Gs(base:Nat)(A:Nat→Addr)(db:Nat)(F:Nat→Prop)(d:S.V.bE)(w0:World)(tb:Nat)(x:Bx)(fr en:ByteArray)(lim lo:Nat)(w:World)(v:Value)(acc:List Pr)(M:List Nat):Prop where
 dv:Dv base A db F d w
 mv:Mv db F w0 w
 cm:w.cell? ⟨x.m,0,none⟩=some (.map (some x.mb))
 ct:w.cell? ⟨x.t,0,none⟩=some (ptr tb)
 cf:w.cell? ⟨x.f,0,none⟩=some .nilIface
 cfr:w.cell? ⟨x.fr,0,none⟩=some (.string fr)
 cen:w.cell? ⟨x.en,0,none⟩=some (.string en)
 cl:w.cell? ⟨x.l,0,none⟩=some (.int .i64 (lim:Int))
 cg:w.cell? ⟨x.g,0,none⟩=some (.func (.func 90) #[] x.afQ)
 row:B.au w x.p #[v] 63
 ps:zb w lo v acc
 len:acc.length≤lim
 met:Met w x.mb M
 Ef:M.length<1099511627776
 ord:∀ b ∈ [x.m,x.t,x.f,x.fr,x.en,x.l,x.g,x.p,x.mb],w0.heap.size≤b∧b<lo
 no:∀ b ∈ [x.m,x.t,x.f,x.fr,x.en,x.l,x.g],b≠x.p
 UO:db<w0.heap.size
 lo:lo≤w.heap.size
section
variable {base:Nat} {A:Nat→Addr} {db:Nat} {F:Nat→Prop} {d:S.V.bE} {w0:World} {tb:Nat} {x:Bx} {fr en:ByteArray} {lim lo:Nat} {w w':World} {v v':Value} {acc Nq:List Pr} {M M':List Nat}
theorem Gs.keep(h:Gs base A db F d w0 tb x fr en lim lo w v acc M)(hv:Dv base A db F d w')(hm:Mv db F w0 w')(hg:wV db x.p x.mb w v w' v')(hr:B.au w' x.p #[v'] 63)(hp:zb w' lo v' Nq)(hl:Nq.length≤lim)(hmt:Met w' x.mb M')(nk:M'.length<1099511627776):Gs base A db F d w0 tb x fr en lim lo w' v' Nq M':=by
 have hb:∀ b ∈ [x.m,x.t,x.f,x.fr,x.en,x.l,x.g],∀ u,w.cell? ⟨b,0,none⟩=some u→w'.cell? ⟨b,0,none⟩=some u:=fun b hb u hc=>by
  have ho:=h.ord b (by simp only [dO,dB,or_false] at hb ⊢;rcases hb with rfl | rfl | rfl | rfl | rfl | rfl | rfl <;> simp)
  refine bP (hg.block b (World.block_lt_of_cell? w _ hc) (by have:=h.UO;omega) (h.no b hb) (h.met.ne hc) fun e=>?_) hc
  have:=(h.ps.1.dx b e).1;omega
 exact ⟨hv,hm,hb _ (by simp) _ h.cm,hb _ (by simp) _ h.ct,hb _ (by simp) _ h.cf,hb _ (by simp) _ h.cfr,hb _ (by simp) _ h.cen,hb _ (by simp) _ h.cl,hb _ (by simp) _ h.cg,hr,hp,hl,hmt,nk,h.ord,h.no,h.UO,ar h.lo hg.size⟩
theorem zb.mv{w w':World}(h:zb w lo v acc)(hm:Mv db F w w')(hdb:db<lo):zb w' lo v acc:=by
 have hb:∀ g,v.ownBlock=some g→w'.heap[g]?=w.heap[g]?:=fun g hg=>by
  have:=h.1.dx g hg;exact hm.one.block g this.2 (by omega)
 refine ⟨⟨h.1.1,?_⟩,fun g hg=>?_⟩
 ·rcases h.1.2 with h' | ⟨g,cap,cur,h',h1,h2,hr⟩
  ·exact .inl h'
  ·exact .inr ⟨g,cap,cur,h',h1,(hb g (by rw [h'];rfl)).trans h2,hr⟩
 ·obtain ⟨cur,h1,h2⟩:=h.2 g hg;exact ⟨cur,(hb g hg).trans h1,h2⟩
theorem Gs.go(h:Gs base A db F d w0 tb x fr en lim lo w v acc M)(hm:Mv db F w w')(hv:Dv base A db F d w'):Gs base A db F d w0 tb x fr en lim lo w' v acc M:=by
 have Qt:=h.ord x.p (by simp)
 refine h.keep hv (h.mv.trans hm) (wV.mv v hm) ?_ (h.ps.mv hm (by have:=h.UO;omega)) h.len (h.met.same (hm.one.block x.mb h.met.lt (by have:=h.ord x.mb (by simp);have:=h.UO;omega))) h.Ef
 exact (hm.one.block x.p h.row.lt (by have:=h.UO;omega)).trans h.row
theorem Gs.below(h:Gs base A db F d w0 tb x fr en lim lo w v acc M)(hb:Below w.heap.size w w'):Gs base A db F d w0 tb x fr en lim lo w' v acc M:=h.go (Mv.of hb) (h.dv.below hb)
end
theorem rL{w:World}{b:Nat}{v:Value}{T:TypeId}(h:B.au w b #[v] T)(u:Value):B.au (w.setCell ⟨b,0,none⟩ u) b #[u] T:=by
 unfold B.au at h ⊢;rw [setCell_eq_setRow w b 0 #[v] T (0,0) u h];exact setRow_heap w b #[v] _ T (0,0) h
theorem zb.same{w w':World}{lo:Nat}{v:Value}{acc:List Pr}(h:zb w lo v acc)(hb:∀ g,v.ownBlock=some g→w'.heap[g]?=w.heap[g]?):zb w' lo v acc:=by
 refine ⟨⟨h.1.1,?_⟩,fun g hg=>?_⟩
 ·rcases h.1.2 with h' | ⟨g,cap,cur,h',h1,h2,hr⟩
  ·exact .inl h'
  ·exact .inr ⟨g,cap,cur,h',h1,(hb g (by rw [h'];rfl)).trans h2,hr⟩
 ·obtain ⟨cur,h1,h2⟩:=h.2 g hg;exact ⟨cur,(hb g hg).trans h1,h2⟩
section
variable {base:Nat} {A:Nat→Addr} {db:Nat} {F:Nat→Prop} {d:S.V.bE} {w0:World} {tb:Nat} {x:Bx} {fr en:ByteArray} {lim lo:Nat}
theorem Gs.grow{w:World}{v s:Value}{acc us:List Pr}{M:List Nat}(h:Gs base A db F d w0 tb x fr en lim lo w v acc M)(iK:Dv base A db F d w0)(hs:gM w s us)(hb:(acc.length+us.length)*32≤140737488355328)(hl:acc.length+us.length≤lim):∃ a' c' w',(Builtin.append_ #[63,63] 63 #[v,s]).run prog w = .ok (.slice a' (acc.length+us.length) c') w'∧w'.frozen? ⟨x.p,0,none⟩=false∧w'.cell? ⟨x.p,0,none⟩=some v∧w'.cell? ⟨x.l,0,none⟩=some (.int .i64 (lim:Int))∧Gs base A db F d w0 tb x fr en lim lo (w'.setCell ⟨x.p,0,none⟩ (.slice a' (acc.length+us.length) c')) (.slice a' (acc.length+us.length) c') (acc++us) M∧wV db x.p x.mb w v (w'.setCell ⟨x.p,0,none⟩ (.slice a' (acc.length+us.length) c')) (.slice a' (acc.length+us.length) c'):=by
 obtain ⟨a',c',w',hr,kt,hg,aE⟩:=zb.app lo v s acc us w h.ps hs hb h.lo;have Qt:=h.ord x.p (by simp)
 have fl:∀ b,b<lo→some b≠v.ownBlock:=fun b hb e=>by
  have:=(h.ps.1.dx b e.symm).1;omega
 have bH:B.au w' x.p #[v] 63:=(hg.block x.p h.row.lt (fl _ Qt.2)).trans h.row;have dG:=bG.set x.p 0 w' (.slice a' (acc.length+us.length) c');have pX:w.heap.size≤w'.heap.size:=hg.size;have QH:wV db x.p x.mb w v (w'.setCell ⟨x.p,0,none⟩ (.slice a' (acc.length+us.length) c')) (.slice a' (acc.length+us.length) c'):=⟨ar pX dG.size,fun k hk _ h2 _ h3=>(dG.block k (aq hk pX) h2).trans (hg.block k hk (fun e=>h3 e.symm)),aE⟩
 have n7:=h.lo;have n9:Below w0.heap.size w (w'.setCell ⟨x.p,0,none⟩ (.slice a' (acc.length+us.length) c')):=⟨dG.os.trans hg.os,dG.tape.trans hg.tape,dG.output.trans hg.output,ar pX dG.size,fun k hk=>(dG.block k (by omega) (by omega)).trans (hg.block k (by omega) (fl k (by omega)))⟩
 obtain ⟨Im,Ma⟩:=h.dv.grown n9 h.mv iK;have hlx:=h.ord x.l (by simp)
 refine ⟨a',c',w',hr,by unfold B.au at bH;simp [World.frozen?,bH],bH.cell 0 (by simp),bP (hg.block x.l (World.block_lt_of_cell? w _ h.cl) (fl _ hlx.2)) h.cl,h.keep Im Ma QH (rL bH _) (kt.same fun g Ii=>?_) (by rw [ae];exact hl) (h.met.same ((dG.block x.mb (aq h.met.lt pX) (h.met.ne (h.row.cell 0 (by simp))).symm).trans (hg.block x.mb h.met.lt (fl _ (h.ord x.mb (by simp)).2)))) h.Ef,QH⟩
 have:=kt.1.dx g Ii;exact dG.block g this.2 (by omega)
theorem Gs.meet{w w':World}{v:Value}{acc:List Pr}{M M':List Nat}(h:Gs base A db F d w0 tb x fr en lim lo w v acc M)(iK:Dv base A db F d w0)(hm:Met w' x.mb M')(nk:M'.length<1099511627776)(hg:w.grownBy w' (some x.mb)):Gs base A db F d w0 tb x fr en lim lo w' v acc M'∧wV db x.p x.mb w v w' v:=by
 have hom:=h.ord x.mb (by simp)
 have n7:=h.lo;have pX:w.heap.size≤w'.heap.size:=hg.size;have cY:∀ k,k≠x.mb→some k≠some x.mb:=fun k hk e=>hk (Option.some.inj e)
 have QH:wV db x.p x.mb w v w' v:=⟨pX,fun k hk _ _ h3 _=>hg.block k hk (cY k h3),fun _ h=>.inl h⟩
 have n9:Below w0.heap.size w w':=⟨hg.os,hg.tape,hg.output,pX,fun k hk=>hg.block k (by omega) (cY k (by omega))⟩
 obtain ⟨Im,Ma⟩:=h.dv.grown n9 h.mv iK;refine ⟨h.keep Im Ma QH ((hg.block x.p h.row.lt (cY _ (h.met.ne (h.row.cell 0 (by simp))))).trans h.row) (h.ps.same fun g Ii=>?_) h.len hm nk,QH⟩
 have:=h.ps.1.dx g Ii;exact hg.block g this.2 (cY _ (by omega))
end
variable {α:Type} {q h:Nat} {t:Nd (h+1)} {cs:List (Nd h)} {i:Nat}
def Np(ks:List ByteArray):Nat→Option ByteArray
 | 0=>none
 | j+1=>ks[j]?
theorem AN:∀ (l:List ByteArray) (lo:Option ByteArray) (k:ByteArray),iZ lo (l++[k])=some k
 | [],_,_=>rfl
 | _::l,_,k=>AN l _ k
theorem PJ(ks:List ByteArray)(q:Nat)(hq:q≤ks.length):iZ none (ks.take q)=Np ks q:=by
 cases q with
 | zero=>simp [iZ,Np]
 | succ j =>
  have hj:j<ks.length:=by omega
  rw [gw,af hj];show iZ none (ks.take j++[ks[j]])=ks[j]?
  rw [AN,af hj]
theorem U2(lk:List B.Lk)(i:Nat)(en:ByteArray)(hi:i≤lk.length):A0 lk i en=yU en (Np (lk.map (·.1)) i):=by
 cases i with
 | zero=>rfl
 | succ j =>
  have hj:j<lk.length:=by omega
  show (if en=⟨#[]⟩ then false else match lk[j]? with | some p=>!cR p.1 en | none=>false)=yU en ((lk.map (·.1))[j]?)
  rw [aG,af hj];simp only [kx,yU];by_cases h:en=⟨#[]⟩
  ·simp [h]
  ·simp [h]
theorem My(g:α→List Pr→List Pr × Bool)(en:ByteArray)(ks:List ByteArray)(cs:List α)(i:Nat)(acc:List Pr)(hi:cs.length≤i):lQ g en (Np ks i) (ks.drop i) (cs.drop i) acc=(acc,true):=by
 rw [dC hi];rfl
theorem Ir(g:α→List Pr→List Pr × Bool)(en:ByteArray)(ks:List ByteArray)(cs:List α)(i:Nat)(acc:List Pr)(c:α)(hc:cs[i]?=some c):lQ g en (Np ks i) (ks.drop i) (cs.drop i) acc=if yU en (Np ks i)=true then (acc,false) else if (g c acc).2=true then lQ g en (Np ks (i+1)) (ks.drop (i+1)) (cs.drop (i+1)) (g c acc).1 else ((g c acc).1,false):=by
 obtain ⟨hi,hv⟩:=List.getElem?_eq_some_iff.1 hc;rw [bg hi,hv];show (if yU en (Np ks i)=true then (acc,false) else if (g c acc).2=true then lQ g en (ks.drop i).head? (ks.drop i).tail (cs.drop (i+1)) (g c acc).1 else ((g c acc).1,false))=_
 rw [List.head?_drop,List.tail_drop];rfl
theorem Ph{lk:List B.Lk}{key:ByteArray}(hp:B.fK lk key q)(hs:(lk.map (·.1)).Pairwise fun a b=>cR a b=true):(lk.map (·.1)).findIdx (fun k=>cR key k)=q:=by
 obtain ⟨h1,h2⟩:=ng hp hs;have hq:q≤(lk.map (·.1)).length:=by rw [az];exact hp.1
 rw [← aI q (lk.map (·.1)),List.findIdx_append];have e1:((lk.map (·.1)).take q).findIdx (fun k=>cR key k)=((lk.map (·.1)).take q).length:=List.findIdx_eq_length.2 fun k hk=>h1 k hk
 rw [if_neg (by rw [e1];exact Nat.lt_irrefl _),ag,aT hq]
 cases hd:(lk.map (·.1)).drop q with
 | nil=>simp
 | cons k r =>
  have:=h2 k (by rw [hd];rfl)
  rw [lB,this];simp
theorem Mx{fr en:ByteArray}{lim:Nat}{lk:List B.Lk}(acc:List Pr)(hk:t.2.1=lk.map (·.1))(hp:B.fK lk fr q)(hs:t.2.1.Pairwise fun a b=>cR a b=true):fy fr en lim (h+1) t acc=lQ (fy fr en lim h) en (Np t.2.1 q) (t.2.1.drop q) (t.2.2.drop q) acc:=by
 show lQ _ en (iZ none (t.2.1.take (t.2.1.findIdx fun k=>cR fr k))) _ _ acc=_
 have e:(t.2.1.findIdx fun k=>cR fr k)=q:=by rw [hk];exact Ph hp (by rw [← hk];exact hs)
 rw [e,PJ _ _ (by rw [hk,az];exact hp.1)]
theorem xM{c:Nd h}(hc:cs[i]?=some c):(cs.take (i+1)).flatMap (cD h)=(cs.take i).flatMap (cD h)++cD h c:=by
 rw [gw,hc,aN];simp
theorem Jz(i:Nat):((cs.take i).flatMap (cD h)).Sublist (cs.flatMap (cD h)):=by
 conv=>rhs;rw [← aI i cs]
 rw [aN];exact List.sublist_append_left _ _
theorem JA{h:Nat}{t:Nd (h+1)}{c:Nd h}(hc:t.2.2[i]?=some c)(hn:(cD (h+1) t).Nodup):(cD h c).Nodup∧∀ j ∈ cD h c,j ∉ cU t.1∧j ∉ (t.2.2.take i).flatMap (cD h):=by
 have hn:(cU t.1++t.2.2.flatMap (cD h)).Nodup:=hn;have h1:(cU t.1++((t.2.2.take i).flatMap (cD h)++cD h c)).Nodup:=hn.sublist (by rw [← xM hc];exact List.Sublist.append_left (Jz _) _)
 obtain ⟨_,h2,h3⟩:=List.nodup_append.1 h1;obtain ⟨_,h4,h5⟩:=List.nodup_append.1 h2;refine ⟨h4,fun j hj=>⟨fun h=>h3 j h j (cy _ hj) rfl,fun h=>h5 j h j hj rfl⟩⟩
theorem Tp(w:World)(m n:Int):(Builtin.min_ #[3,3] 3 #[.int .i64 m,.int .i64 n]).run prog w = .ok (.int .i64 (min m n)) w:=by
 simp [Builtin.min_,Builtin.min2]
 split <;> omega
theorem BP{ops:Array Oper}{o:Oper}{a:Act}{w:World}{K:Act→World→Prop}{Q:Exit→Act→World→Prop}{E:Prop}(nH:o.guard=none)(x y:Operand)
  (ho:o.op = .call { callee:=.builtin .min,args:=#[x,y],argTypes:=#[3,3] }) (zR:o.type=3) (m n r:Int) (hx:a.eval x = .int .i64 m) (hy:a.eval y = .int .i64 n) (hr:min m n=r)
  (h:K (a.put o.dst (.int .i64 r)) w):if Region.wanted o (yielded ops a.tmps)=true then Oper.wp prog o a w K Q else E:=by
 have hw:Region.wanted o (yielded ops a.tmps)=true:=by simp [Region.wanted,nH]
 rw [if_pos hw];unfold Oper.wp;simp [execOp,ho,resolve,invoke,builtin,hx,hy,zR,Tp,Result.andThen,hr]
 exact h
attribute [local go_sem ↓] Go.wp_at_zero Go.wp_at_succ
theorem yl{PG:Int→Option PD}{w:World}{h:Nat}{p:C.Ch}{t:Nd h}(hk:eu PG w h p t):TZ p=(fh h t:Int)∧fh h t<1048576:=by
 cases p with
 | pg id =>
  have hk:fu PG h id t:=hk;cases h with
  | zero =>
   obtain ⟨h1,h2,_⟩:=hk;have e:(fh 0 t:Int)=id:=h2;exact ⟨e.symm,by omega⟩
  | succ h =>
   obtain ⟨h1,h2,_⟩:=hk;have e:(fh (h+1) t:Int)=id:=h2;exact ⟨e.symm,by omega⟩
 | nd b =>
  have h0:fh h t=0:=hk.1;exact ⟨by rw [h0];rfl,by omega⟩
theorem G5{h:Nat}{t:Nd h}:∀ i ∈ cU (fh h t),i ∈ cD h t:=fun i hi=>by
 cases h with
 | zero=>exact hi
 | succ h=>exact dV _ hi
theorem JG{h:Nat}{t:Nd h}:(cU (fh h t)).length≤(cD h t).length:=by
 cases h with
 | zero=>exact aj _
 | succ h =>
  show (cU t.1).length≤(cU t.1++_).length
  rw [ae];omega
section
variable {base:Nat} {A:Nat→Addr} {db:Nat} {F:Nat→Prop} {d:S.V.bE} {w0:World} {tb:Nat} {x:Bx} {fr en:ByteArray} {lim lo:Nat}
theorem Gs.again{h:Nat}{p:C.Ch}{t:Nd h}{w:World}{v:Value}{acc:List Pr}{M:List Nat}(hg:Gs base A db F d w0 tb x fr en lim lo w v acc M)(iK:Dv base A db F d w0)(hk:eu (cF d) w0 h p t)(lW:∀ i ∈ cD h t,i ∉ M)(nk:M.length+(cD h t).length<1099511627776):Calls prog 91 #[.map (some x.mb),p.val] w fun e w'=>e = .returned (.bool false)∧Gs base A db F d w0 tb x fr en lim lo w' v acc (M++cU (fh h t))∧wV db x.p x.mb w v w' v:=by
 obtain ⟨h1,h2⟩:=yl hk;have fl:decide (fh h t ∈ M)=false:=by
  rw [decide_eq_false_iff_not];intro hm;have h3:=hg.met.ok _ hm;refine lW _ (G5 _ ?_) hm;unfold cU;rw [if_neg (by omega)]
  simp
 refine (r9 p (fh h t) h1 h2 x.mb M w hg.met hg.Ef).mono ?_
 rintro e w' ⟨rfl,hm,Bd⟩;rw [JP] at hm;have hl:=JG (t:=t);obtain ⟨g1,g2⟩:=hg.meet iK hm (by rw [ae];omega) Bd
 exact ⟨by rw [fl],g1,g2⟩
def F7(base:Nat)(A:Nat→Addr)(db:Nat)(F:Nat→Prop)(d:S.V.bE)(w0:World)(tb:Nat)(x:Bx)(fr en:ByteArray)(lim lo:Nat)(w:World)(v:Value)(M P:List Nat)(r:List Pr × Bool)(e:Ending)(w':World):Prop :=
 ∃ v' M',e = .returned (.bool r.2)∧Gs base A db F d w0 tb x fr en lim lo w' v' r.1 M'∧wV db x.p x.mb w v w' v'∧(∀ i ∈ M',i ∈ M∨i ∈ P)∧M'.length≤M.length+P.length
theorem E7{rv:Value}(iK:Dv base A db F d w0)(Hy:B.au w0 tb #[.pointer (some ⟨db,0,none⟩),rv] 100)(p:C.Ch)(t:Nd 0)(dp:Nat)(w:World)(v:Value)(acc:List Pr)(M:List Nat)(hk:eu (cF d) w0 0 p t)(nH:jH ⟨0,t⟩)(h:Gs base A db F d w0 tb x fr en lim lo w v acc M)(Gh:dp≤64)(VT:lim≤9223372036854775807)(eb:(acc.length+t.2.length)*32≤140737488355328)(lW:∀ i ∈ cD 0 t,i ∉ M)(nk:M.length+(cD 0 t).length<1099511627776):Calls prog 90 #[p.val,.int .i64 (dp:Int),.pointer (some ⟨x.m,0,none⟩),.pointer (some ⟨x.f,0,none⟩),.pointer (some ⟨x.t,0,none⟩),.pointer (some ⟨x.fr,0,none⟩),.pointer (some ⟨x.en,0,none⟩),.pointer (some ⟨x.p,0,none⟩),.pointer (some ⟨x.l,0,none⟩),.pointer (some ⟨x.g,0,none⟩)] w (F7 base A db F d w0 tb x fr en lim lo w v M (cD 0 t) (fy fr en lim 0 t acc)):=by
 have I3:=ab (h.again iK hk lW nk);have wP:Hid (∀ W,Gs base A db F d w0 tb x fr en lim lo W v acc (M++cU (fh 0 t))→Calls prog 92 #[.pointer (some ⟨tb,0,none⟩),p.val,.int .i64 (dp:Int)] W fun e w'=>(lU (pz d w0) A ⟨0,t⟩ e w'∧True)∧Dv base A db F d w'∧Mv db F W w'):=fun W hW=>by
  have aw:=hW.mv.cN iK;refine (qE (pz d w0) p ⟨0,t⟩ tb rv dp W ⟨⟨hk,nH⟩,.inl aw⟩ (dX aw Hy) hW.dv (.inr Gh)).mono ?_
  rintro e w' ⟨⟨h1,_⟩,h2,h3⟩;exact ⟨⟨h1,trivial⟩,h2,h3⟩
 obtain ⟨pt,px,ir⟩:=bU p;rw [ir] at wP I3 ⊢;have k0:w.cell? ⟨x.m,0,none⟩=some (.map (some x.mb)):=h.cm;have HRM:=ab eb;have ZH:=ab Gh;have Sb:=ab iK;have YD:=ab VT;have SV:=ab nk;clear h hk nH iK Hy ir Gh eb VT lW nk;go_enter func90,ntmps90;go_wp2_with fail;refine I3.out.mono ?_
 rintro e wa ⟨rfl,zY,Qi⟩;have k1:wa.cell? ⟨x.t,0,none⟩=some (.pointer (some ⟨tb,0,none⟩)):=zY.ct;have uL:=ab (wP.out wa zY);have HS:=ab zY;have HT:=ab Qi;clear zY Qi wP I3 k0;go_wp2_with fail;refine uL.out.mono ?_
 rintro e w1 ⟨⟨EI,_⟩,fD,fo⟩;rcases EI with ⟨hE,_⟩ | ⟨b,n,pv,lv,cv,rfl,hs,hn⟩
 ·exact (hE:False).elim
 ·have mf:=ab (HS.out.go fo fD);have IY:Hid (wV db x.p x.mb w v w1 v):=HT.out.trans (wV.mv v fo);have kt:n.ps=t.2:=hn.1.1.2;have h0:n.us.length=0:=by have h9:n.us=[]:=hn.1.1.1;rw [h9];rfl
  have ti:=ab (cG b n pv lv cv w1 hs);rw [show decide (n.us.length=0)=true by simp [h0]] at ti
  have hlen:n.ps.length≤4000:=hs.fine.2.1;have HWI:Hid (∀ W,Below w1.heap.size w1 W→Calls prog 94 #[pv,.string fr,.string en] W fun e w'=>∃ a c,e = .returned (.slice a (ed n.ps fr en).length c)∧gM w' (.slice a (ed n.ps fr en).length c) (ed n.ps fr en)∧Below w1.heap.size w1 w'):=fun W hW=>(Gu pv n.ps fr en W (by omega) (hs.iH.below hW)).mono fun e w' ⟨a,c,h1,h2,h3⟩=>⟨a,c,h1,h2,Below.next hW h3⟩
  have p0:=hs.c0;have Xg:=mf.out.cfr;have ken:=mf.out.cen;have tg:=ab kt;obtain ⟨xa,xc,wG⟩:=hs.iH.form;subst wG;clear fD fo uL hs hn h0 kt k1;go_wp2_with fail;refine ti.out.mono ?_
  rintro e w1' ⟨rfl,rfl⟩;go_wp2_with fail;go_region_held3 (fun w'=>w'.cell? ⟨b,0,none⟩=some (.slice xa n.ps.length xc)∧w'.cell? ⟨x.fr,0,none⟩=some (.string fr)∧w'.cell? ⟨x.en,0,none⟩=some (.string en)) (go_keep)
   (first
    | (go_at_call 94;refine (HWI.out _ (by first | exact Below.refl _ _ | exact B.aP (Below.refl _ _))).mono ?_;rintro e w2 ⟨ya,yc,rfl,hy,aV⟩;have HY:=ab hy;have bL:=ab aV;have m0:=(aV.cell (p:=⟨b,0,none⟩) (World.block_lt_of_cell? w1 _ p0)).trans p0;have m1:=(aV.cell (p:=⟨x.fr,0,none⟩) (World.block_lt_of_cell? w1 _ Xg)).trans Xg;have m2:=(aV.cell (p:=⟨x.en,0,none⟩) (World.block_lt_of_cell? w1 _ ken)).trans ken;clear hy aV))
  have lD:=ab (mf.out.below (B.aP bL.out));have HG2:Hid (wV db x.p x.mb w v w2.drew v):=IY.out.trans (wV.below v (B.aP bL.out));obtain ⟨wl,Sv⟩ : ∃ wl,wl=ed n.ps fr en:=⟨_,rfl⟩;rw [← Sv] at HY ⊢;obtain ⟨q,hq⟩ : ∃ q,q=min wl.length (lim - acc.length):=⟨_,rfl⟩;have Gj:=lD.out.len;have VT:=YD.out;have aeq:wl.length≤n.ps.length:=by rw [Sv];unfold ed;rw [al,ag];omega
  have hyc:wl.length≤yc:=by obtain ⟨_,_,he,h,_⟩:=HY.out;cases he;exact h
  have nP:=fun W=>K6 W ya wl.length yc q (by omega)
  have lE:(wl.take q).length=q:=by rw [ag];omega
  have Bd:=lD.out.grow (us:=wl.take q) (s:=.slice ya q yc) Sb.out ((HY.out.below (B.aP (Below.refl _ _))).take (by omega)) (by rw [lE];have:=HRM.out;rw [← tg.out] at this;omega) (by rw [lE];omega)
  rw [lE] at Bd;obtain ⟨a',c',w3,bw,kfz,kp,kl,pX,Zf⟩:=Bd;have cz:(fy fr en lim 0 t acc).1=acc++wl.take q∧(fy fr en lim 0 t acc).2=decide (((acc.length+q:Nat):Int)<(lim:Int)):=by
   have e1:(ed t.2 fr en).take (lim - acc.length)=wl.take q:=by
    rw [← tg.out,← Sv,hq,Nat.min_comm,← List.take_eq_take_min]
   refine ⟨?_,?_⟩
   ·show acc++(ed t.2 fr en).take (lim - acc.length)=_
    rw [e1]
   ·show decide ((acc++(ed t.2 fr en).take (lim - acc.length)).length<lim)=_
    rw [e1,ae,lE];congr 1
    exact propext ⟨fun h=>by omega,fun h=>by omega⟩
  have nV:Hid (F7 base A db F d w0 tb x fr en lim lo w v M (cD 0 t) (fy fr en lim 0 t acc) (.returned (.bool (decide (((acc.length+q:Nat):Int)<(lim:Int))))) (w3.setCell ⟨x.p,0,none⟩ (.slice a' (acc.length+q) c'))):=by
   refine ⟨_,M++cU (fh 0 t),by rw [cz.2],by rw [cz.1];exact pX,HG2.out.trans Zf,fun i hi=>?_,?_⟩
   ·rcases List.mem_append.1 hi with h | h
    ·exact .inl h
    ·exact .inr (G5 _ h)
   ·rw [ae];exact aj _
  have sN:=ab bw;obtain ⟨va,vc,lM⟩:=lD.out.ps.1.form;have kp2:w2.cell? ⟨x.p,0,none⟩=some v:=(mf.out.below bL.out).row.cell 0 (by simp)
  have kl2:w2.cell? ⟨x.l,0,none⟩=some (.int .i64 (lim:Int)):=(mf.out.below bL.out).cl;have hmn:min (wl.length:Int) ((lim:Int) - (acc.length:Int))=(q:Int):=by omega
  have kl4:(w3.setCell ⟨x.p,0,none⟩ (.slice a' (acc.length+q) c')).cell? ⟨x.l,0,none⟩=some (.int .i64 (lim:Int)):=pX.cl;have kp4:(w3.setCell ⟨x.p,0,none⟩ (.slice a' (acc.length+q) c')).cell? ⟨x.p,0,none⟩=some (.slice a' (acc.length+q) c'):=pX.row.cell 0 (by simp)
  subst lM;have akQ:(0:Int)≤(acc.length:Int):=by omega
  have akP:(acc.length:Int)≤(lim:Int):=by omega
  have akk:(lim:Int)≤9223372036854775807:=by omega
  have hwr:IntKind.i64.wrap ((lim:Int) - (acc.length:Int))=(lim:Int) - (acc.length:Int):=by rw [IntKind.wrap_i64];omega
  clear pX Zf bw Sv hq aeq hyc lE hlen HS ti HWI HY p0 Xg ken m0 m1 m2 cz SV HT tg IY HG2 mf lD bL HRM ZH Sb YD;go_wp2_with fail;go_region_law (first | (refine BP rfl (.tmp 43) (.tmp 47) rfl rfl _ _ _ rfl rfl hmn ?_) | (refine kE 63 rfl (.tmp 40) (.tmp 49) rfl rfl _ _ rfl rfl _ _ sN.out ?_))
  all_goals
   go_wp2;go_ret;exact nV.out
end
variable {hi:Option ByteArray} {h:Nat} {lo:Option ByteArray}
def R0(h:Nat)(t:Nd h):Prop:=(∃ lo hi,Ok h t lo hi)∧mQ h t≤4072∧qf h t
theorem aaa{c:Nd h}(hf:kG h c lo hi):R0 h c:=by
 refine ⟨⟨lo,hi,hf.1⟩,hf.2.2,?_⟩;have h1:=hf.2.1;cases h with
 | zero =>
  intro e;have h1:1556≤fB c.2:=h1;rw [e,lG] at h1;omega
 | succ h =>
  intro e;have h1:1777≤eI c.2.1:=h1;rw [e] at h1;have:eI []=6:=rfl;omega
theorem wk{t:Nd (h+1)}{i:Nat}{c:Nd h}(ho:R0 (h+1) t)(hc:t.2.2[i]?=some c):R0 h c:=by
 obtain ⟨⟨lo,hi,ho⟩,_⟩:=ho;obtain ⟨pT,mc,hf⟩:=kN ((eS h t lo hi).1 ho) i c hc;exact aaa hf
theorem D4{t:Nd h}(ho:eD (some ⟨h,t⟩)):R0 h t:=⟨⟨none,none,ho.1⟩,ho.2.1,ho.2.2⟩
def Xa:PD→Prop
 | .leaf l=>wL l true=none
 | .br f lk=>B.lz f lk true=none
theorem D5{t:Nd 0}(ho:R0 0 t):wL t.2 true=none:=by
 obtain ⟨⟨lo,hi,hr,hm⟩,hs,h1⟩:=ho;have hs:fB t.2≤4072:=hs;have h1:t.2≠[]:=h1;unfold wL;rw [if_neg (by simp only [Bool.not_eq_false,ma];exact fun p hp=>(hm p hp).1),if_neg (by simpa using hr),if_neg (by omega),if_neg (by simp [h1])]
theorem JH{n:Nat}(h:n≠0):cU n=[n]:=if_neg h
theorem JC{h:Nat}:∀ (cs:List (Nd h)),(∀ c ∈ cs,fh h c≠0)→(cs.map (fh h)).Sublist (cs.flatMap (cD h))
 | [],_=>List.Sublist.refl _
 | c::cs,cY=>by
  have h0:fh h c≠0:=cY c (by simp)
  have e:∃ r,cD h c=fh h c::r:=by
   cases h with
   | zero=>exact ⟨[],JH h0⟩
   | succ h=>exact ⟨_,congrArg (·++c.2.2.flatMap (cD h)) (JH h0)⟩
  obtain ⟨r,e⟩:=e;rw [List.map_cons,List.flatMap_cons,e];exact List.Sublist.cons_cons _ ((JC cs fun d hd=>cY d (by simp [hd])).trans (dF _ _))
theorem EC(ks:List ByteArray)(cs:List (Nd h))(hl:cs.length=ks.length+1):B.kids (lZ cs) (qJ ks cs)=cs.map fun c=>(fh h c:Int):=by
 cases cs with
 | nil=>simp at hl
 | cons c cs =>
  show (fh h c:Int)::(ks.zip (cs.map fun c=>(fh h c:Int))).map (·.2)=(fh h c:Int)::cs.map fun c=>(fh h c:Int)
  rw [List.map_snd_zip (by rw [az];simp at hl;omega)]
theorem Cd(ks:List ByteArray)(cs:List (Nd h))(hl:cs.length=ks.length+1):(qJ ks cs).map (·.1)=ks:=by
 unfold qJ;rw [List.map_fst_zip (by rw [az,List.length_tail];omega)]
theorem wC(ks:List ByteArray)(cs:List (Nd h))(hl:cs.length=ks.length+1):(qJ ks cs).length=ks.length:=by
 have:=congrArg List.length (Cd ks cs hl);rwa [az] at this
theorem RK{ks:List ByteArray}{cs:List (Nd h)}(ho:gi (kG h) lo hi ks cs)(hs:eI ks≤4072)(h1:ks≠[])(hr:∀ c ∈ cs,2≤fh h c∧fh h c<1048576)(hn:(cs.flatMap (cD h)).Nodup):B.lz (lZ cs) (qJ ks cs) true=none:=by
 have hl:=iD ho;have hlen:=wC ks cs hl;have hk:=Cd ks cs hl;have oQ:=EC ks cs hl;have ub:=xT ho;have oO:=jM ho;have dn:∀ x ∈ B.kids (lZ cs) (qJ ks cs),2≤x∧x<1048576:=fun x hx=>by
  rw [oQ] at hx;obtain ⟨c,hc,rfl⟩:=List.mem_map.1 hx;have:=hr c hc;omega
 have hf:B.fZ (lZ cs)=true:=by
  have:=dn (lZ cs) (by simp [B.kids])
  simp only [B.fZ,decide_eq_true_eq];exact this
 have hm:(qJ ks cs).all B.gE=true:=by
  rw [ma];intro p hp;have a1:cV p.1:=ub p.1 (by rw [← hk];exact jX hp)
  have a2:=dn p.2 (by simp only [B.kids];exact dU _ (jX hp))
  simp only [B.gE,decide_eq_true_eq];exact ⟨a1.1,a1.2,a2⟩
 have hri:B.nJ (qJ ks cs):=fun i hi=>by
  rw [← hk] at oO;have:=List.pairwise_iff_getElem.1 oO i (i+1) (by rw [az];omega) (by rw [az];omega) (by omega)
  rwa [ch,ch] at this
 have jb:(B.kids (lZ cs) (qJ ks cs)).Nodup:=by
  rw [oQ];have h2:(cs.map (fh h)).Nodup:=hn.sublist (JC cs fun c hc=>by have:=hr c hc;omega)
  have h3:(cs.map fun c=>(fh h c:Int))=(cs.map (fh h)).map fun n:Nat=>(n:Int):=by rw [et];rfl
  rw [h3];exact List.Pairwise.map _ (fun a b Bg e=>Bg (by omega)) h2
 have b8:B.jy (qJ ks cs)≤4072:=by
  have:=rF (qJ ks cs);rw [hk] at this;omega
 have cY:qJ ks cs≠[]:=fun e=>h1 (by rw [← hk,e];rfl)
 unfold B.lz;rw [if_neg cY,if_neg (by rw [hf,hm];simp),if_neg (by simpa using hri),if_neg (by simpa using jb),if_neg (by omega),if_neg (by simp)]
theorem AU{PG:Int→Option PD}{w:World}{P:Nat→Nat}(hP:∀ j,2≤P j∧P j<1048576){h:Nat}{p:C.Ch}{t:Nd h}(hk:eu PG w h p t)(k:Nat):2≤fh h (aY P h t k).1∧fh h (aY P h t k).1<1048576:=by
 have hid:=yl hk;by_cases h0:fh h t=0
 ·cases h with
  | zero =>
   have h0:t.1=0:=h0;simp only [aY,h0,if_true];exact hP _
  | succ h =>
   have h0:t.1=0:=h0;simp only [aY,h0,if_true];exact hP _
 ·have h2:2≤fh h t:=by
   cases p with
   | pg id =>
    have hk:fu PG h id t:=hk;cases h with
    | zero =>
     have h3:=hk.2.1;have h4:=hk.1;show 2≤t.1
     omega
    | succ h =>
     have h3:=hk.2.1;have h4:=hk.1;show 2≤t.1
     omega
   | nd b=>exact absurd hk.1 h0
  cases h with
  | zero =>
   have Ms:¬ t.1=0:=h0;simp only [aY,Ms,if_false];exact ⟨h2,hid.2⟩
  | succ h =>
   have Ms:¬ t.1=0:=h0;simp only [aY,Ms,if_false];exact ⟨h2,hid.2⟩
theorem oD{PG Zp:Int→Option PD}:∀ (h:Nat) {id:Int} {t:Nd h},fu PG h id t→(∀ i ∈ cD h t,Zp (i:Int)=PG (i:Int))→fu Zp h id t
 | 0,id,t,hp,he=>by
  obtain ⟨h1,h2,h3⟩:=hp;have h0:t.1≠0:=by omega
  have:=he t.1 (by show t.1 ∈ cU t.1;unfold cU;rw [if_neg h0];simp)
  rw [h2] at this;exact ⟨h1,h2,this.trans h3⟩
 | h+1,id,t,hp,he=>by
  obtain ⟨h1,h2,f,lk,h3,h4,h5,h6⟩:=hp;have h0:t.1≠0:=by omega
  have:=he t.1 (by show t.1 ∈ cU t.1++_;unfold cU;rw [if_neg h0];simp)
  rw [h2] at this;refine ⟨h1,h2,f,lk,this.trans h3,h4,h5,fun i c x hc hx=>oD h (h6 i c x hc hx) fun j hj=>he j ?_⟩
  exact cy _ (List.mem_flatMap.2 ⟨c,cL hc,hj⟩)
theorem yi{PG Zp:Int→Option PD}{w:World}{P:Nat→Nat}(hP:∀ j,2≤P j∧P j<1048576):∀ (h:Nat) {p:C.Ch} {t:Nd h} (k:Nat),eu PG w h p t→(∃ lo hi,Ok h t lo hi)→(∀ i ∈ cD h t,Zp (i:Int)=PG (i:Int))→(∀ x ∈ (aY P h t k).2,Zp (x.1:Int)=some x.2)→fu Zp h (fh h (aY P h t k).1:Int) (aY P h t k).1
 | 0,p,t,k,hk,_,he,hs=>by
  cases p with
  | pg id =>
   have hk:fu PG 0 id t:=hk;have h0:¬ t.1=0:=by have:=hk.1;have:=hk.2.1;omega
   have e:(fh 0 t:Int)=id:=hk.2.1;simp only [aY,h0,if_false];rw [e];exact oD 0 hk he
  | nd b =>
   have h0:t.1=0:=hk.1;simp only [aY,h0,if_true] at hs ⊢;have h1:=hP k;exact ⟨by show 2≤(P k:Int)∧(P k:Int)<1048576;omega,rfl,hs (P k,.leaf t.2) (by simp)⟩
 | h+1,p,t,k,hk,ho,he,hs=>by
  cases p with
  | pg id =>
   have hk:fu PG (h+1) id t:=hk;have h0:¬ t.1=0:=by have:=hk.1;have:=hk.2.1;omega
   have e:(fh (h+1) t:Int)=id:=hk.2.1;simp only [aY,h0,if_false];rw [e];exact oD (h+1) hk he
  | nd b =>
   have h0:t.1=0:=hk.1;obtain ⟨_,n,pv,lv,cv,Ud,hn⟩:=hk;obtain ⟨lo,hi,ho⟩:=ho;have NQ:=(eS h t lo hi).1 ho;have hl:=iD NQ;have Ba:(cd (aY P h) t.2.2 k).1.length=t.2.1.length+1:=by rw [iw,hl]
   simp only [aY,h0,if_true] at hs ⊢;have h1:=hP (k+(cd (aY P h) t.2.2 k).2.length);refine ⟨by show 2≤(P (k+(cd (aY P h) t.2.2 k).2.length):Int)∧(P (k+(cd (aY P h) t.2.2 k).2.length):Int)<1048576;omega,rfl,_,_,hs (P (k+(cd (aY P h) t.2.2 k).2.length),.br (lZ (cd (aY P h) t.2.2 k).1) (qJ t.2.1 (cd (aY P h) t.2.2 k).1)) (by simp),(Cd _ _ Ba).symm,by show (cd (aY P h) t.2.2 k).1.length=_;rw [wC _ _ Ba,Ba],fun i c' x vj hx=>?_⟩
   have vj:(cd (aY P h) t.2.2 k).1[i]?=some c':=vj;rw [EC _ _ Ba,aG,vj] at hx;simp only [kx,Option.some.injEq] at hx;have mc:i<t.2.2.length:=by
    have:=(List.getElem?_eq_some_iff.1 vj).1;rw [iw] at this;exact this
   have NM:n.us.length=t.2.2.length:=hn.1;obtain ⟨q,hq⟩ : ∃ q,n.us[i]?=some q:=⟨_,af (by omega)⟩
   have Mm:t.2.2[i]?=some t.2.2[i]:=af mc;obtain ⟨ki,g1,g2⟩:=sj (aY P h) t.2.2 k i _ Mm;rw [vj] at g1;cases g1;rw [← hx];obtain ⟨pT,vU,hf⟩:=kN NQ i _ Mm;exact yi hP h ki (hn.qi hq Mm) ⟨pT,vU,hf.1⟩ (fun j hj=>he j (cy _ (List.mem_flatMap.2 ⟨_,cL Mm,hj⟩))) fun y hy=>hs y (dV _ (g2 y hy))
theorem xo{l:List Nat}{i x:Nat}(h:l[i]?=some x):(l.take (i+1)).sum=(l.take i).sum+x:=by
 rw [gw,h,List.sum_append];simp
theorem lH:∀ (l:List Nat) (i:Nat),(l.take i).sum≤l.sum
 | [],i=>by simp
 | x::l,0=>by simp
 | x::l,i+1=>by
  have:=lH l i;simp only [List.take_succ_cons,rj];omega
section
variable {PG:Int→Option PD}
theorem xW:∀ (h:Nat) (b:Nat) (t:Nd h) (w:World),eu PG w h (.nd b) t→jh h t≤1099511627776→Calls prog 290 #[.pointer (some ⟨b,0,none⟩)] w fun e w'=>e = .returned (.int .i64 (jh h t:Int))∧w=w'
 | 0,b,t,w,⟨h0,n,pv,lv,cv,hs,hn⟩,hc=>by
  have p3:=hs.c3;have hu:n.us=[]:=hn.1;obtain ⟨ca,cc,sU⟩:=hs.kids.form;rw [hu,List.length_nil] at sU;subst sU;have Ms:t.1=0:=h0;have HC:Hid (jh 0 t=1):=if_pos Ms;clear hs hn hc;go_enter func290,ntmps290;go_wp2;refine wp_loop_rounds 1 ?_
  rw [rounds_succ];go_wp2;go_ret;exact ⟨by rw [HC.out];rfl,rfl⟩
 | h+1,b,t,w,⟨h0,n,pv,lv,cv,hs,hn⟩,hc=>by
  have p3:=hs.c3;have Ms:t.1=0:=h0;have fI:jh (h+1) t=(t.2.2.map (jh h)).sum+1:=if_pos Ms;have Gp:=ab fI;have HC:=ab hc;obtain ⟨ca,cc,sU,-,-,bq⟩:=hs.kids;rw [C.aU,Nat.mul_one] at sU;subst sU;have zm:=ab bq;have HK:Hid (∀ (i:Nat) (p:C.Ch) (c:Nd h),n.us[i]?=some p→t.2.2[i]?=some c→eu PG w h p c):=fun i p c h1 h2=>hn.qi h1 h2
  have HL:Hid (n.us.length≤4001∧n.us.length=t.2.2.length):=⟨hs.fine.2.2.2.2,hn.1⟩;clear hs hn bq fI hc;go_enter func290,ntmps290;go_wp2;go_loopw [3,11] (fun cv iv wr=>∃ (i:Nat),cv = .int .i64 ((((t.2.2.map (jh h)).take i).sum:Int)+1)∧iv = .int .i64 (i:Int)∧i≤n.us.length∧w=wr) (fun _ iv _=>n.us.length - (intOf iv).toNat)
  case atStart=>exact ⟨0,by simp,rfl,aB _,rfl⟩
  case round =>
   obtain ⟨i,rfl,rfl,hi,rfl⟩:=hrel;by_cases bO:i<n.us.length
   ·obtain ⟨g,o,rfl,c1⟩:=zm.out i _ (C.gI n.us i bO);have hI0:(0:Int)≤(i:Int):=by omega
    have hI1:(i:Int)<(n.us.length:Int):=by omega
    have hI2:(n.us.length:Int)≤4001:=by have:=HL.out.1;omega
    have hp:n.us[i]?=some n.us[i]:=af bO;obtain ⟨c,Mm⟩ : ∃ c,t.2.2[i]?=some c:=⟨_,af (by have:=HL.out.2;omega)⟩
    have oR:=HK.out i n.us[i] c hp Mm;have eZ:((t.2.2.map (jh h)).take (i+1)).sum=((t.2.2.map (jh h)).take i).sum+jh h c:=xo (by rw [aG,Mm];rfl)
    have hle:=lH (t.2.2.map (jh h)) (i+1);have Ic:=HC.out;rw [Gp.out] at Ic;generalize n.us[i]=p at *;obtain ⟨S,hS⟩ : ∃ S,S=((t.2.2.map (jh h)).take i).sum:=⟨_,rfl⟩;rw [← hS] at eZ ⊢;have gy:Hid (((t.2.2.map (jh h)).take (i+1)).sum=S+jh h c∧S+jh h c≤1099511627776):=⟨eZ,by omega⟩
    have hsb:(S:Int)≤1099511627776:=by omega
    have tY:(0:Int)≤(S:Int):=by omega
    have Ut:jh h c≤1099511627776:=by omega
    clear zm HK hp eZ hle Ic hS;cases p with
    | pg id =>
     have Wc:w.cell? ⟨g,o+i,none⟩=some (.iface 146 (.int .i64 id)):=c1;have QD:fu PG h id c:=oR;have HZ:Hid (jh h c=0):=yN (by
      cases h with
      | zero=>have h1:=QD.1;have h2:=QD.2.1;show c.1≠0;omega
      | succ h=>have h1:=QD.1;have h2:=QD.2.1;show c.1≠0;omega)
     clear c1 oR QD;go_wp2_with fail;refine (xK id w).mono ?_
     rintro e w1 ⟨rfl,rfl⟩;go_wp2;go_roundw
     case rel=>exact ⟨i+1,by have h1:=gy.out.1;have h2:=HZ.out;rw [h1,h2];simp,by go_num,bO,trivial⟩
     case measure=>simp [intOf];omega
    | nd b2 =>
     have Wc:w.cell? ⟨g,o+i,none⟩=some (.iface 152 (.pointer (some ⟨b2,0,none⟩))):=c1;have HR:=ab (xW h b2 c w oR Ut);have Su:(0:Int)≤(jh h c:Int):=by omega
     have sR:(S:Int)+(jh h c:Int)≤1099511627776:=by have:=gy.out.2;omega
     obtain ⟨X,hX⟩ : ∃ X,X=jh h c:=⟨_,rfl⟩;rw [← hX] at HR Su sR gy;clear c1 oR hX Ut;go_wp2_with fail;refine HR.out.mono ?_
     rintro e w1 ⟨rfl,rfl⟩;go_wp2;go_roundw
     case rel=>exact ⟨i+1,by have h1:=gy.out.1;rw [h1];congr 1;omega,by go_num,bO,trivial⟩
     case measure=>simp [intOf];omega
   ·have hI1:¬ (i:Int)<(n.us.length:Int):=by omega
    have he:(t.2.2.map (jh h)).take i=t.2.2.map (jh h):=ao (by rw [az];have:=HL.out.2;omega)
    have HE:Hid ((((t.2.2.map (jh h)).take i).sum:Int)+1=(jh (h+1) t:Int)):=by show _=_;rw [he,Gp.out];omega
    rw [HE.out];clear he Gp HK zm;go_wp2;go_ret;exact ⟨rfl,rfl⟩
end
def eA:cT→Nat
 | none=>0
 | some x=>jh x.1 x.2
section
variable {base:Nat} {A:Nat→Addr} {db:Nat} {F:Nat→Prop} {d:S.V.bE} {W0:World} {r:cT}
theorem jZ{w:World}{tb:Nat}(hc:Ts base A db F d W0 w tb r)(hn:eA r≤1099511627776):Calls prog 20 #[.pointer (some ⟨tb,0,none⟩)] w fun e w'=>e = .returned (.int .i64 (eA r:Int))∧w=w':=by
 obtain ⟨rv,ht,zV⟩:=hc.tr;have c1:=ht.c1;clear ht hc;rcases zV with ⟨rfl,rfl⟩ | ⟨p,h,t,rfl,rfl,hp⟩
 ·have hq:=fun W=>oW W
  go_enter func20,ntmps20;go_wp2;go_ret;exact ⟨rfl,rfl⟩
 ·cases p with
  | pg id =>
   have Wc:w.cell? ⟨tb,1,none⟩=some (.iface 146 (.int .i64 id)):=c1;have hq:=fun W=>nx 146 (.int .i64 id) W
   have QD:fu (cF d) h id t:=hp;have HZ:Hid (eA (some ⟨h,t⟩)=0):=yN (by
    cases h with
    | zero=>have h1:=QD.1;have h2:=QD.2.1;show t.1≠0;omega
    | succ h=>have h1:=QD.1;have h2:=QD.2.1;show t.1≠0;omega)
   clear c1 hp QD;go_enter func20,ntmps20;go_wp2_with fail;refine (xK id w).mono ?_
   rintro e w1 ⟨rfl,rfl⟩;go_wp2;go_ret;exact ⟨by rw [HZ.out];rfl,rfl⟩
  | nd b =>
   have Wc:w.cell? ⟨tb,1,none⟩=some (.iface 152 (.pointer (some ⟨b,0,none⟩))):=c1;have hq:=fun W=>nx 152 (.pointer (some ⟨b,0,none⟩)) W
   have HR:=ab (xW h b t w hp hn);clear c1 hp;go_enter func20,ntmps20;go_wp2_with fail;refine HR.out.mono ?_
   rintro e w1 ⟨rfl,rfl⟩;go_wp2;go_ret;exact ⟨rfl,rfl⟩
end
variable {v:Value} {w:World} {base:Nat} {l:List Nat}
def vJ(w:World)(base:Nat)(v:Value)(l:List Nat):Prop :=
 w.ownsRow base 3 1 v l.length (Q.gZ l)∧∀ g,v.ownBlock=some g→∃ cur,w.heap[g]?=some (.cells cur 3 (0,0))∧∀ u ∈ cur.toList,Plain u
theorem vJ.nil(w:World)(base:Nat):vJ w base (.slice none 0 0) []:=⟨World.ownsRow_nil _ _ _ _,fun g h=>by simp [Value.ownBlock] at h⟩
theorem vJ.form(h:vJ w base v l):∃ a c,v = .slice a l.length c:=by
 rcases h.1.2 with ⟨rfl,h0⟩ | ⟨g0,cap,cur,rfl,_⟩
 ·cases l with
  | nil=>exact ⟨_,_,rfl⟩
  | cons _ _=>simp at h0
 ·exact ⟨_,_,rfl⟩
theorem vJ.dx(h:vJ w base v l){g:Nat}(hg:v.ownBlock=some g):base≤g∧g<w.heap.size:=by
 rcases h.1.2 with ⟨rfl,h0⟩ | ⟨g0,cap,cur,rfl,mS,qm,_⟩
 ·simp [Value.ownBlock] at hg
 ·simp only [Value.ownBlock,Option.some.injEq] at hg;subst hg;exact ⟨mS,(Array.getElem?_eq_some_iff.1 qm).1⟩
theorem vJ.odd(h:vJ w base v l){g:Nat}(hg:v.ownBlock=some g):Va w g:=by
 obtain ⟨cur,h1,h2⟩:=h.2 g hg;refine ⟨fun j u hc=>?_,fun cs fr e=>?_,fun cs fr e=>?_⟩
 ·rw [cell_of_row w g j cur _ _ h1] at hc;exact (h2 u (by have:=Array.getElem?_eq_some_iff.1 hc;obtain ⟨h3,h4⟩:=this;rw [← h4];exact gH h3)).no
 ·rw [h1] at e;simp at e
 ·rw [h1] at e;simp at e
theorem vJ.same{w':World}{lo:Nat}(h:vJ w lo v l)(hb:∀ g,v.ownBlock=some g→w'.heap[g]?=w.heap[g]?):vJ w' lo v l:=by
 refine ⟨⟨h.1.1,?_⟩,fun g hg=>?_⟩
 ·rcases h.1.2 with h' | ⟨g,cap,cur,h',h1,h2,hr⟩
  ·exact .inl h'
  ·exact .inr ⟨g,cap,cur,h',h1,(hb g (by rw [h'];rfl)).trans h2,hr⟩
 ·obtain ⟨cur,h1,h2⟩:=h.2 g hg;exact ⟨cur,(hb g hg).trans h1,h2⟩
theorem xX(l:List Nat):∀ u ∈ Q.gZ l,Plain u:=fun u hu=>by
 obtain ⟨n,_,rfl⟩:=List.mem_map.1 hu;exact .inr ⟨_,_,rfl⟩
theorem C5(n:Nat):∀ u ∈ (Builtin.zeroCells (Value.int .i64 0).cells n).toList,Plain u:=by
 intro u hu;simp only [Builtin.zeroCells,Value.cells] at hu;simp at hu
 obtain ⟨i,_,rfl⟩:=hu;have h:i % 1=0:=Nat.mod_one i
 first | exact .inr ⟨.i64,0,rfl⟩ | (simp [h];exact .inr ⟨.i64,0,rfl⟩)
theorem JZ:(prog.info? 3).map (fun i=>(i.zero,i.size,i.bytes))=some (some (.int .i64 0),1,8):=by kernel_rfl
theorem vJ.push(base:Nat)(v:Value)(l:List Nat)(p:Nat)(w:World)(h:vJ w base v l)(hn:l.length≤1099511627776)(dd:base≤w.heap.size):∃ a' c' w',(Builtin.append_ #[69,69] 69 #[v,.slice (some ⟨w.heap.size,0,none⟩) 1 1]).run prog (w.alloc (.cells #[.int .i64 (p:Int)] 3)) = .ok (.slice a' (l.length+1) c') w'∧vJ w' base (.slice a' (l.length+1) c') (l++[p])∧(w.alloc (.cells #[.int .i64 (p:Int)] 3)).grownBy w' v.ownBlock:=by
 obtain ⟨i0,hi,hz,b8,kQ⟩:=info_parts JZ;obtain ⟨W,hW⟩ : ∃ W,W=w.alloc (.cells #[.int .i64 (p:Int)] 3):=⟨_,rfl⟩;have hsW:W.heap.size=w.heap.size+1:=by rw [hW];simp
 have me:=bM w #[.int .i64 (p:Int)] 3;rw [← hW] at me;have ho:W.ownsRow base 3 1 v l.length (Q.gZ l):=hW▸World.ownsRow.alloc h.1 _;have ie:∀ j u,([.int .i64 (p:Int)] : List Value)[j]?=some u→W.cell? ((⟨w.heap.size,0,none⟩ : Addr).add j)=some u:=fun j u hj=>by
  rw [bh,Nat.zero_add];match j,hj with
  | 0,hj=>cases hj;exact me.2 0 (by simp)
 have H6:lF W (.slice (some ⟨w.heap.size,0,none⟩) 1 1) [.int .i64 (p:Int)]:=by
  refine ⟨_,_,rfl,aj _,(fun e=>by cases e),fun j u hj=>⟨_,_,rfl,?_⟩⟩
  have:=ie j u hj;rw [bh] at this;exact this
 obtain ⟨a',c',w',hr,aE,hg⟩:=jW 69 3 (.int .i64 0) 8 JZ underlying69 rfl base l.length v (Q.gZ l) W ho _ [.int .i64 (p:Int)] H6 (by simp [Value.oneCell']) (by simp;omega) (by decide) (by omega)
 rw [aQ] at hr aE;rw [← hW];have gr:w'.ownsRow base 3 1 (.slice a' (l.length+1) c') (l++[p]).length (Q.gZ (l++[p])):=by
  rw [ae,Q.oF];exact aE
 have SC:∀ u ∈ ([.int .i64 (p:Int)] : List Value),Plain u:=xX [p];suffices hh:∀ g,(Value.slice a' (l.length+1) c').ownBlock=some g→∃ cur,w'.heap[g]?=some (.cells cur 3 (0,0))∧∀ u ∈ cur.toList,Plain u from ⟨a',c',w',hr,⟨gr,hh⟩,hg⟩
 have yu:(Q.gZ l).length=l.length:=by unfold Q.gZ;rw [az]
 rcases h.1.2 with ⟨rfl,h0⟩ | ⟨g0,cap,cur,rfl,mS,qm,CQ,sA,fI,lE⟩
 ·have hq:=run_append_nil (P:=prog) W 69 69 3 i0 _ underlying69 hi hz ⟨w.heap.size,0,none⟩ 1 1 _ (by rw [b8];rfl) ie (by omega) (by omega) (by rw [kQ];omega)
  rw [hq] at hr;simp only [Result.ok.injEq,Value.slice.injEq] at hr;obtain ⟨⟨rfl,-,-⟩,rfl⟩:=hr;intro g gJ;simp only [Value.ownBlock,Option.some.injEq] at gJ;subst gJ;refine ⟨_,heap_alloc_new (World.drew _) _,fun u hu=>?_⟩
  simp only [b7,cA] at hu;rcases hu with hu | hu
  ·exact SC u (by simpa using hu)
  ·exact C5 _ u hu
 ·have fM:W.heap[g0]?=some (.cells cur 3 (0,0)):=hW▸(heap_alloc_old w _ (Array.getElem?_eq_some_iff.1 qm).1).trans qm;have zr:∀ u ∈ cur.toList,Plain u:=by
   obtain ⟨fN,h1,h2⟩:=h.2 g0 rfl;rw [qm] at h1;simp only [Option.some.injEq,Obj.cells.injEq,and_true] at h1;subst h1;exact h2
  by_cases eb:l.length+1≤cap
  ·have hq:=run_append_room (P:=prog) W 69 69 3 i0 underlying69 hi g0 l.length cap cur fM ⟨w.heap.size,0,none⟩ 1 1 _ (by rw [b8];rfl) ie (by intro u hu;rcases SC u hu with ⟨q,rfl⟩ | ⟨q,x,rfl⟩ <;> rfl) eb (by rw [b8,fI];simp;omega)
   rw [hq] at hr;simp only [Result.ok.injEq,Value.slice.injEq] at hr;obtain ⟨⟨rfl,-,-⟩,rfl⟩:=hr;intro g gJ;simp only [Value.ownBlock,Option.some.injEq] at gJ;subst gJ;refine ⟨_,setRow_heap _ g0 cur _ _ _ fM,fun u hu=>?_⟩
   simp only [cA] at hu;rcases hu with (hu | hu) | hu
   ·exact zr u (bJ hu)
   ·exact SC u hu
   ·exact zr u (bK hu)
  ·have holds:∀ j u,(Q.gZ l)[j]?=some u→W.cell? ((⟨g0,0,none⟩ : Addr).add j)=some u:=World.ownsRow.cells ho (g:=g0) rfl;have hq:=run_append_grow (P:=prog) W 69 69 3 i0 _ underlying69 hi hz ⟨g0,0,none⟩ l.length cap (Q.gZ l) (by rw [b8,yu];omega) holds ⟨w.heap.size,0,none⟩ 1 1 _ (by rw [b8];rfl) ie (by omega) (by omega) (growslice_fits (by omega) (by rw [kQ];omega))
   rw [hq] at hr;simp only [Result.ok.injEq,Value.slice.injEq] at hr;obtain ⟨⟨rfl,-,-⟩,rfl⟩:=hr;intro g gJ;simp only [Value.ownBlock,Option.some.injEq] at gJ;subst gJ;refine ⟨_,heap_alloc_new (World.drew _) _,fun u hu=>?_⟩
   simp only [b7,cA] at hu;rcases hu with (hu | hu) | hu
   ·exact xX l u (by simpa using hu)
   ·exact SC u (by simpa using hu)
   ·exact C5 _ u hu
end T
end Go.Proofs.YtihmgigfkmofnaaGreatDoor
