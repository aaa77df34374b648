import Derived.Test.YtihmgigfkmofnaaGreatDoorG21
set_option maxHeartbeats 4000000
set_option maxRecDepth 100000
open Go.Proofs.Tryz
namespace Go.Proofs.YtihmgigfkmofnaaGreatDoor
namespace T
open Go.RowKit
def Tp(w:World)(k:Nat):Prop :=
 (∀ j v,w.cell? ⟨k,j,none⟩=some v→(∀ s,v≠.string s)∧∀ t x,v≠.iface t x)∧(∀ cs fr,w.heap[k]?≠some (.cells cs 155 fr))∧∀ cs fr,w.heap[k]?≠some (.cells cs 100 fr)
structure dd(w w':World):Prop where
 size:w.heap.size≤w'.heap.size
 block:∀ k,k<w.heap.size→w'.heap[k]?=w.heap[k]?∨Tp w k
theorem dd.of{w w':World}(h:Below w.heap.size w w'):dd w w':=⟨h.size,fun k hk=>.inl (h.block k hk)⟩
theorem Mv.cx{base:Nat}{A:Nat→Addr}{db:Nat}{F:Nat→Prop}{d:S.V.bD}{w w':World}(h:Mv db F w w')(hv:Dv base A db F d w):dd w w':=⟨h.size,fun k hk=>by
 by_cases e:k=db
 ·subst e;obtain ⟨d',_,hd⟩:=hv.dev;refine .inr ⟨fun j v hc=>mh hd hc,?_,?_⟩
  ·intro cs fr h1;obtain ⟨mb,nb,QS,av,Dn,hb⟩:=hd;rw [hb.dy] at h1;simp at h1
  ·intro cs fr h1;obtain ⟨mb,nb,QS,av,Dn,hb⟩:=hd;rw [hb.dy] at h1;simp at h1
 ·exact .inl (h.one.block k hk e)⟩
theorem dd.str{w w':World}(h:dd w w'){g o:Nat}{s:ByteArray}(hc:w.cell? ⟨g,o,none⟩=some (.string s)):w'.heap[g]?=w.heap[g]? :=
 (h.block g (World.block_lt_of_cell? w _ hc)).elim id fun e=>absurd rfl ((e.1 o _ hc).1 s)
theorem dd.ifc{w w':World}(h:dd w w'){g o:Nat}{t:TypeId}{x:Value}(hc:w.cell? ⟨g,o,none⟩=some (.iface t x)):w'.heap[g]?=w.heap[g]? :=
 (h.block g (World.block_lt_of_cell? w _ hc)).elim id fun e=>absurd rfl ((e.1 o _ hc).2 t x)
theorem b9{w w':World}{g o:Nat}{v:Value}(h:w'.heap[g]?=w.heap[g]?)(hc:w.cell? ⟨g,o,none⟩=some v):w'.cell? ⟨g,o,none⟩=some v :=
 (World.cell?_of_block (a:=⟨g,o,none⟩) h).trans hc
theorem NM{w w':World}(h:dd w w'){v:Value}{l:List Pr}(hr:gZ w v l):gZ w' v l:=by
 obtain ⟨a,cap,rfl,hle,hn,hc⟩:=hr;refine ⟨a,cap,rfl,hle,hn,fun j hj=>?_⟩
 obtain ⟨g,o,ha,h1,h2⟩:=hc j hj;have hg:=h.str h1;exact ⟨g,o,ha,b9 hg h1,b9 hg h2⟩
theorem On{w w':World}(h:dd w w'){v:Value}{l:List B.Lk}(hr:B.dm w v l):B.dm w' v l:=by
 obtain ⟨a,cap,rfl,hle,hn,hc⟩:=hr;refine ⟨a,cap,rfl,hle,hn,fun j hj=>?_⟩
 obtain ⟨g,o,ha,h1,h2⟩:=hc j hj;have hg:=h.str h1;exact ⟨g,o,ha,b9 hg h1,b9 hg h2⟩
theorem P6{w w':World}(h:dd w w'){v:Value}{l:List C.Ch}(hr:C.dm w v l):C.dm w' v l:=by
 obtain ⟨a,cap,rfl,hle,hn,hc⟩:=hr;refine ⟨a,cap,rfl,hle,hn,fun j u hj=>?_⟩
 obtain ⟨g,o,ha,h1⟩:=hc j u hj;obtain ⟨p,_,rfl⟩ : ∃ p ∈ l,p.val=u:=by
  have:=cH hj;simpa [C.bg] using this
 obtain ⟨t,x,hp⟩:=bJ p;have hg:=h.ifc (hp▸h1);exact ⟨g,o,ha,b9 hg h1⟩
theorem dM.cx{w w':World}(h:dd w w'){b:Nat}{n:SN}{pv lv cv:Value}(hs:dM w b n pv lv cv):dM w' b n pv lv cv:=by
 refine ⟨?_,NM h hs.jj,On h hs.bg,P6 h hs.kids,hs.fine⟩;rcases h.block b hs.row.lt with e | e
 ·exact e.trans hs.row
 ·exact absurd hs.row (e.2.1 _ _)
theorem dz{w w':World}(h:dd w w'){b:Nat}{cs:Array Value}(hs:B.au w b cs 100):B.au w' b cs 100:=by
 rcases h.block b hs.lt with e | e
 ·exact e.trans hs
 ·exact absurd hs (e.2.2 _ _)
theorem Dv.LC{base:Nat}{A:Nat→Addr}{db:Nat}{F:Nat→Prop}{d:S.V.bD}{w:World}(h:Dv base A db F d w):db<w.heap.size:=by
 obtain ⟨d',_,mb,nb,QS,av,Dn,hb⟩:=h.dev;exact (Array.getElem?_eq_some_iff.1 hb.dy).1
theorem Dv.grown{base:Nat}{A:Nat→Addr}{db:Nat}{F:Nat→Prop}{d:S.V.bD}{w0 w1 w2:World}(eH:Dv base A db F d w1)(mD:Below w0.heap.size w1 w2)(hm:Mv db F w0 w1)(il:Dv base A db F d w0):Dv base A db F d w2∧Mv db F w0 w2:=by
 obtain ⟨d1,n1,sN⟩:=eH.dev;obtain ⟨d0,n0,G3⟩:=il.dev;have hF0:∀ k,F k→k<w0.heap.size:=G3.lt;have hs:S.V.Step (fun k=>w0.heap.size≤k) (fun k=>w0.heap.size≤k) w1 w2:=⟨mD.os,mD.tape,mD.output,mD.size,fun k hk hn=>mD.block k (by omega),fun _ h=>.inl h⟩
 have KX:S.V.cM w2 db F d1:=sN.keep hs (fun k hk e=>by have:=hF0 k hk;omega)
 have qJ:Mv db F w0 w2:=⟨⟨mD.os.trans hm.step.os,mD.tape.trans hm.step.tape,mD.output.trans hm.step.output,aq hm.size mD.size,fun k hk hn=>(mD.block k hk).trans (hm.step.block k hk hn),fun _ h=>.inl h⟩,⟨mD.os.trans hm.step.os,mD.tape.trans hm.step.tape,mD.output.trans hm.step.output,aq hm.size mD.size,fun k hk hn=>(mD.block k hk).trans (hm.one.block k hk hn),fun _ h=>.inl h⟩⟩
 exact ⟨⟨⟨d1,n1,KX⟩,eH.env.keep (mD.mono il.env.errs.size),EE qJ.one G3 KX il.errs,eH.up,eH.alive,eH.lo⟩,qJ⟩
def Plain(u:Value):Prop:=(∃ p,u = .pointer p)∨∃ k x,u = .int k x
theorem Plain.no{u:Value}(h:Plain u):(∀ s,u≠.string s)∧∀ t x,u≠.iface t x:=by
 rcases h with ⟨p,rfl⟩ | ⟨k,x,rfl⟩
 ·exact ⟨(fun s e=>by cases e),(fun t x e=>by cases e)⟩
 ·exact ⟨(fun s e=>by cases e),(fun t x e=>by cases e)⟩
theorem Au(l:List W.Lk):∀ u ∈ W.bg l,Plain u:=by
 intro u hu;simp only [W.bg,lC] at hu;obtain ⟨p,_,h⟩:=hu;simp at h
 rcases h with rfl | rfl
 ·exact .inl ⟨_,rfl⟩
 ·exact .inr ⟨_,_,rfl⟩
def sP(w:World)(base:Nat)(v:Value)(l:List W.Lk):Prop :=
 W.bQ w base v l∧∀ g,v.ownBlock=some g→∃ cur,w.heap[g]?=some (.cells cur 159 (0,0))∧∀ u ∈ cur.toList,Plain u
theorem sP.nil(w:World)(base:Nat):sP w base (.slice none 0 0) []:=⟨W.bQ.nil w base,fun g h=>by simp [Value.ownBlock] at h⟩
theorem sP.odd{w:World}{base:Nat}{v:Value}{l:List W.Lk}(h:sP w base v l){g:Nat}(hg:v.ownBlock=some g):Tp w g:=by
 obtain ⟨cur,h1,h2⟩:=h.2 g hg;refine ⟨fun j u hc=>?_,fun cs fr e=>?_,fun cs fr e=>?_⟩
 ·rw [cell_of_row w g j cur _ _ h1] at hc;exact (h2 u (by have:=Array.getElem?_eq_some_iff.1 hc;obtain ⟨h3,h4⟩:=this;rw [← h4];exact gG h3)).no
 ·rw [h1] at e;simp at e
 ·rw [h1] at e;simp at e
theorem sP.below{w w':World}{base:Nat}{v:Value}{l:List W.Lk}(h:sP w base v l)(hb:Below w.heap.size w w'):sP w' base v l:=by
 refine ⟨h.1.below hb,fun g hg=>?_⟩
 obtain ⟨cur,h1,h2⟩:=h.2 g hg;exact ⟨cur,(hb.block g (Array.getElem?_eq_some_iff.1 h1).1).trans h1,h2⟩
theorem sP.mv{db:Nat}{F:Nat→Prop}{w w':World}{base:Nat}{v:Value}{l:List W.Lk}(h:sP w base v l)(hm:Mv db F w w')(hdb:db<base):sP w' base v l:=by
 refine ⟨⟨h.1.1,?_⟩,fun g hg=>?_⟩
 ·rcases h.1.2 with h' | ⟨g,cap,cur,h',h1,h2,hr⟩
  ·exact .inl h'
  ·exact .inr ⟨g,cap,cur,h',h1,(hm.one.block g (Array.getElem?_eq_some_iff.1 h2).1 (by omega)).trans h2,hr⟩
 ·obtain ⟨cur,h1,h2⟩:=h.2 g hg;have:=(h.1.dy g hg).1;exact ⟨cur,(hm.one.block g (Array.getElem?_eq_some_iff.1 h1).1 (by omega)).trans h1,h2⟩
theorem wz(n:Nat):∀ u ∈ (Builtin.zeroCells (Value.agg #[.pointer none,.int .i64 0]).cells n).toList,Plain u:=by
 intro u hu;simp only [Builtin.zeroCells,Value.cells] at hu;simp at hu
 obtain ⟨i,_,rfl⟩:=hu;rcases cy i with h | h
 ·rw [h];exact .inl ⟨none,rfl⟩
 ·rw [h];exact .inr ⟨.i64,0,rfl⟩
theorem sP.push(base:Nat)(v:Value)(l:List W.Lk)(p:W.Lk)(w:World)(h:sP w base v l)(hn:l.length≤100000)(dr:base≤w.heap.size):∃ a' c' w',(Builtin.append_ #[101,101] 101 #[v,.slice (some ⟨w.heap.size,0,none⟩) 1 1]).run prog (w.alloc (.cells #[.pointer (some ⟨p.1,0,none⟩),.int .i64 p.2] 159)) = .ok (.slice a' (l.length+1) c') w'∧sP w' base (.slice a' (l.length+1) c') (l++[p])∧(w.alloc (.cells #[.pointer (some ⟨p.1,0,none⟩),.int .i64 p.2] 159)).grownBy w' v.ownBlock∧dd w w'∧(∀ g,(Value.slice a' (l.length+1) c').ownBlock=some g→v.ownBlock=some g∨w.heap.size≤g):=by
 obtain ⟨i0,hi,hz,cp,kL⟩:=info_parts W.lV;have ho:W.bQ (w.alloc (.cells #[.pointer (some ⟨p.1,0,none⟩),.int .i64 p.2] 159)) base v l:=World.ownsRow.alloc h.1 _;obtain ⟨a',c',w',hr,aD,hg⟩:=W.fo base v _ l [p] _ ho (W.vP w p 159) (by simp;omega) (by simp;omega)
 have aw:dd w w':=⟨by have:=hg.size;simp at this;omega,fun k hk=>by
  by_cases e:some k=v.ownBlock
  ·exact .inr (h.odd e.symm)
  ·left
   rw [hg.block k (by simp;omega) e]
   exact heap_alloc_old w _ hk⟩
 have pO:=bM w #[.pointer (some ⟨p.1,0,none⟩),.int .i64 p.2] 159;have iR:∀ j u,([.pointer (some ⟨p.1,0,none⟩),.int .i64 p.2] : List Value)[j]?=some u→(w.alloc (.cells #[.pointer (some ⟨p.1,0,none⟩),.int .i64 p.2] 159)).cell? ((⟨w.heap.size,0,none⟩ : Addr).add j)=some u:=fun j u hj=>by
  rw [bA,Nat.zero_add];match j,hj with
  | 0,hj=>cases hj;exact pO.2 0 (by simp)
  | 1,hj=>cases hj;exact pO.2 1 (by simp)
 have Sx:∀ u ∈ ([.pointer (some ⟨p.1,0,none⟩),.int .i64 p.2] : List Value),Plain u:=Au [p];suffices hh:(∀ g,(Value.slice a' (l.length+1) c').ownBlock=some g→v.ownBlock=some g∨w.heap.size≤g)∧∀ g,(Value.slice a' (l.length+1) c').ownBlock=some g→∃ cur,w'.heap[g]?=some (.cells cur 159 (0,0))∧∀ u ∈ cur.toList,Plain u from ⟨a',c',w',hr,⟨aD,hh.2⟩,hg,aw,hh.1⟩
 rcases h.1.2 with ⟨rfl,h0⟩ | ⟨g0,cap,cur,rfl,mE,pZ,Cs,sO,fG,mC⟩
 ·have hq:=run_append_nil (P:=prog) (w.alloc (.cells #[.pointer (some ⟨p.1,0,none⟩),.int .i64 p.2] 159)) 101 101 159 i0 _ underlying101 hi hz ⟨w.heap.size,0,none⟩ 1 1 _ (by rw [cp];rfl) iR (by omega) (by omega) (by rw [kL];omega)
  rw [hq] at hr;simp only [Result.ok.injEq,Value.slice.injEq] at hr;obtain ⟨⟨rfl,-,-⟩,rfl⟩:=hr;refine ⟨fun g iq=>?_,fun g iq=>?_⟩
  ·simp only [Value.ownBlock,Option.some.injEq] at iq;right;subst iq;simp
  simp only [Value.ownBlock,Option.some.injEq] at iq;subst iq;refine ⟨_,heap_alloc_new (World.drew _) _,fun u hu=>?_⟩
  simp only [cP,cN] at hu;rcases hu with hu | hu
  ·exact Sx u (by simpa using hu)
  ·exact wz _ u hu
 ·have fJ:(w.alloc (.cells #[.pointer (some ⟨p.1,0,none⟩),.int .i64 p.2] 159)).heap[g0]?=some (.cells cur 159 (0,0)):=(heap_alloc_old w _ (Array.getElem?_eq_some_iff.1 pZ).1).trans pZ;have zf:∀ u ∈ cur.toList,Plain u:=by
   obtain ⟨fK,h1,h2⟩:=h.2 g0 rfl;rw [pZ] at h1;simp only [Option.some.injEq,Obj.cells.injEq,and_true] at h1;subst h1;exact h2
  by_cases dV:l.length+1≤cap
  ·have hq:=run_append_room (P:=prog) (w.alloc (.cells #[.pointer (some ⟨p.1,0,none⟩),.int .i64 p.2] 159)) 101 101 159 i0 underlying101 hi g0 l.length cap cur fJ ⟨w.heap.size,0,none⟩ 1 1 _ (by rw [cp];rfl) iR (by intro u hu;rcases Sx u hu with ⟨q,rfl⟩ | ⟨q,x,rfl⟩ <;> rfl) dV (by rw [cp,fG];simp;omega)
   rw [hq] at hr;simp only [Result.ok.injEq,Value.slice.injEq] at hr;obtain ⟨⟨rfl,-,-⟩,rfl⟩:=hr;refine ⟨fun g iq=>?_,fun g iq=>?_⟩
   ·simp only [Value.ownBlock,Option.some.injEq] at iq;left;subst iq;rfl
   simp only [Value.ownBlock,Option.some.injEq] at iq;subst iq;refine ⟨_,setRow_heap _ g0 cur _ _ _ fJ,fun u hu=>?_⟩
   simp only [cN] at hu;rcases hu with (hu | hu) | hu
   ·exact zf u (bF hu)
   ·exact Sx u hu
   ·exact zf u (bG hu)
  ·have tG:(W.bg l).length=l.length*i0.size:=by rw [cp];exact W.a7 l
   have holds:∀ j u,(W.bg l)[j]?=some u→(w.alloc (.cells #[.pointer (some ⟨p.1,0,none⟩),.int .i64 p.2] 159)).cell? ((⟨g0,0,none⟩ : Addr).add j)=some u:=World.ownsRow.cells ho (g:=g0) rfl;have hq:=run_append_grow (P:=prog) (w.alloc (.cells #[.pointer (some ⟨p.1,0,none⟩),.int .i64 p.2] 159)) 101 101 159 i0 _ underlying101 hi hz ⟨g0,0,none⟩ l.length cap (W.bg l) tG holds ⟨w.heap.size,0,none⟩ 1 1 _ (by rw [cp];rfl) iR (by omega) (by omega) (growslice_fits (by omega) (by rw [kL];omega))
   rw [hq] at hr;simp only [Result.ok.injEq,Value.slice.injEq] at hr;obtain ⟨⟨rfl,-,-⟩,rfl⟩:=hr;refine ⟨fun g iq=>?_,fun g iq=>?_⟩
   ·simp only [Value.ownBlock,Option.some.injEq] at iq;right;subst iq;simp
   simp only [Value.ownBlock,Option.some.injEq] at iq;subst iq;refine ⟨_,heap_alloc_new (World.drew _) _,fun u hu=>?_⟩
   simp only [cP,cN] at hu;rcases hu with (hu | hu) | hu
   ·exact Au l u (by simpa using hu)
   ·exact Sx u (by simpa using hu)
   ·exact wz _ u hu
def Fit(n:SN):Prop:=n.zB∧n.sz≤4072∧(n.us.length=0∨1≤n.lk.length)
structure Sys(d:S.V.bD)(X:Type) where
 K:World→C.Ch→X→Prop
 N:World→SN→X→Prop
 E:Prop
 sub:X→Nat→X→Prop
 rk:X→Nat
 ka:∀ {w w':World} {p:C.Ch} {x:X},dd w w'→K w p x→K w' p x
 na:∀ {w w':World} {n:SN} {x:X},dd w w'→N w n x→N w' n x
 rh:∀ {w:World} {n:SN} {x:X} {i:Nat} {p:C.Ch},N w n x→n.us[i]?=some p→∃ y,sub x i y∧K w p y
 fit:∀ {w:World} {n:SN} {x:X},N w n x→Fit n
 hU:∀ {w:World} {id:Int} {x:X},K w (.pg id) x→(cU d id=none∧E)∨∃ p,cU d id=some p∧∀ w',N w' p.sn x
 node:∀ {w:World} {b:Nat} {x:X},K w (.nd b) x→∃ n pv lv cv,dM w b n pv lv cv∧N w n x
 rks:E∨∀ x i y,sub x i y→rk y+1≤rk x
def oO(A:Nat→Addr):Ending:=.returned (.tuple #[.pointer none,.iface 360 (.pointer (some (A 8)))])
def lu{d:S.V.bD}{X:Type}(S:Sys d X)(A:Nat→Addr)(x:X)(e:Ending)(w':World):Prop :=
 (S.E∧e=oO A)∨∃ b n pv lv cv,e = .returned (.tuple #[.pointer (some ⟨b,0,none⟩),.nilIface])∧dM w' b n pv lv cv∧S.N w' n x
theorem o8{base:Nat}{A:Nat→Addr}{db:Nat}{F:Nat→Prop}{d:S.V.bD}{X:Type}(S:Sys d X)(p:C.Ch)(x:X)(tb:Nat)(rv:Value)(w:World)(hk:S.K w p x)(ht:B.au w tb #[.pointer (some ⟨db,0,none⟩),rv] 100)(hv:Dv base A db F d w):Calls prog 104 #[.pointer (some ⟨tb,0,none⟩),p.val] w fun e w'=>lu S A x e w'∧Dv base A db F d w'∧Mv db F w w':=by
 cases p with
 | pg id =>
  have HL:=ab (Kw base A db F d id w hv);have HK:=ab (S.hU hk);have c0:=ht.c0;have a1:=fun W=>Qn (.int .i64 id) W
  clear hk ht hv;show Calls prog 104 #[.pointer (some ⟨tb,0,none⟩),.iface 146 (.int .i64 id)] w fun e w'=>lu S A x e w'∧Dv base A db F d w'∧Mv db F w w'
  go_enter func104,ntmps104;go_wp2_with fail;refine HL.out.mono ?_
  rintro e w1 ⟨hr,h1,h2⟩;have BO:lu S A x e w1:=by
   rcases hr with ⟨g1,g2⟩ | ⟨q,b,pv,lv,cv,g1,g2,g3⟩
   ·rcases HK.out with ⟨_,k2⟩ | ⟨q,k1,_⟩
    ·exact .inl ⟨k2,g2⟩
    ·rw [g1] at k1;cases k1
   ·rcases HK.out with ⟨k1,_⟩ | ⟨q',k1,k2⟩
    ·rw [g1] at k1;cases k1
    ·rw [g1] at k1;cases k1;exact .inr ⟨b,q.sn,pv,lv,cv,g2,g3,k2 w1⟩
  obtain ⟨pp,vv,he,-,OL⟩:=hr.form;subst he;have HR:Hid (lu S A x (.returned (.tuple #[.pointer pp,vv])) w1∧Dv base A db F d w1∧Mv db F w w1):=⟨BO,h1,h2⟩;clear hr BO h1 h2 HL c0 HK;rcases OL with rfl | rfl
  ·go_wp2;go_ret2;exact HR.out
  ·go_wp2;go_ret2;exact HR.out
 | nd b =>
  obtain ⟨n,pv,lv,cv,hs,hn⟩:=S.node hk;have HR:Hid (lu S A x (.returned (.tuple #[.pointer (some ⟨b,0,none⟩),.nilIface])) w∧Dv base A db F d w∧Mv db F w w):=⟨.inr ⟨b,n,pv,lv,cv,rfl,hs,hn⟩,hv,Mv.refl _ _ _⟩;clear hs hn ht hv hk;have a1:=fun W=>Jy (.pointer (some ⟨b,0,none⟩)) W
  have a2:=fun W=>Qo (.pointer (some ⟨b,0,none⟩)) W
  show Calls prog 104 #[.pointer (some ⟨tb,0,none⟩),.iface 152 (.pointer (some ⟨b,0,none⟩))] w fun e w'=>lu S A x e w'∧Dv base A db F d w'∧Mv db F w w'
  go_enter func104,ntmps104;go_wp2;go_ret2;exact HR.out
theorem lu.form{d:S.V.bD}{X:Type}{S:Sys d X}{A:Nat→Addr}{x:X}{e:Ending}{w':World}(h:lu S A x e w'):∃ p v,e = .returned (.tuple #[.pointer p,v])∧(v = .nilIface∨v = .iface 360 (.pointer (some (A 8)))):=by
 rcases h with ⟨_,rfl⟩ | ⟨b,n,pv,lv,cv,rfl,_⟩
 ·exact ⟨_,_,rfl,.inr rfl⟩
 ·exact ⟨_,_,rfl,.inl rfl⟩
theorem mO{base:Nat}{A:Nat→Addr}{db:Nat}{F:Nat→Prop}{d:S.V.bD}{X:Type}(S:Sys d X)(p:C.Ch)(x:X)(tb:Nat)(rv:Value)(dp:Nat)(w:World)(hk:S.K w p x)(ht:B.au w tb #[.pointer (some ⟨db,0,none⟩),rv] 100)(hv:Dv base A db F d w)(ly:S.E∨dp≤64):Calls prog 92 #[.pointer (some ⟨tb,0,none⟩),p.val,.int .i64 (dp:Int)] w fun e w'=>(lu S A x e w'∧(64<dp→e=oO A))∧Dv base A db F d w'∧Mv db F w w':=by
 obtain ⟨pt,px,iB⟩:=bJ p;by_cases Pl:64<dp
 ·have hE:S.E:=ly.resolve_right (by omega)
  have hle:(64:Int)<(dp:Int):=by omega
  have g8:w.cell? ⟨8,0,none⟩=some (.iface 360 (.pointer (some (A 8)))):=hv.g 8 (by decide)
  have HR:Hid ((lu S A x (oO A) w∧(64<dp→oO A=oO A))∧Dv base A db F d w∧Mv db F w w):=⟨⟨.inl ⟨hE,rfl⟩,fun _=>rfl⟩,hv,Mv.refl _ _ _⟩
  have HEE:=ab hE;rw [iB];clear hk ht hv hE ly iB;go_enter func92,ntmps92;go_wp2_with fail;go_quiet (fail)
  go_wp2;go_ret2;exact ⟨⟨.inl ⟨(HEE.out),rfl⟩,fun _=>rfl⟩,HR.out.2.1.below (aB (Below.refl _ _) _),HR.out.2.2.trans (Mv.of (aB (Below.refl _ _) _))⟩
 ·have HL:=ab (o8 S p x tb rv w hk ht hv);rw [iB] at HL ⊢;have hle:¬ (64:Int)<(dp:Int):=by omega
  clear hk ht hv iB ly;go_enter func92,ntmps92;go_wp2_with fail;refine HL.out.mono ?_
  rintro e w1 ⟨hr,h1,h2⟩;obtain ⟨pp,vv,he,OL⟩:=hr.form;subst he;have HR:Hid ((lu S A x (.returned (.tuple #[.pointer pp,vv])) w1∧(64<dp→.returned (.tuple #[.pointer pp,vv])=oO A))∧Dv base A db F d w1∧Mv db F w w1):=⟨⟨hr,fun h=>absurd h Pl⟩,h1,h2⟩
  clear hr h1 h2 HL;rcases OL with rfl | rfl
  ·go_wp2;go_ret2;exact HR.out
  ·go_wp2;go_ret2;exact HR.out
structure kT(X:Type) where
 b:Nat
 n:SN
 at':Nat
 x:X
def kT.lk{X:Type}(s:kT X):W.Lk:=(s.b,(s.at':Int))
def Tn{d:S.V.bD}{X:Type}(S:Sys d X)(w:World)(s:kT X):Prop:=(∃ pv lv cv,dM w s.b s.n pv lv cv)∧S.N w s.n s.x
theorem Tn.cx{d:S.V.bD}{X:Type}{S:Sys d X}{w w':World}{s:kT X}(h:Tn S w s)(ha:dd w w'):Tn S w' s:=by
 obtain ⟨⟨pv,lv,cv,h1⟩,h2⟩:=h;exact ⟨⟨pv,lv,cv,h1.cx ha⟩,S.na ha h2⟩
def Way{d:S.V.bD}{X:Type}(S:Sys d X)(Pk:SN→Nat→Prop)(w:World):X→List (kT X)→X→Prop
 | x,[],y=>x=y
 | x,s::t,y=>s.x=x∧Tn S w s∧¬ s.n.us.length=0∧Pk s.n s.at'∧s.at'<s.n.us.length∧∃ z,S.sub x s.at' z∧Way S Pk w z t y
theorem Way.cx{d:S.V.bD}{X:Type}{S:Sys d X}{Pk:SN→Nat→Prop}{w w':World}(ha:dd w w'):∀ {t:List (kT X)} {x y:X},Way S Pk w x t y→Way S Pk w' x t y
 | [],_,_,h=>h
 | _::_,_,_,⟨h1,h2,h3,h4,h5,z,h6,h7⟩=>⟨h1,h2.cx ha,h3,h4,h5,z,h6,Way.cx ha h7⟩
theorem Way.snoc{d:S.V.bD}{X:Type}{S:Sys d X}{Pk:SN→Nat→Prop}{w:World}:∀ {t:List (kT X)} {x y z:X} {s:kT X},Way S Pk w x t y→s.x=y→Tn S w s→¬ s.n.us.length=0→Pk s.n s.at'→s.at'<s.n.us.length→S.sub y s.at' z→Way S Pk w x (t++[s]) z
 | [],_,_,z,_,h,g1,g2,g3,g4,g5,g6=>by
  have h:_=_:=h;subst h;exact ⟨g1,g2,g3,g4,g5,z,g6,rfl⟩
 | _::_,_,_,_,_,⟨h1,h2,h3,h4,h5,z,h6,h7⟩,g1,g2,g3,g4,g5,g6=>⟨h1,h2,h3,h4,h5,z,h6,Way.snoc h7 g1 g2 g3 g4 g5 g6⟩
theorem Way.UW{d:S.V.bD}{X:Type}{S:Sys d X}{Pk:SN→Nat→Prop}{w:World}:∀ {t:List (kT X)} {x y:X},Way S Pk w x t y→S.E∨S.rk y+t.length≤S.rk x
 | [],_,_,h=>by
  have h:_=_:=h;subst h;exact .inr (aj _)
 | s::t,x,_,⟨_,_,_,_,_,z,h6,h7⟩=>by
  rcases S.rks with h | h
  ·exact .inl h
  ·rcases Way.UW h7 with g | g
   ·exact .inl g
   ·have:=h x s.at' z h6;right;rw [List.length_cons];omega
def Kept(db:Nat)(v:Value)(w w':World):Prop:=w.heap.size≤w'.heap.size∧∀ k,k<w.heap.size→k≠db→v.ownBlock≠some k→w'.heap[k]?=w.heap[k]?
theorem Kept.mv{db:Nat}{F:Nat→Prop}{v:Value}{w w1 w2:World}(h:Kept db v w w1)(hm:Mv db F w1 w2):Kept db v w w2:=⟨aq h.1 hm.size,fun k hk hd hv=>(hm.one.block k (al hk h.1) hd).trans (h.2 k hk hd hv)⟩
theorem Kept.below{db:Nat}{v:Value}{w w1 w2:World}(h:Kept db v w w1)(hb:Below w1.heap.size w1 w2):Kept db v w w2:=⟨aq h.1 hb.size,fun k hk hd hv=>(hb.block k (al hk h.1)).trans (h.2 k hk hd hv)⟩
theorem Kept.grow{db:Nat}{v vv:Value}{w w1 w2:World}{o:Obj}(h:Kept db v w w1)(vm:∀ g,vv.ownBlock=some g→v.ownBlock=some g∨w.heap.size≤g)(hg:(w1.alloc o).grownBy w2 vv.ownBlock):Kept db v w w2:=by
 have hs:=hg.size;simp at hs
 refine ⟨aq h.1 (by omega),fun k hk hd hv=>?_⟩
 have jm:=al hk h.1;rw [hg.block k (by simp;omega) (fun e=>by
  rcases vm k e.symm with e' | e'
  ·exact hv e'
  ·omega),heap_alloc_old w1 o jm]
 exact h.2 k hk hd hv
def IA:Value→Nat
 | .slice _ n _=>n
 | _=>0
def kR{d:S.V.bD}{X:Type}(S:Sys d X)(Pk:SN→Nat→Prop)(A:Nat→Addr)(pre:List W.Lk)(x:X)(bs:Nat)(e:Ending)(w':World):Prop :=
 (S.E∧e = .returned (.tuple #[.slice none 0 0,.iface 360 (.pointer (some (A 8)))])) ∨
 ∃ (ss:List (kT X)) (s:kT X) (a:Option Addr) (c:Nat),e = .returned (.tuple #[.slice a (pre.length+ss.length+1) c,.nilIface])∧sP w' bs (.slice a (pre.length+ss.length+1) c) (pre++ss.map kT.lk++[s.lk])∧Way S Pk w' x ss s.x∧Tn S w' s∧s.n.us.length=0∧s.at'=0∧pre.length+ss.length≤63
theorem G7{base:Nat}{A:Nat→Addr}{db:Nat}{F:Nat→Prop}{d:S.V.bD}{X:Type}(S:Sys d X)(Pk:SN→Nat→Prop)(Q:World→Prop)(hQ:∀ W W',dd W W'→Q W→Q W')(pre:List W.Lk)(v:Value)(p:C.Ch)(x:X)(tb:Nat)(rv:Value)(kb:Nat)(w0 w:World)(hk:S.K w p x)(ht:B.au w tb #[.pointer (some ⟨db,0,none⟩),rv] 100)(hv:Dv base A db F d w)(hm:Mv db F w0 w)(il:Dv base A db F d w0)(ho:sP w w0.heap.size v pre)(hq:Q w)(iW:pre.length≤64)(ly:S.E∨S.rk x+pre.length+1≤64)(oz:∀ W b n pv lv cv y,Q W→dM W b n pv lv cv→S.N W n y→¬ n.us.length=0→Calls prog 80 #[.agg #[.int .i64 n.f,lv],.pointer (some ⟨kb,0,none⟩)] W fun e w'=>∃ q:Nat,e = .returned (.int .i64 (q:Int))∧Pk n q∧q<n.us.length∧Below W.heap.size W w'):Calls prog 89 #[.pointer (some ⟨tb,0,none⟩),v,p.val,.func (.func 80) #[] #[.pointer (some ⟨kb,0,none⟩)]] w fun e w'=>kR S Pk A pre x w0.heap.size e w'∧Dv base A db F d w'∧Mv db F w0 w'∧Kept db v w w':=by
 obtain ⟨va,vc,mQ⟩:=ho.1.form;subst mQ;obtain ⟨pt,px,iB⟩:=bJ p;obtain ⟨m0,Sz⟩ : ∃ m,m=pre.length:=⟨_,rfl⟩;have H6:=ab Sz;rw [← Sz] at ho iW ly ⊢;have HK:=ab hk;have HT:=ab ht;have HV:=ab hv;have HM:=ab hm;have HO:=ab ho;have HQ:=ab hq;have HL:=ab ly;have HP:=ab oz;have WJ:=ab hQ;have Wj:=ab iB;have HDB:=ab il.LC;have MD:=ab il;have Wl:=ab iW;have O6:∀ (fn:Fn) (first cap:Array Value) (w:World),(Instr.makeFunc fn first cap).run prog w = .ok (.func fn first cap) w:=fun _ _ _ _=>rfl
 rw [iB];clear hk ht hv hm ho hq ly oz hQ iB Sz il iW;go_enter func89,ntmps89;go_wp2;go_loopw [1,2] (fun vv cc wr=>∃ (ss:List (kT X)) (y:X) (p':C.Ch) (a:Option Addr) (c:Nat),vv = .slice a (m0+ss.length) c∧cc=p'.val∧sP wr w0.heap.size (.slice a (m0+ss.length) c) (pre++ss.map kT.lk)∧Way S Pk wr x ss y∧S.K wr p' y∧m0+ss.length≤64∧Dv base A db F d wr∧Mv db F w0 wr∧B.au wr tb #[.pointer (some ⟨db,0,none⟩),rv] 100∧Q wr∧Kept db (.slice va m0 vc) w wr∧∀ g,(Value.slice a (m0+ss.length) c).ownBlock=some g→(Value.slice va m0 vc).ownBlock=some g∨w.heap.size≤g) (fun vv _ _=>65 - IA vv)
 case atStart=>exact ⟨[],x,p,va,vc,rfl,Wj.out.symm,by simpa using HO.out,rfl,HK.out,Wl.out,HV.out,HM.out,HT.out,HQ.out,⟨aj _,fun _ _ _ _=>rfl⟩,fun g hg=>.inl hg⟩
 case round =>
  obtain ⟨ss,y,p',a,c,rfl,rfl,ho,kt,hk,hlen,hv,hm,ht,hq,Mt,vm⟩:=hrel;obtain ⟨L,hL⟩ : ∃ L,L=m0+ss.length:=⟨_,rfl⟩;rw [← hL] at ho hlen vm ⊢;have rj:=ab (mO S p' y tb rv (L+1) wr hk ht hv (by
   rcases kt.UW with h | h
   ·exact .inl h
   ·rcases HL.out with g | g
    ·exact .inl g
    ·right;omega))
  rw [show ((L+1:Nat):Int)=(L:Int)+1 by omega] at rj
  obtain ⟨pt',px',OW⟩:=bJ p';rw [OW] at rj ⊢;have pH:=ab ho;have L9:=ab kt;have qY:=ab hv;have Fi:=ab hm;have Fa:=ab ht;have tX:=ab hq;have ME:=ab Mt;have vu:=ab vm;have kj:=ab hL;have CF:=ab hlen;have Zp:(L:Int)≤64:=by omega
  have Xi:(0:Int)≤(L:Int):=by omega
  clear Mt vm ho kt hk hv hm ht hq hL OW hlen HO HK HV HM HT HQ Wj;go_wp2_with fail;refine rj.out.mono ?_
  rintro e w1 ⟨⟨BO,yg⟩,eH,fI⟩;have Ht:=fI.cx qY.out;have lF:=ab (Fi.out.trans fI);have Cl:=ab (ME.out.mv fI);have wi:=ab eH;have gX:=ab (pH.out.mv fI HDB.out);have Ba:=ab (dz Ht Fa.out);have sI:=ab (WJ.out _ _ Ht tX.out);have Qv:=ab (L9.out.cx Ht);rcases BO with ⟨hE,rfl⟩ | ⟨b,n,pv,lv,cv,rfl,hs,hn⟩
  ·have b8:Hid (kR S Pk A pre x w0.heap.size (.returned (.tuple #[.slice none 0 0,.iface 360 (.pointer (some (A 8)))])) w1∧Dv base A db F d w1∧Mv db F w0 w1∧Kept db (.slice va m0 vc) w w1):=⟨.inl ⟨hE,rfl⟩,wi.out,lF.out,Cl.out⟩;unfold oO;clear yg eH fI Ht rj pH L9 qY Fi Fa tX hE;go_wp2;go_ret2;exact b8.out
  ·have VR:L≤63:=by
    rcases aZ 64 (L+1) with h | h
    ·have:=yg h;unfold oO at this;simp at this
    ·omega
   have HS:=ab hs;have HN:=ab hn;have pI:=ab (cd b n pv lv cv w1 hs);clear yg eH fI Ht rj pH L9 qY Fi Fa tX hs hn;by_cases h0:n.us.length=0
   ·rw [show decide (n.us.length=0)=true by simp [h0]] at pI
    obtain ⟨a',c',w2,bo,dW,hg,aw,-⟩:=gX.out.push w0.heap.size _ _ (b,0) w1 (by rw [ae,az,← H6.out,← kj.out];omega) (lF.out.size)
    rw [show (pre++ss.map kT.lk).length=L by rw [ae,az,← H6.out,← kj.out]] at bo dW
    have q0:=ai w1 (.cells #[.pointer (some ⟨b,0,none⟩),.int .i64 0] 159);have b8:Hid (kR S Pk A pre x w0.heap.size (.returned (.tuple #[.slice a' (L+1) c',.nilIface])) w2∧Dv base A db F d w2∧Mv db F w0 w2∧Kept db (.slice va m0 vc) w w2):=by
     have mD:Below w0.heap.size w1 w2:=((ai w1 _).mono lF.out.size).grown hg (by simp;exact p9 lF.out.size) (fun k hk=>(gX.out.1.dy k hk).1)
     obtain ⟨BS,Ej⟩:=wi.out.grown mD lF.out MD.out;exact ⟨.inr ⟨ss,⟨b,n,0,y⟩,a',c',by rw [← H6.out,← kj.out],by rw [← H6.out,← kj.out];exact dW,(Qv.out.cx aw),⟨⟨pv,lv,cv,HS.out.cx aw⟩,S.na aw HN.out⟩,h0,rfl,by rw [← H6.out,← kj.out];exact VR⟩,BS,Ej,Cl.out.grow vu.out hg⟩
    clear dW hg aw q0 h0 HS HN Qv gX;go_wp2_with fail;refine pI.out.mono ?_
    rintro e w1' ⟨rfl,rfl⟩;have pX:(Builtin.append_ #[101,101] 101 #[.slice a L c,.slice (some ⟨w1.heap.size,0,none⟩) 1 1]).run prog (w1.alloc (.cells #[.pointer (some ⟨b,0,none⟩),.int .i64 0] 159)) = .ok (.slice a' (L+1) c') w2:=bo;clear bo;go_wp2_with (first | (at_builtin;refine wpList_append_run 101 rfl (.tmp 27) (.tmp 30) rfl rfl _ _ rfl rfl _ _ pX ?_))
    go_ret2;exact b8.out
   ·rw [show decide (n.us.length=0)=false by simp [h0]] at pI
    have QE:=ab (HP.out w1 b n pv lv cv y sI.out HS.out HN.out h0);have p1:=HS.out.c1;have p2:=HS.out.c2;obtain ⟨la,lc,tH⟩:=HS.out.bg.form;subst tH;have H0:=ab h0;clear h0;go_wp2_with fail;refine pI.out.mono ?_
    rintro e w1' ⟨rfl,rfl⟩;go_wp2_with fail;refine QE.out.mono ?_
    rintro e w2 ⟨q,rfl,ze,GU,aY⟩;have ZX:=ab ze;have zQ:=dd.of aY;obtain ⟨a',c',w3,bo,fX,hg,aw,vl⟩:=(gX.out.below aY).push w0.heap.size _ _ (b,(q:Int)) w2 (by rw [ae,az,← H6.out,← kj.out];omega) (aq lF.out.size aY.size)
    rw [show (pre++ss.map kT.lk).length=L by rw [ae,az,← H6.out,← kj.out]] at bo fX vl
    have q0:=ai w2 (.cells #[.pointer (some ⟨b,0,none⟩),.int .i64 (q:Int)] 159);have Fy:=(HS.out.cx zQ).cx aw;have Vo:=S.na aw (S.na zQ HN.out);obtain ⟨pc,FB⟩ : ∃ pc,n.us[q]?=some pc:=⟨_,af GU⟩;obtain ⟨z,mR,YP⟩:=S.rh Vo FB;have VG:Dv base A db F d w3∧Mv db F w0 w3:=by
     have mD:Below w0.heap.size w1 w3:=(((aY.mono lF.out.size).alloc (aq lF.out.size aY.size) _).grown hg (by simp;exact p9 (aq lF.out.size aY.size)) (fun k hk=>(gX.out.1.dy k hk).1))
     obtain ⟨BS,Ej⟩:=wi.out.grown mD lF.out MD.out;exact ⟨BS,Ej⟩
    have Hw:Hid (∃ (ss:List (kT X)) (y:X) (p':C.Ch) (a:Option Addr) (c:Nat),(.slice a' (L+1) c':Value) = .slice a (m0+ss.length) c∧pc.val=p'.val∧sP w3 w0.heap.size (.slice a (m0+ss.length) c) (pre++ss.map kT.lk)∧Way S Pk w3 x ss y∧S.K w3 p' y∧m0+ss.length≤64∧Dv base A db F d w3∧Mv db F w0 w3∧B.au w3 tb #[.pointer (some ⟨db,0,none⟩),rv] 100∧Q w3∧Kept db (.slice va m0 vc) w w3∧∀ g,(Value.slice a (m0+ss.length) c).ownBlock=some g→(Value.slice va m0 vc).ownBlock=some g∨w.heap.size≤g):=by
     have e1:m0+(ss++[(⟨b,n,q,y⟩ : kT X)]).length=L+1:=by rw [ae,kj.out];rfl
     refine ⟨ss++[⟨b,n,q,y⟩],z,pc,a',c',by rw [e1],rfl,?_,((Qv.out.cx zQ).cx aw).snoc rfl ⟨⟨_,_,_,Fy⟩,Vo⟩ H0.out ZX.out GU mR,YP,by rw [e1];omega,VG.1,VG.2,dz aw (dz zQ Ba.out),WJ.out _ _ aw (WJ.out _ _ zQ sI.out),(Cl.out.below aY).grow vu.out hg,fun gg VD=>by
      rw [e1] at VD;rcases vl gg VD with h | h
      ·exact vu.out gg h
      ·exact .inr (aq Cl.out.1 (aq aY.size h))⟩
     rw [e1,aW,← ax];exact fX
    have p3:=Fy.c3;obtain ⟨ca,cc,vq,-,-,bE⟩:=Fy.kids;rw [C.a7,Nat.mul_one] at vq;subst vq;obtain ⟨g,o,rfl,cq⟩:=bE q pc.val (by unfold C.bg;rw [aL,FB];rfl)
    obtain ⟨zt,zx,X1⟩:=bJ pc;rw [X1] at cq Hw;have pX:(Builtin.append_ #[101,101] 101 #[.slice a L c,.slice (some ⟨w2.heap.size,0,none⟩) 1 1]).run prog (w2.alloc (.cells #[.pointer (some ⟨b,0,none⟩),.int .i64 (q:Int)] 159)) = .ok (.slice a' (L+1) c') w3:=bo;have Su:(q:Int)<(n.us.length:Int):=by omega
    have T7:(0:Int)≤(q:Int):=by omega
    clear vl bo fX hg aw q0 Fy Vo FB mR YP VG bE X1 aY zQ ze GU QE pI Qv gX HS HN p1 p2;go_wp2_with (first | (at_builtin;refine wpList_append_run 101 rfl (.tmp 38) (.tmp 42) rfl rfl _ _ rfl rfl _ _ pX ?_))
    go_roundw
    case rel=>exact Hw.out
    case measure=>simp [IA];omega
theorem BW{base:Nat}{A:Nat→Addr}{db:Nat}{F:Nat→Prop}{d:S.V.bD}{X:Type}(S:Sys d X)(Pk:SN→Nat→Prop)(Q:World→Prop)(hQ:∀ W W',dd W W'→Q W→Q W')(pre:List W.Lk)(v:Value)(p:C.Ch)(x:X)(tb:Nat)(rv:Value)(w0 w:World)(hk:S.K w p x)(ht:B.au w tb #[.pointer (some ⟨db,0,none⟩),rv] 100)(hv:Dv base A db F d w)(hm:Mv db F w0 w)(il:Dv base A db F d w0)(ho:sP w w0.heap.size v pre)(hq:Q w)(iW:pre.length≤64)(ly:S.E∨S.rk x+pre.length+1≤64)(oz:∀ W b n pv lv cv y,Q W→dM W b n pv lv cv→S.N W n y→¬ n.us.length=0→Calls prog 57 #[.agg #[.int .i64 n.f,lv]] W fun e w'=>∃ q:Nat,e = .returned (.int .i64 (q:Int))∧Pk n q∧q<n.us.length∧Below W.heap.size W w'):Calls prog 89 #[.pointer (some ⟨tb,0,none⟩),v,p.val,.func (.func 57) #[] #[]] w fun e w'=>kR S Pk A pre x w0.heap.size e w'∧Dv base A db F d w'∧Mv db F w0 w'∧Kept db v w w':=by
 obtain ⟨va,vc,mQ⟩:=ho.1.form;subst mQ;obtain ⟨pt,px,iB⟩:=bJ p;obtain ⟨m0,Sz⟩ : ∃ m,m=pre.length:=⟨_,rfl⟩;have H6:=ab Sz;rw [← Sz] at ho iW ly ⊢;have HK:=ab hk;have HT:=ab ht;have HV:=ab hv;have HM:=ab hm;have HO:=ab ho;have HQ:=ab hq;have HL:=ab ly;have HP:=ab oz;have WJ:=ab hQ;have Wj:=ab iB;have HDB:=ab il.LC;have MD:=ab il;have Wl:=ab iW;have O6:∀ (fn:Fn) (first cap:Array Value) (w:World),(Instr.makeFunc fn first cap).run prog w = .ok (.func fn first cap) w:=fun _ _ _ _=>rfl
 rw [iB];clear hk ht hv hm ho hq ly oz hQ iB Sz il iW;go_enter func89,ntmps89;go_wp2;go_loopw [1,2] (fun vv cc wr=>∃ (ss:List (kT X)) (y:X) (p':C.Ch) (a:Option Addr) (c:Nat),vv = .slice a (m0+ss.length) c∧cc=p'.val∧sP wr w0.heap.size (.slice a (m0+ss.length) c) (pre++ss.map kT.lk)∧Way S Pk wr x ss y∧S.K wr p' y∧m0+ss.length≤64∧Dv base A db F d wr∧Mv db F w0 wr∧B.au wr tb #[.pointer (some ⟨db,0,none⟩),rv] 100∧Q wr∧Kept db (.slice va m0 vc) w wr∧∀ g,(Value.slice a (m0+ss.length) c).ownBlock=some g→(Value.slice va m0 vc).ownBlock=some g∨w.heap.size≤g) (fun vv _ _=>65 - IA vv)
 case atStart=>exact ⟨[],x,p,va,vc,rfl,Wj.out.symm,by simpa using HO.out,rfl,HK.out,Wl.out,HV.out,HM.out,HT.out,HQ.out,⟨aj _,fun _ _ _ _=>rfl⟩,fun g hg=>.inl hg⟩
 case round =>
  obtain ⟨ss,y,p',a,c,rfl,rfl,ho,kt,hk,hlen,hv,hm,ht,hq,Mt,vm⟩:=hrel;obtain ⟨L,hL⟩ : ∃ L,L=m0+ss.length:=⟨_,rfl⟩;rw [← hL] at ho hlen vm ⊢;have rj:=ab (mO S p' y tb rv (L+1) wr hk ht hv (by
   rcases kt.UW with h | h
   ·exact .inl h
   ·rcases HL.out with g | g
    ·exact .inl g
    ·right;omega))
  rw [show ((L+1:Nat):Int)=(L:Int)+1 by omega] at rj
  obtain ⟨pt',px',OW⟩:=bJ p';rw [OW] at rj ⊢;have pH:=ab ho;have L9:=ab kt;have qY:=ab hv;have Fi:=ab hm;have Fa:=ab ht;have tX:=ab hq;have ME:=ab Mt;have vu:=ab vm;have kj:=ab hL;have CF:=ab hlen;have Zp:(L:Int)≤64:=by omega
  have Xi:(0:Int)≤(L:Int):=by omega
  clear Mt vm ho kt hk hv hm ht hq hL OW hlen HO HK HV HM HT HQ Wj;go_wp2_with fail;refine rj.out.mono ?_
  rintro e w1 ⟨⟨BO,yg⟩,eH,fI⟩;have Ht:=fI.cx qY.out;have lF:=ab (Fi.out.trans fI);have Cl:=ab (ME.out.mv fI);have wi:=ab eH;have gX:=ab (pH.out.mv fI HDB.out);have Ba:=ab (dz Ht Fa.out);have sI:=ab (WJ.out _ _ Ht tX.out);have Qv:=ab (L9.out.cx Ht);rcases BO with ⟨hE,rfl⟩ | ⟨b,n,pv,lv,cv,rfl,hs,hn⟩
  ·have b8:Hid (kR S Pk A pre x w0.heap.size (.returned (.tuple #[.slice none 0 0,.iface 360 (.pointer (some (A 8)))])) w1∧Dv base A db F d w1∧Mv db F w0 w1∧Kept db (.slice va m0 vc) w w1):=⟨.inl ⟨hE,rfl⟩,wi.out,lF.out,Cl.out⟩;unfold oO;clear yg eH fI Ht rj pH L9 qY Fi Fa tX hE;go_wp2;go_ret2;exact b8.out
  ·have VR:L≤63:=by
    rcases aZ 64 (L+1) with h | h
    ·have:=yg h;unfold oO at this;simp at this
    ·omega
   have HS:=ab hs;have HN:=ab hn;have pI:=ab (cd b n pv lv cv w1 hs);clear yg eH fI Ht rj pH L9 qY Fi Fa tX hs hn;by_cases h0:n.us.length=0
   ·rw [show decide (n.us.length=0)=true by simp [h0]] at pI
    obtain ⟨a',c',w2,bo,dW,hg,aw,-⟩:=gX.out.push w0.heap.size _ _ (b,0) w1 (by rw [ae,az,← H6.out,← kj.out];omega) (lF.out.size)
    rw [show (pre++ss.map kT.lk).length=L by rw [ae,az,← H6.out,← kj.out]] at bo dW
    have q0:=ai w1 (.cells #[.pointer (some ⟨b,0,none⟩),.int .i64 0] 159);have b8:Hid (kR S Pk A pre x w0.heap.size (.returned (.tuple #[.slice a' (L+1) c',.nilIface])) w2∧Dv base A db F d w2∧Mv db F w0 w2∧Kept db (.slice va m0 vc) w w2):=by
     have mD:Below w0.heap.size w1 w2:=((ai w1 _).mono lF.out.size).grown hg (by simp;exact p9 lF.out.size) (fun k hk=>(gX.out.1.dy k hk).1)
     obtain ⟨BS,Ej⟩:=wi.out.grown mD lF.out MD.out;exact ⟨.inr ⟨ss,⟨b,n,0,y⟩,a',c',by rw [← H6.out,← kj.out],by rw [← H6.out,← kj.out];exact dW,(Qv.out.cx aw),⟨⟨pv,lv,cv,HS.out.cx aw⟩,S.na aw HN.out⟩,h0,rfl,by rw [← H6.out,← kj.out];exact VR⟩,BS,Ej,Cl.out.grow vu.out hg⟩
    clear dW hg aw q0 h0 HS HN Qv gX;go_wp2_with fail;refine pI.out.mono ?_
    rintro e w1' ⟨rfl,rfl⟩;have pX:(Builtin.append_ #[101,101] 101 #[.slice a L c,.slice (some ⟨w1.heap.size,0,none⟩) 1 1]).run prog (w1.alloc (.cells #[.pointer (some ⟨b,0,none⟩),.int .i64 0] 159)) = .ok (.slice a' (L+1) c') w2:=bo;clear bo;go_wp2_with (first | (at_builtin;refine wpList_append_run 101 rfl (.tmp 27) (.tmp 30) rfl rfl _ _ rfl rfl _ _ pX ?_))
    go_ret2;exact b8.out
   ·rw [show decide (n.us.length=0)=false by simp [h0]] at pI
    have QE:=ab (HP.out w1 b n pv lv cv y sI.out HS.out HN.out h0);have p1:=HS.out.c1;have p2:=HS.out.c2;obtain ⟨la,lc,tH⟩:=HS.out.bg.form;subst tH;have H0:=ab h0;clear h0;go_wp2_with fail;refine pI.out.mono ?_
    rintro e w1' ⟨rfl,rfl⟩;go_wp2_with fail;refine QE.out.mono ?_
    rintro e w2 ⟨q,rfl,ze,GU,aY⟩;have ZX:=ab ze;have zQ:=dd.of aY;obtain ⟨a',c',w3,bo,fX,hg,aw,vl⟩:=(gX.out.below aY).push w0.heap.size _ _ (b,(q:Int)) w2 (by rw [ae,az,← H6.out,← kj.out];omega) (aq lF.out.size aY.size)
    rw [show (pre++ss.map kT.lk).length=L by rw [ae,az,← H6.out,← kj.out]] at bo fX vl
    have q0:=ai w2 (.cells #[.pointer (some ⟨b,0,none⟩),.int .i64 (q:Int)] 159);have Fy:=(HS.out.cx zQ).cx aw;have Vo:=S.na aw (S.na zQ HN.out);obtain ⟨pc,FB⟩ : ∃ pc,n.us[q]?=some pc:=⟨_,af GU⟩;obtain ⟨z,mR,YP⟩:=S.rh Vo FB;have VG:Dv base A db F d w3∧Mv db F w0 w3:=by
     have mD:Below w0.heap.size w1 w3:=(((aY.mono lF.out.size).alloc (aq lF.out.size aY.size) _).grown hg (by simp;exact p9 (aq lF.out.size aY.size)) (fun k hk=>(gX.out.1.dy k hk).1))
     obtain ⟨BS,Ej⟩:=wi.out.grown mD lF.out MD.out;exact ⟨BS,Ej⟩
    have Hw:Hid (∃ (ss:List (kT X)) (y:X) (p':C.Ch) (a:Option Addr) (c:Nat),(.slice a' (L+1) c':Value) = .slice a (m0+ss.length) c∧pc.val=p'.val∧sP w3 w0.heap.size (.slice a (m0+ss.length) c) (pre++ss.map kT.lk)∧Way S Pk w3 x ss y∧S.K w3 p' y∧m0+ss.length≤64∧Dv base A db F d w3∧Mv db F w0 w3∧B.au w3 tb #[.pointer (some ⟨db,0,none⟩),rv] 100∧Q w3∧Kept db (.slice va m0 vc) w w3∧∀ g,(Value.slice a (m0+ss.length) c).ownBlock=some g→(Value.slice va m0 vc).ownBlock=some g∨w.heap.size≤g):=by
     have e1:m0+(ss++[(⟨b,n,q,y⟩ : kT X)]).length=L+1:=by rw [ae,kj.out];rfl
     refine ⟨ss++[⟨b,n,q,y⟩],z,pc,a',c',by rw [e1],rfl,?_,((Qv.out.cx zQ).cx aw).snoc rfl ⟨⟨_,_,_,Fy⟩,Vo⟩ H0.out ZX.out GU mR,YP,by rw [e1];omega,VG.1,VG.2,dz aw (dz zQ Ba.out),WJ.out _ _ aw (WJ.out _ _ zQ sI.out),(Cl.out.below aY).grow vu.out hg,fun gg VD=>by
      rw [e1] at VD;rcases vl gg VD with h | h
      ·exact vu.out gg h
      ·exact .inr (aq Cl.out.1 (aq aY.size h))⟩
     rw [e1,aW,← ax];exact fX
    have p3:=Fy.c3;obtain ⟨ca,cc,vq,-,-,bE⟩:=Fy.kids;rw [C.a7,Nat.mul_one] at vq;subst vq;obtain ⟨g,o,rfl,cq⟩:=bE q pc.val (by unfold C.bg;rw [aL,FB];rfl)
    obtain ⟨zt,zx,X1⟩:=bJ pc;rw [X1] at cq Hw;have pX:(Builtin.append_ #[101,101] 101 #[.slice a L c,.slice (some ⟨w2.heap.size,0,none⟩) 1 1]).run prog (w2.alloc (.cells #[.pointer (some ⟨b,0,none⟩),.int .i64 (q:Int)] 159)) = .ok (.slice a' (L+1) c') w3:=bo;have Su:(q:Int)<(n.us.length:Int):=by omega
    have T7:(0:Int)≤(q:Int):=by omega
    clear vl bo fX hg aw q0 Fy Vo FB mR YP VG bE X1 aY zQ ze GU QE pI Qv gX HS HN p1 p2;go_wp2_with (first | (at_builtin;refine wpList_append_run 101 rfl (.tmp 38) (.tmp 42) rfl rfl _ _ rfl rfl _ _ pX ?_))
    go_roundw
    case rel=>exact Hw.out
    case measure=>simp [IA];omega
end T
end Go.Proofs.YtihmgigfkmofnaaGreatDoor
