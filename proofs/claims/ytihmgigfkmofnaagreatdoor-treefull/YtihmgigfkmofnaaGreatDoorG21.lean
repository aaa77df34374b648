import Derived.Test.YtihmgigfkmofnaaGreatDoorG20
set_option maxHeartbeats 4000000
set_option maxRecDepth 100000
open Go.Proofs.Tryz
namespace Go.Proofs.YtihmgigfkmofnaaGreatDoor
namespace T
open Go.RowKit
def Uo(w:World)(k:Nat):Prop :=
 (∀ j v,w.cell? ⟨k,j,none⟩=some v→(∀ s,v≠.string s)∧∀ t x,v≠.iface t x)∧(∀ cs fr,w.heap[k]?≠some (.cells cs 155 fr))∧∀ cs fr,w.heap[k]?≠some (.cells cs 100 fr)
structure cW(w w':World):Prop where
 size:w.heap.size≤w'.heap.size
 block:∀ k,k<w.heap.size→w'.heap[k]?=w.heap[k]?∨Uo w k
theorem cW.of{w w':World}(h:Below w.heap.size w w'):cW w w':=⟨h.size,fun k hk=>.inl (h.block k hk)⟩
theorem Mv.cH{base:Nat}{A:Nat→Addr}{db:Nat}{F:Nat→Prop}{d:S.V.bw}{w w':World}(h:Mv db F w w')(hv:Dv base A db F d w):cW w w':=⟨h.size,fun k hk=>by
 by_cases e:k=db
 ·subst e;obtain ⟨d',_,hd⟩:=hv.dev;refine .inr ⟨fun j v hc=>kU hd hc,?_,?_⟩
  ·intro cs fr h1;obtain ⟨mb,nb,Kz,av,Dn,hb⟩:=hd;rw [hb.dF] at h1;simp at h1
  ·intro cs fr h1;obtain ⟨mb,nb,Kz,av,Dn,hb⟩:=hd;rw [hb.dF] at h1;simp at h1
 ·exact .inl (h.one.block k hk e)⟩
theorem cW.str{w w':World}(h:cW w w'){g o:Nat}{s:ByteArray}(hc:w.cell? ⟨g,o,none⟩=some (.string s)):w'.heap[g]?=w.heap[g]? :=
 (h.block g (World.block_lt_of_cell? w _ hc)).elim id fun e=>absurd rfl ((e.1 o _ hc).1 s)
theorem cW.ifc{w w':World}(h:cW w w'){g o:Nat}{t:TypeId}{x:Value}(hc:w.cell? ⟨g,o,none⟩=some (.iface t x)):w'.heap[g]?=w.heap[g]? :=
 (h.block g (World.block_lt_of_cell? w _ hc)).elim id fun e=>absurd rfl ((e.1 o _ hc).2 t x)
theorem bL{w w':World}{g o:Nat}{v:Value}(h:w'.heap[g]?=w.heap[g]?)(hc:w.cell? ⟨g,o,none⟩=some v):w'.cell? ⟨g,o,none⟩=some v :=
 (World.cell?_of_block (a:=⟨g,o,none⟩) h).trans hc
theorem On{w w':World}(h:cW w w'){v:Value}{l:List Pr}(hr:gM w v l):gM w' v l:=by
 obtain ⟨a,cap,rfl,hle,hn,hc⟩:=hr;refine ⟨a,cap,rfl,hle,hn,fun j hj=>?_⟩
 obtain ⟨g,o,ha,h1,h2⟩:=hc j hj;have hg:=h.str h1;exact ⟨g,o,ha,bL hg h1,bL hg h2⟩
theorem O4{w w':World}(h:cW w w'){v:Value}{l:List B.Lk}(hr:B.di w v l):B.di w' v l:=by
 obtain ⟨a,cap,rfl,hle,hn,hc⟩:=hr;refine ⟨a,cap,rfl,hle,hn,fun j hj=>?_⟩
 obtain ⟨g,o,ha,h1,h2⟩:=hc j hj;have hg:=h.str h1;exact ⟨g,o,ha,bL hg h1,bL hg h2⟩
theorem QK{w w':World}(h:cW w w'){v:Value}{l:List C.Ch}(hr:C.di w v l):C.di w' v l:=by
 obtain ⟨a,cap,rfl,hle,hn,hc⟩:=hr;refine ⟨a,cap,rfl,hle,hn,fun j u hj=>?_⟩
 obtain ⟨g,o,ha,h1⟩:=hc j u hj;obtain ⟨p,_,rfl⟩ : ∃ p ∈ l,p.val=u:=by
  have:=cG hj;simpa [C.bh] using this
 obtain ⟨t,x,hp⟩:=bP p;have hg:=h.ifc (hp▸h1);exact ⟨g,o,ha,bL hg h1⟩
theorem dQ.cH{w w':World}(h:cW w w'){b:Nat}{n:SN}{pv lv cv:Value}(hs:dQ w b n pv lv cv):dQ w' b n pv lv cv:=by
 refine ⟨?_,On h hs.iI,O4 h hs.bh,QK h hs.kids,hs.fine⟩;rcases h.block b hs.row.lt with e | e
 ·exact e.trans hs.row
 ·exact absurd hs.row (e.2.1 _ _)
theorem ed{w w':World}(h:cW w w'){b:Nat}{cs:Array Value}(hs:B.au w b cs 100):B.au w' b cs 100:=by
 rcases h.block b hs.lt with e | e
 ·exact e.trans hs
 ·exact absurd hs (e.2.2 _ _)
theorem Dv.Hr{base:Nat}{A:Nat→Addr}{db:Nat}{F:Nat→Prop}{d:S.V.bw}{w:World}(h:Dv base A db F d w):db<w.heap.size:=by
 obtain ⟨d',_,mb,nb,Kz,av,Dn,hb⟩:=h.dev;exact (Array.getElem?_eq_some_iff.1 hb.dF).1
theorem Dv.grown{base:Nat}{A:Nat→Addr}{db:Nat}{F:Nat→Prop}{d:S.V.bw}{w0 w1 w2:World}(fP:Dv base A db F d w1)(nV:Below w0.heap.size w1 w2)(hm:Mv db F w0 w1)(iL:Dv base A db F d w0):Dv base A db F d w2∧Mv db F w0 w2:=by
 obtain ⟨d1,n1,AV⟩:=fP.dev;obtain ⟨d0,n0,Hd⟩:=iL.dev;have hF0:∀ k,F k→k<w0.heap.size:=Hd.lt;have hs:S.V.Step (fun k=>w0.heap.size≤k) (fun k=>w0.heap.size≤k) w1 w2:=⟨nV.os,nV.tape,nV.output,nV.size,fun k hk hn=>nV.block k (by omega),fun _ h=>.inl h⟩
 have Jo:S.V.cL w2 db F d1:=AV.keep hs (fun k hk e=>by have:=hF0 k hk;omega)
 have kO:Mv db F w0 w2:=⟨⟨nV.os.trans hm.step.os,nV.tape.trans hm.step.tape,nV.output.trans hm.step.output,ar hm.size nV.size,fun k hk hn=>(nV.block k hk).trans (hm.step.block k hk hn),fun _ h=>.inl h⟩,⟨nV.os.trans hm.step.os,nV.tape.trans hm.step.tape,nV.output.trans hm.step.output,ar hm.size nV.size,fun k hk hn=>(nV.block k hk).trans (hm.one.block k hk hn),fun _ h=>.inl h⟩⟩
 exact ⟨⟨⟨d1,n1,Jo⟩,fP.env.keep (nV.mono iL.env.errs.size),EM kO.one Hd Jo iL.errs,fP.up,fP.alive,fP.lo⟩,kO⟩
def Plain(u:Value):Prop:=(∃ p,u = .pointer p)∨∃ k x,u = .int k x
theorem Plain.no{u:Value}(h:Plain u):(∀ s,u≠.string s)∧∀ t x,u≠.iface t x:=by
 rcases h with ⟨p,rfl⟩ | ⟨k,x,rfl⟩
 ·exact ⟨(fun s e=>by cases e),(fun t x e=>by cases e)⟩
 ·exact ⟨(fun s e=>by cases e),(fun t x e=>by cases e)⟩
theorem ph(l:List W.Lk):∀ u ∈ W.bh l,Plain u:=by
 intro u hu;simp only [W.bh,l9] at hu;obtain ⟨p,_,h⟩:=hu;simp at h
 rcases h with rfl | rfl
 ·exact .inl ⟨_,rfl⟩
 ·exact .inr ⟨_,_,rfl⟩
def tQ(w:World)(base:Nat)(v:Value)(l:List W.Lk):Prop :=
 W.b7 w base v l∧∀ g,v.ownBlock=some g→∃ cur,w.heap[g]?=some (.cells cur 159 (0,0))∧∀ u ∈ cur.toList,Plain u
theorem tQ.nil(w:World)(base:Nat):tQ w base (.slice none 0 0) []:=⟨W.b7.nil w base,fun g h=>by simp [Value.ownBlock] at h⟩
theorem tQ.odd{w:World}{base:Nat}{v:Value}{l:List W.Lk}(h:tQ w base v l){g:Nat}(hg:v.ownBlock=some g):Uo w g:=by
 obtain ⟨cur,h1,h2⟩:=h.2 g hg;refine ⟨fun j u hc=>?_,fun cs fr e=>?_,fun cs fr e=>?_⟩
 ·rw [cell_of_row w g j cur _ _ h1] at hc;exact (h2 u (by have:=Array.getElem?_eq_some_iff.1 hc;obtain ⟨h3,h4⟩:=this;rw [← h4];exact gH h3)).no
 ·rw [h1] at e;simp at e
 ·rw [h1] at e;simp at e
theorem tQ.below{w w':World}{base:Nat}{v:Value}{l:List W.Lk}(h:tQ w base v l)(hb:Below w.heap.size w w'):tQ w' base v l:=by
 refine ⟨h.1.below hb,fun g hg=>?_⟩
 obtain ⟨cur,h1,h2⟩:=h.2 g hg;exact ⟨cur,(hb.block g (Array.getElem?_eq_some_iff.1 h1).1).trans h1,h2⟩
theorem tQ.mv{db:Nat}{F:Nat→Prop}{w w':World}{base:Nat}{v:Value}{l:List W.Lk}(h:tQ w base v l)(hm:Mv db F w w')(hdb:db<base):tQ w' base v l:=by
 refine ⟨⟨h.1.1,?_⟩,fun g hg=>?_⟩
 ·rcases h.1.2 with h' | ⟨g,cap,cur,h',h1,h2,hr⟩
  ·exact .inl h'
  ·exact .inr ⟨g,cap,cur,h',h1,(hm.one.block g (Array.getElem?_eq_some_iff.1 h2).1 (by omega)).trans h2,hr⟩
 ·obtain ⟨cur,h1,h2⟩:=h.2 g hg;have:=(h.1.dF g hg).1;exact ⟨cur,(hm.one.block g (Array.getElem?_eq_some_iff.1 h1).1 (by omega)).trans h1,h2⟩
theorem qf(n:Nat):∀ u ∈ (Builtin.zeroCells (Value.agg #[.pointer none,.int .i64 0]).cells n).toList,Plain u:=by
 intro u hu;simp only [Builtin.zeroCells,Value.cells] at hu;simp at hu
 obtain ⟨i,_,rfl⟩:=hu;rcases bV i with h | h
 ·rw [h];exact .inl ⟨none,rfl⟩
 ·rw [h];exact .inr ⟨.i64,0,rfl⟩
theorem tQ.push(base:Nat)(v:Value)(l:List W.Lk)(p:W.Lk)(w:World)(h:tQ w base v l)(hn:l.length≤100000)(dx:base≤w.heap.size):∃ a' c' w',(Builtin.append_ #[101,101] 101 #[v,.slice (some ⟨w.heap.size,0,none⟩) 1 1]).run prog (w.alloc (.cells #[.pointer (some ⟨p.1,0,none⟩),.int .i64 p.2] 159)) = .ok (.slice a' (l.length+1) c') w'∧tQ w' base (.slice a' (l.length+1) c') (l++[p])∧(w.alloc (.cells #[.pointer (some ⟨p.1,0,none⟩),.int .i64 p.2] 159)).grownBy w' v.ownBlock∧cW w w'∧(∀ g,(Value.slice a' (l.length+1) c').ownBlock=some g→v.ownBlock=some g∨w.heap.size≤g):=by
 obtain ⟨i0,hi,hz,b8,kP⟩:=info_parts W.lO;have ho:W.b7 (w.alloc (.cells #[.pointer (some ⟨p.1,0,none⟩),.int .i64 p.2] 159)) base v l:=World.ownsRow.alloc h.1 _;obtain ⟨a',c',w',hr,aF,hg⟩:=W.fo base v _ l [p] _ ho (W.vM w p 159) (by simp;omega) (by simp;omega)
 have aw:cW w w':=⟨by have:=hg.size;simp at this;omega,fun k hk=>by
  by_cases e:some k=v.ownBlock
  ·exact .inr (h.odd e.symm)
  ·left
   rw [hg.block k (by simp;omega) e]
   exact heap_alloc_old w _ hk⟩
 have ny:=bM w #[.pointer (some ⟨p.1,0,none⟩),.int .i64 p.2] 159;have ik:∀ j u,([.pointer (some ⟨p.1,0,none⟩),.int .i64 p.2] : List Value)[j]?=some u→(w.alloc (.cells #[.pointer (some ⟨p.1,0,none⟩),.int .i64 p.2] 159)).cell? ((⟨w.heap.size,0,none⟩ : Addr).add j)=some u:=fun j u hj=>by
  rw [bt,Nat.zero_add];match j,hj with
  | 0,hj=>cases hj;exact ny.2 0 (by simp)
  | 1,hj=>cases hj;exact ny.2 1 (by simp)
 have RK:∀ u ∈ ([.pointer (some ⟨p.1,0,none⟩),.int .i64 p.2] : List Value),Plain u:=ph [p];suffices hh:(∀ g,(Value.slice a' (l.length+1) c').ownBlock=some g→v.ownBlock=some g∨w.heap.size≤g)∧∀ g,(Value.slice a' (l.length+1) c').ownBlock=some g→∃ cur,w'.heap[g]?=some (.cells cur 159 (0,0))∧∀ u ∈ cur.toList,Plain u from ⟨a',c',w',hr,⟨aF,hh.2⟩,hg,aw,hh.1⟩
 rcases h.1.2 with ⟨rfl,h0⟩ | ⟨g0,cap,cur,rfl,lZ,oH,BQ,sB,fI,mf⟩
 ·have hq:=run_append_nil (P:=prog) (w.alloc (.cells #[.pointer (some ⟨p.1,0,none⟩),.int .i64 p.2] 159)) 101 101 159 i0 _ underlying101 hi hz ⟨w.heap.size,0,none⟩ 1 1 _ (by rw [b8];rfl) ik (by omega) (by omega) (by rw [kP];omega)
  rw [hq] at hr;simp only [Result.ok.injEq,Value.slice.injEq] at hr;obtain ⟨⟨rfl,-,-⟩,rfl⟩:=hr;refine ⟨fun g il=>?_,fun g il=>?_⟩
  ·simp only [Value.ownBlock,Option.some.injEq] at il;right;subst il;simp
  simp only [Value.ownBlock,Option.some.injEq] at il;subst il;refine ⟨_,heap_alloc_new (World.drew _) _,fun u hu=>?_⟩
  simp only [bX,cu] at hu;rcases hu with hu | hu
  ·exact RK u (by simpa using hu)
  ·exact qf _ u hu
 ·have fO:(w.alloc (.cells #[.pointer (some ⟨p.1,0,none⟩),.int .i64 p.2] 159)).heap[g0]?=some (.cells cur 159 (0,0)):=(heap_alloc_old w _ (Array.getElem?_eq_some_iff.1 oH).1).trans oH;have tn:∀ u ∈ cur.toList,Plain u:=by
   obtain ⟨fJ,h1,h2⟩:=h.2 g0 rfl;rw [oH] at h1;simp only [Option.some.injEq,Obj.cells.injEq,and_true] at h1;subst h1;exact h2
  by_cases eh:l.length+1≤cap
  ·have hq:=run_append_room (P:=prog) (w.alloc (.cells #[.pointer (some ⟨p.1,0,none⟩),.int .i64 p.2] 159)) 101 101 159 i0 underlying101 hi g0 l.length cap cur fO ⟨w.heap.size,0,none⟩ 1 1 _ (by rw [b8];rfl) ik (by intro u hu;rcases RK u hu with ⟨q,rfl⟩ | ⟨q,x,rfl⟩ <;> rfl) eh (by rw [b8,fI];simp;omega)
   rw [hq] at hr;simp only [Result.ok.injEq,Value.slice.injEq] at hr;obtain ⟨⟨rfl,-,-⟩,rfl⟩:=hr;refine ⟨fun g il=>?_,fun g il=>?_⟩
   ·simp only [Value.ownBlock,Option.some.injEq] at il;left;subst il;rfl
   simp only [Value.ownBlock,Option.some.injEq] at il;subst il;refine ⟨_,setRow_heap _ g0 cur _ _ _ fO,fun u hu=>?_⟩
   simp only [cu] at hu;rcases hu with (hu | hu) | hu
   ·exact tn u (bn hu)
   ·exact RK u hu
   ·exact tn u (bH hu)
  ·have pz:(W.bh l).length=l.length*i0.size:=by rw [b8];exact W.aT l
   have holds:∀ j u,(W.bh l)[j]?=some u→(w.alloc (.cells #[.pointer (some ⟨p.1,0,none⟩),.int .i64 p.2] 159)).cell? ((⟨g0,0,none⟩ : Addr).add j)=some u:=World.ownsRow.cells ho (g:=g0) rfl;have hq:=run_append_grow (P:=prog) (w.alloc (.cells #[.pointer (some ⟨p.1,0,none⟩),.int .i64 p.2] 159)) 101 101 159 i0 _ underlying101 hi hz ⟨g0,0,none⟩ l.length cap (W.bh l) pz holds ⟨w.heap.size,0,none⟩ 1 1 _ (by rw [b8];rfl) ik (by omega) (by omega) (growslice_fits (by omega) (by rw [kP];omega))
   rw [hq] at hr;simp only [Result.ok.injEq,Value.slice.injEq] at hr;obtain ⟨⟨rfl,-,-⟩,rfl⟩:=hr;refine ⟨fun g il=>?_,fun g il=>?_⟩
   ·simp only [Value.ownBlock,Option.some.injEq] at il;right;subst il;simp
   simp only [Value.ownBlock,Option.some.injEq] at il;subst il;refine ⟨_,heap_alloc_new (World.drew _) _,fun u hu=>?_⟩
   simp only [bX,cu] at hu;rcases hu with (hu | hu) | hu
   ·exact ph l u (by simpa using hu)
   ·exact RK u (by simpa using hu)
   ·exact qf _ u hu
def Fit(n:SN):Prop:=n.zo∧n.sz≤4072∧(n.us.length=0∨1≤n.lk.length)
structure Sys(d:S.V.bw)(X:Type) where
 K:World→C.Ch→X→Prop
 N:World→SN→X→Prop
 E:Prop
 sub:X→Nat→X→Prop
 rk:X→Nat
 ka:∀ {w w':World} {p:C.Ch} {x:X},cW w w'→K w p x→K w' p x
 na:∀ {w w':World} {n:SN} {x:X},cW w w'→N w n x→N w' n x
 qT:∀ {w:World} {n:SN} {x:X} {i:Nat} {p:C.Ch},N w n x→n.us[i]?=some p→∃ y,sub x i y∧K w p y
 fit:∀ {w:World} {n:SN} {x:X},N w n x→Fit n
 ia:∀ {w:World} {id:Int} {x:X},K w (.pg id) x→(cM d id=none∧E)∨∃ p,cM d id=some p∧∀ w',N w' p.sn x
 node:∀ {w:World} {b:Nat} {x:X},K w (.nd b) x→∃ n pv lv cv,dQ w b n pv lv cv∧N w n x
 YQ:E∨∀ x i y,sub x i y→rk y+1≤rk x
def qP(A:Nat→Addr):Ending:=.returned (.tuple #[.pointer none,.iface 360 (.pointer (some (A 8)))])
def lV{d:S.V.bw}{X:Type}(S:Sys d X)(A:Nat→Addr)(x:X)(e:Ending)(w':World):Prop :=
 (S.E∧e=qP A)∨∃ b n pv lv cv,e = .returned (.tuple #[.pointer (some ⟨b,0,none⟩),.nilIface])∧dQ w' b n pv lv cv∧S.N w' n x
theorem oZ{base:Nat}{A:Nat→Addr}{db:Nat}{F:Nat→Prop}{d:S.V.bw}{X:Type}(S:Sys d X)(p:C.Ch)(x:X)(tb:Nat)(rv:Value)(w:World)(hk:S.K w p x)(ht:B.au w tb #[.pointer (some ⟨db,0,none⟩),rv] 100)(hv:Dv base A db F d w):Calls prog 104 #[.pointer (some ⟨tb,0,none⟩),p.val] w fun e w'=>lV S A x e w'∧Dv base A db F d w'∧Mv db F w w':=by
 cases p with
 | pg id =>
  have HL:=ab (KR base A db F d id w hv);have HK:=ab (S.ia hk);have c0:=ht.c0;have a1:=fun W=>Q4 (.int .i64 id) W
  clear hk ht hv;show Calls prog 104 #[.pointer (some ⟨tb,0,none⟩),.iface 146 (.int .i64 id)] w fun e w'=>lV S A x e w'∧Dv base A db F d w'∧Mv db F w w'
  go_enter func104,ntmps104;go_wp2_with fail;refine HL.out.mono ?_
  rintro e w1 ⟨hr,h1,h2⟩;have Ei:lV S A x e w1:=by
   rcases hr with ⟨g1,g2⟩ | ⟨q,b,pv,lv,cv,g1,g2,g3⟩
   ·rcases HK.out with ⟨_,k2⟩ | ⟨q,k1,_⟩
    ·exact .inl ⟨k2,g2⟩
    ·rw [g1] at k1;cases k1
   ·rcases HK.out with ⟨k1,_⟩ | ⟨q',k1,k2⟩
    ·rw [g1] at k1;cases k1
    ·rw [g1] at k1;cases k1;exact .inr ⟨b,q.sn,pv,lv,cv,g2,g3,k2 w1⟩
  obtain ⟨pp,vv,he,-,AL⟩:=hr.form;subst he;have HR:Hid (lV S A x (.returned (.tuple #[.pointer pp,vv])) w1∧Dv base A db F d w1∧Mv db F w w1):=⟨Ei,h1,h2⟩;clear hr Ei h1 h2 HL c0 HK;rcases AL with rfl | rfl
  ·go_wp2;go_ret2;exact HR.out
  ·go_wp2;go_ret2;exact HR.out
 | nd b =>
  obtain ⟨n,pv,lv,cv,hs,hn⟩:=S.node hk;have HR:Hid (lV S A x (.returned (.tuple #[.pointer (some ⟨b,0,none⟩),.nilIface])) w∧Dv base A db F d w∧Mv db F w w):=⟨.inr ⟨b,n,pv,lv,cv,rfl,hs,hn⟩,hv,Mv.refl _ _ _⟩;clear hs hn ht hv hk;have a1:=fun W=>JH (.pointer (some ⟨b,0,none⟩)) W
  have a2:=fun W=>Q5 (.pointer (some ⟨b,0,none⟩)) W
  show Calls prog 104 #[.pointer (some ⟨tb,0,none⟩),.iface 152 (.pointer (some ⟨b,0,none⟩))] w fun e w'=>lV S A x e w'∧Dv base A db F d w'∧Mv db F w w'
  go_enter func104,ntmps104;go_wp2;go_ret2;exact HR.out
theorem lV.form{d:S.V.bw}{X:Type}{S:Sys d X}{A:Nat→Addr}{x:X}{e:Ending}{w':World}(h:lV S A x e w'):∃ p v,e = .returned (.tuple #[.pointer p,v])∧(v = .nilIface∨v = .iface 360 (.pointer (some (A 8)))):=by
 rcases h with ⟨_,rfl⟩ | ⟨b,n,pv,lv,cv,rfl,_⟩
 ·exact ⟨_,_,rfl,.inr rfl⟩
 ·exact ⟨_,_,rfl,.inl rfl⟩
theorem qn{base:Nat}{A:Nat→Addr}{db:Nat}{F:Nat→Prop}{d:S.V.bw}{X:Type}(S:Sys d X)(p:C.Ch)(x:X)(tb:Nat)(rv:Value)(dp:Nat)(w:World)(hk:S.K w p x)(ht:B.au w tb #[.pointer (some ⟨db,0,none⟩),rv] 100)(hv:Dv base A db F d w)(nR:S.E∨dp≤64):Calls prog 92 #[.pointer (some ⟨tb,0,none⟩),p.val,.int .i64 (dp:Int)] w fun e w'=>(lV S A x e w'∧(64<dp→e=qP A))∧Dv base A db F d w'∧Mv db F w w':=by
 obtain ⟨pt,px,iV⟩:=bP p;by_cases P3:64<dp
 ·have hE:S.E:=nR.resolve_right (by omega)
  have hle:(64:Int)<(dp:Int):=by omega
  have g8:w.cell? ⟨8,0,none⟩=some (.iface 360 (.pointer (some (A 8)))):=hv.g 8 (by decide)
  have HR:Hid ((lV S A x (qP A) w∧(64<dp→qP A=qP A))∧Dv base A db F d w∧Mv db F w w):=⟨⟨.inl ⟨hE,rfl⟩,fun _=>rfl⟩,hv,Mv.refl _ _ _⟩
  have HEE:=ab hE;rw [iV];clear hk ht hv hE nR iV;go_enter func92,ntmps92;go_wp2_with fail;go_quiet (fail)
  go_wp2;go_ret2;exact ⟨⟨.inl ⟨(HEE.out),rfl⟩,fun _=>rfl⟩,HR.out.2.1.below (aA (Below.refl _ _) _),HR.out.2.2.trans (Mv.of (aA (Below.refl _ _) _))⟩
 ·have HL:=ab (oZ S p x tb rv w hk ht hv);rw [iV] at HL ⊢;have hle:¬ (64:Int)<(dp:Int):=by omega
  clear hk ht hv iV nR;go_enter func92,ntmps92;go_wp2_with fail;refine HL.out.mono ?_
  rintro e w1 ⟨hr,h1,h2⟩;obtain ⟨pp,vv,he,AL⟩:=hr.form;subst he;have HR:Hid ((lV S A x (.returned (.tuple #[.pointer pp,vv])) w1∧(64<dp→.returned (.tuple #[.pointer pp,vv])=qP A))∧Dv base A db F d w1∧Mv db F w w1):=⟨⟨hr,fun h=>absurd h P3⟩,h1,h2⟩
  clear hr h1 h2 HL;rcases AL with rfl | rfl
  ·go_wp2;go_ret2;exact HR.out
  ·go_wp2;go_ret2;exact HR.out
structure gD(X:Type) where
 b:Nat
 n:SN
 at':Nat
 x:X
def gD.lk{X:Type}(s:gD X):W.Lk:=(s.b,(s.at':Int))
def RW{d:S.V.bw}{X:Type}(S:Sys d X)(w:World)(s:gD X):Prop:=(∃ pv lv cv,dQ w s.b s.n pv lv cv)∧S.N w s.n s.x
theorem RW.cH{d:S.V.bw}{X:Type}{S:Sys d X}{w w':World}{s:gD X}(h:RW S w s)(ha:cW w w'):RW S w' s:=by
 obtain ⟨⟨pv,lv,cv,h1⟩,h2⟩:=h;exact ⟨⟨pv,lv,cv,h1.cH ha⟩,S.na ha h2⟩
def Way{d:S.V.bw}{X:Type}(S:Sys d X)(Pk:SN→Nat→Prop)(w:World):X→List (gD X)→X→Prop
 | x,[],y=>x=y
 | x,s::t,y=>s.x=x∧RW S w s∧¬ s.n.us.length=0∧Pk s.n s.at'∧s.at'<s.n.us.length∧∃ z,S.sub x s.at' z∧Way S Pk w z t y
theorem Way.cH{d:S.V.bw}{X:Type}{S:Sys d X}{Pk:SN→Nat→Prop}{w w':World}(ha:cW w w'):∀ {t:List (gD X)} {x y:X},Way S Pk w x t y→Way S Pk w' x t y
 | [],_,_,h=>h
 | _::_,_,_,⟨h1,h2,h3,h4,h5,z,h6,h7⟩=>⟨h1,h2.cH ha,h3,h4,h5,z,h6,Way.cH ha h7⟩
theorem Way.snoc{d:S.V.bw}{X:Type}{S:Sys d X}{Pk:SN→Nat→Prop}{w:World}:∀ {t:List (gD X)} {x y z:X} {s:gD X},Way S Pk w x t y→s.x=y→RW S w s→¬ s.n.us.length=0→Pk s.n s.at'→s.at'<s.n.us.length→S.sub y s.at' z→Way S Pk w x (t++[s]) z
 | [],_,_,z,_,h,g1,g2,g3,g4,g5,g6=>by
  have h:_=_:=h;subst h;exact ⟨g1,g2,g3,g4,g5,z,g6,rfl⟩
 | _::_,_,_,_,_,⟨h1,h2,h3,h4,h5,z,h6,h7⟩,g1,g2,g3,g4,g5,g6=>⟨h1,h2,h3,h4,h5,z,h6,Way.snoc h7 g1 g2 g3 g4 g5 g6⟩
theorem Way.YR{d:S.V.bw}{X:Type}{S:Sys d X}{Pk:SN→Nat→Prop}{w:World}:∀ {t:List (gD X)} {x y:X},Way S Pk w x t y→S.E∨S.rk y+t.length≤S.rk x
 | [],_,_,h=>by
  have h:_=_:=h;subst h;exact .inr (aj _)
 | s::t,x,_,⟨_,_,_,_,_,z,h6,h7⟩=>by
  rcases S.YQ with h | h
  ·exact .inl h
  ·rcases Way.YR h7 with g | g
   ·exact .inl g
   ·have:=h x s.at' z h6;right;rw [List.length_cons];omega
def Kept(db:Nat)(v:Value)(w w':World):Prop:=w.heap.size≤w'.heap.size∧∀ k,k<w.heap.size→k≠db→v.ownBlock≠some k→w'.heap[k]?=w.heap[k]?
theorem Kept.mv{db:Nat}{F:Nat→Prop}{v:Value}{w w1 w2:World}(h:Kept db v w w1)(hm:Mv db F w1 w2):Kept db v w w2:=⟨ar h.1 hm.size,fun k hk hd hv=>(hm.one.block k (aq hk h.1) hd).trans (h.2 k hk hd hv)⟩
theorem Kept.below{db:Nat}{v:Value}{w w1 w2:World}(h:Kept db v w w1)(hb:Below w1.heap.size w1 w2):Kept db v w w2:=⟨ar h.1 hb.size,fun k hk hd hv=>(hb.block k (aq hk h.1)).trans (h.2 k hk hd hv)⟩
theorem Kept.grow{db:Nat}{v vv:Value}{w w1 w2:World}{o:Obj}(h:Kept db v w w1)(zC:∀ g,vv.ownBlock=some g→v.ownBlock=some g∨w.heap.size≤g)(hg:(w1.alloc o).grownBy w2 vv.ownBlock):Kept db v w w2:=by
 have hs:=hg.size;simp at hs
 refine ⟨ar h.1 (by omega),fun k hk hd hv=>?_⟩
 have jx:=aq hk h.1;rw [hg.block k (by simp;omega) (fun e=>by
  rcases zC k e.symm with e' | e'
  ·exact hv e'
  ·omega),heap_alloc_old w1 o jx]
 exact h.2 k hk hd hv
def UN:Value→Nat
 | .slice _ n _=>n
 | _=>0
def nP{d:S.V.bw}{X:Type}(S:Sys d X)(Pk:SN→Nat→Prop)(A:Nat→Addr)(pre:List W.Lk)(x:X)(bs:Nat)(e:Ending)(w':World):Prop :=
 (S.E∧e = .returned (.tuple #[.slice none 0 0,.iface 360 (.pointer (some (A 8)))])) ∨
 ∃ (ss:List (gD X)) (s:gD X) (a:Option Addr) (c:Nat),e = .returned (.tuple #[.slice a (pre.length+ss.length+1) c,.nilIface])∧tQ w' bs (.slice a (pre.length+ss.length+1) c) (pre++ss.map gD.lk++[s.lk])∧Way S Pk w' x ss s.x∧RW S w' s∧s.n.us.length=0∧s.at'=0∧pre.length+ss.length≤63
theorem yp{base:Nat}{A:Nat→Addr}{db:Nat}{F:Nat→Prop}{d:S.V.bw}{X:Type}(S:Sys d X)(Pk:SN→Nat→Prop)(Q:World→Prop)(hQ:∀ W W',cW W W'→Q W→Q W')(pre:List W.Lk)(v:Value)(p:C.Ch)(x:X)(tb:Nat)(rv:Value)(fn:Nat)(cp:Array Value)(sC:∀ args w,Sem.run prog (callFunc fn args) w = .ok (.enter fn args) w)(w0 w:World)(hk:S.K w p x)(ht:B.au w tb #[.pointer (some ⟨db,0,none⟩),rv] 100)(hv:Dv base A db F d w)(hm:Mv db F w0 w)(iL:Dv base A db F d w0)(ho:tQ w w0.heap.size v pre)(hq:Q w)(jm:pre.length≤64)(nR:S.E∨S.rk x+pre.length+1≤64)(El:∀ W b n pv lv cv y,Q W→dQ W b n pv lv cv→S.N W n y→¬ n.us.length=0→Calls prog fn (#[.agg #[.int .i64 n.f,lv]]++cp) W fun e w'=>∃ q:Nat,e = .returned (.int .i64 (q:Int))∧Pk n q∧q<n.us.length∧Below W.heap.size W w'):Calls prog 89 #[.pointer (some ⟨tb,0,none⟩),v,p.val,.func (.func fn) #[] cp] w fun e w'=>nP S Pk A pre x w0.heap.size e w'∧Dv base A db F d w'∧Mv db F w0 w'∧Kept db v w w':=by
 obtain ⟨va,vc,kq⟩:=ho.1.form;subst kq;obtain ⟨pt,px,iV⟩:=bP p;obtain ⟨m0,Z0⟩ : ∃ m,m=pre.length:=⟨_,rfl⟩;have Xz:=ab Z0;rw [← Z0] at ho jm nR ⊢;have HK:=ab hk;have HT:=ab ht;have HV:=ab hv;have HM:=ab hm;have HO:=ab ho;have HQ:=ab hq;have HL:=ab nR;have HP:=ab El;have HAW:=ab hQ;have HPV:=ab iV;have HDB:=ab iL.Hr;have Ri:=ab iL;have Xr:=ab jm;have Lm:∀ (fn:Fn) (first cap:Array Value) (w:World),(Instr.makeFunc fn first cap).run prog w = .ok (.func fn first cap) w:=fun _ _ _ _=>rfl
 rw [iV];clear hk ht hv hm ho hq nR El hQ iV Z0 iL jm;go_enter func89,ntmps89;go_wp2;go_loopw [1,2] (fun vv cc wr=>∃ (ss:List (gD X)) (y:X) (p':C.Ch) (a:Option Addr) (c:Nat),vv = .slice a (m0+ss.length) c∧cc=p'.val∧tQ wr w0.heap.size (.slice a (m0+ss.length) c) (pre++ss.map gD.lk)∧Way S Pk wr x ss y∧S.K wr p' y∧m0+ss.length≤64∧Dv base A db F d wr∧Mv db F w0 wr∧B.au wr tb #[.pointer (some ⟨db,0,none⟩),rv] 100∧Q wr∧Kept db (.slice va m0 vc) w wr∧∀ g,(Value.slice a (m0+ss.length) c).ownBlock=some g→(Value.slice va m0 vc).ownBlock=some g∨w.heap.size≤g) (fun vv _ _=>65 - UN vv)
 case atStart=>exact ⟨[],x,p,va,vc,rfl,HPV.out.symm,by simpa using HO.out,rfl,HK.out,Xr.out,HV.out,HM.out,HT.out,HQ.out,⟨aj _,fun _ _ _ _=>rfl⟩,fun g hg=>.inl hg⟩
 case round =>
  obtain ⟨ss,y,p',a,c,rfl,rfl,ho,jl,hk,hlen,hv,hm,ht,hq,TG,zC⟩:=hrel;obtain ⟨L,hL⟩ : ∃ L,L=m0+ss.length:=⟨_,rfl⟩;rw [← hL] at ho hlen zC ⊢;have wg:=ab (qn S p' y tb rv (L+1) wr hk ht hv (by
   rcases jl.YR with h | h
   ·exact .inl h
   ·rcases HL.out with g | g
    ·exact .inl g
    ·right;omega))
  rw [show ((L+1:Nat):Int)=(L:Int)+1 by omega] at wg
  obtain ⟨pt',px',ZE⟩:=bP p';rw [ZE] at wg ⊢;have qV:=ab ho;have we:=ab jl;have tU:=ab hv;have FO:=ab hm;have Ig:=ab ht;have yO:=ab hq;have R6:=ab TG;have zM:=ab zC;have lW:=ab hL;have wj:=ab hlen;have hLs:(L:Int)≤64:=by omega
  have hL0:(0:Int)≤(L:Int):=by omega
  clear TG zC ho jl hk hv hm ht hq hL ZE hlen HO HK HV HM HT HQ HPV;go_wp2_with fail;refine wg.out.mono ?_
  rintro e w1 ⟨⟨Ei,P5⟩,fP,fs⟩;have Ue:=fs.cH tU.out;have zO:=ab (FO.out.trans fs);have Uy:=ab (R6.out.mv fs);have tT:=ab fP;have jE:=ab (qV.out.mv fs HDB.out);have Ba:=ab (ed Ue Ig.out);have Bb:=ab (HAW.out _ _ Ue yO.out);have Yj:=ab (we.out.cH Ue);rcases Ei with ⟨hE,rfl⟩ | ⟨b,n,pv,lv,cv,rfl,hs,hn⟩
  ·have ch:Hid (nP S Pk A pre x w0.heap.size (.returned (.tuple #[.slice none 0 0,.iface 360 (.pointer (some (A 8)))])) w1∧Dv base A db F d w1∧Mv db F w0 w1∧Kept db (.slice va m0 vc) w w1):=⟨.inl ⟨hE,rfl⟩,tT.out,zO.out,Uy.out⟩;unfold qP;clear P5 fP fs Ue wg qV we tU FO Ig yO hE;go_wp2;go_ret2;exact ch.out
  ·have ad3:L≤63:=by
    rcases a8 64 (L+1) with h | h
    ·have:=P5 h;unfold qP at this;simp at this
    ·omega
   have HS:=ab hs;have HN:=ab hn;have sJ:=ab (cB b n pv lv cv w1 hs);clear P5 fP fs Ue wg qV we tU FO Ig yO hs hn;by_cases h0:n.us.length=0
   ·rw [show decide (n.us.length=0)=true by simp [h0]] at sJ
    obtain ⟨a',c',w2,bq,ja,hg,aw,-⟩:=jE.out.push w0.heap.size _ _ (b,0) w1 (by rw [ae,az,← Xz.out,← lW.out];omega) (zO.out.size)
    rw [show (pre++ss.map gD.lk).length=L by rw [ae,az,← Xz.out,← lW.out]] at bq ja
    have q0:=ai w1 (.cells #[.pointer (some ⟨b,0,none⟩),.int .i64 0] 159);have ch:Hid (nP S Pk A pre x w0.heap.size (.returned (.tuple #[.slice a' (L+1) c',.nilIface])) w2∧Dv base A db F d w2∧Mv db F w0 w2∧Kept db (.slice va m0 vc) w w2):=by
     have nV:Below w0.heap.size w1 w2:=((ai w1 _).mono zO.out.size).grown hg (by simp;exact Nat.le_succ_of_le zO.out.size) (fun k hk=>(jE.out.1.dF k hk).1)
     obtain ⟨EC,Ll⟩:=tT.out.grown nV zO.out Ri.out;exact ⟨.inr ⟨ss,⟨b,n,0,y⟩,a',c',by rw [← Xz.out,← lW.out],by rw [← Xz.out,← lW.out];exact ja,(Yj.out.cH aw),⟨⟨pv,lv,cv,HS.out.cH aw⟩,S.na aw HN.out⟩,h0,rfl,by rw [← Xz.out,← lW.out];exact ad3⟩,EC,Ll,Uy.out.grow zM.out hg⟩
    clear ja hg aw q0 h0 HS HN Yj jE;go_wp2_with fail;refine sJ.out.mono ?_
    rintro e w1' ⟨rfl,rfl⟩;have AN:(Builtin.append_ #[101,101] 101 #[.slice a L c,.slice (some ⟨w1.heap.size,0,none⟩) 1 1]).run prog (w1.alloc (.cells #[.pointer (some ⟨b,0,none⟩),.int .i64 0] 159)) = .ok (.slice a' (L+1) c') w2:=bq;clear bq;go_wp2_with (first | (at_builtin;refine wpList_append_run 101 rfl (.tmp 27) (.tmp 30) rfl rfl _ _ rfl rfl _ _ AN ?_))
    go_ret2;exact ch.out
   ·rw [show decide (n.us.length=0)=false by simp [h0]] at sJ
    have VB:=ab (HP.out w1 b n pv lv cv y Bb.out HS.out HN.out h0);have p1:=HS.out.c1;have p2:=HS.out.c2;obtain ⟨la,lc,pN⟩:=HS.out.bh.form;subst pN;have H0:=ab h0;clear h0;go_wp2_with fail;refine sJ.out.mono ?_
    rintro e w1' ⟨rfl,rfl⟩;go_wp2_with fail;refine VB.out.mono ?_
    rintro e w2 ⟨q,rfl,Co,Ws,aS⟩;have HPQ:=ab Co;have JG:=cW.of aS;obtain ⟨a',c',w3,bq,lF,hg,aw,Es⟩:=(jE.out.below aS).push w0.heap.size _ _ (b,(q:Int)) w2 (by rw [ae,az,← Xz.out,← lW.out];omega) (ar zO.out.size aS.size)
    rw [show (pre++ss.map gD.lk).length=L by rw [ae,az,← Xz.out,← lW.out]] at bq lF Es
    have q0:=ai w2 (.cells #[.pointer (some ⟨b,0,none⟩),.int .i64 (q:Int)] 159);have PC:=(HS.out.cH JG).cH aw;have hn3:=S.na aw (S.na JG HN.out);obtain ⟨pc,RH⟩ : ∃ pc,n.us[q]?=some pc:=⟨_,af Ws⟩;obtain ⟨z,oD,hkz⟩:=S.qT hn3 RH;have hdm:Dv base A db F d w3∧Mv db F w0 w3:=by
     have nV:Below w0.heap.size w1 w3:=(((aS.mono zO.out.size).alloc (ar zO.out.size aS.size) _).grown hg (by simp;exact Nat.le_succ_of_le (ar zO.out.size aS.size)) (fun k hk=>(jE.out.1.dF k hk).1))
     obtain ⟨EC,Ll⟩:=tT.out.grown nV zO.out Ri.out;exact ⟨EC,Ll⟩
    have Ut:Hid (∃ (ss:List (gD X)) (y:X) (p':C.Ch) (a:Option Addr) (c:Nat),(.slice a' (L+1) c':Value) = .slice a (m0+ss.length) c∧pc.val=p'.val∧tQ w3 w0.heap.size (.slice a (m0+ss.length) c) (pre++ss.map gD.lk)∧Way S Pk w3 x ss y∧S.K w3 p' y∧m0+ss.length≤64∧Dv base A db F d w3∧Mv db F w0 w3∧B.au w3 tb #[.pointer (some ⟨db,0,none⟩),rv] 100∧Q w3∧Kept db (.slice va m0 vc) w w3∧∀ g,(Value.slice a (m0+ss.length) c).ownBlock=some g→(Value.slice va m0 vc).ownBlock=some g∨w.heap.size≤g):=by
     have e1:m0+(ss++[(⟨b,n,q,y⟩ : gD X)]).length=L+1:=by rw [ae,lW.out];rfl
     refine ⟨ss++[⟨b,n,q,y⟩],z,pc,a',c',by rw [e1],rfl,?_,((Yj.out.cH JG).cH aw).snoc rfl ⟨⟨_,_,_,PC⟩,hn3⟩ H0.out HPQ.out Ws oD,hkz,by rw [e1];omega,hdm.1,hdm.2,ed aw (ed JG Ba.out),HAW.out _ _ aw (HAW.out _ _ JG Bb.out),(Uy.out.below aS).grow zM.out hg,fun gg hgg=>by
      rw [e1] at hgg;rcases Es gg hgg with h | h
      ·exact zM.out gg h
      ·exact .inr (ar Uy.out.1 (ar aS.size h))⟩
     rw [e1,bz,← ay];exact lF
    have p3:=PC.c3;obtain ⟨ca,cc,sC,-,-,bm⟩:=PC.kids;rw [C.aT,Nat.mul_one] at sC;subst sC;obtain ⟨g,o,rfl,cq⟩:=bm q pc.val (by unfold C.bh;rw [aL,RH];rfl)
    obtain ⟨zt,zx,hzv⟩:=bP pc;rw [hzv] at cq Ut;have AN:(Builtin.append_ #[101,101] 101 #[.slice a L c,.slice (some ⟨w2.heap.size,0,none⟩) 1 1]).run prog (w2.alloc (.cells #[.pointer (some ⟨b,0,none⟩),.int .i64 (q:Int)] 159)) = .ok (.slice a' (L+1) c') w3:=bq;have PF:(q:Int)<(n.us.length:Int):=by omega
    have RF:(0:Int)≤(q:Int):=by omega
    clear Es bq lF hg aw q0 PC hn3 RH oD hkz hdm bm hzv aS JG Co Ws VB sJ Yj jE HS HN p1 p2;go_wp2_with (first | (at_builtin;refine wpList_append_run 101 rfl (.tmp 38) (.tmp 42) rfl rfl _ _ rfl rfl _ _ AN ?_))
    go_roundw
    case rel=>exact Ut.out
    case measure=>simp [UN];omega
end T
end Go.Proofs.YtihmgigfkmofnaaGreatDoor
