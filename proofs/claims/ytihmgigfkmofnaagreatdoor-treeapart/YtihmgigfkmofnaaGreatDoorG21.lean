import Derived.Test.YtihmgigfkmofnaaGreatDoorG20
set_option maxHeartbeats 4000000
set_option maxRecDepth 100000
open Go.Proofs.Tryz
namespace Go.Proofs.YtihmgigfkmofnaaGreatDoor
namespace T
open Go.RowKit
def QF(w:World)(k:Nat):Prop :=
 (∀ j v,w.cell? ⟨k,j,none⟩=some v→(∀ s,v≠.string s)∧∀ t x,v≠.iface t x)∧(∀ cs fr,w.heap[k]?≠some (.cells cs 155 fr))∧∀ cs fr,w.heap[k]?≠some (.cells cs 100 fr)
structure cP(w w':World):Prop where
 size:w.heap.size≤w'.heap.size
 block:∀ k,k<w.heap.size→w'.heap[k]?=w.heap[k]?∨QF w k
theorem cP.of{w w':World}(h:Below w.heap.size w w'):cP w w':=⟨h.size,fun k hk=>.inl (h.block k hk)⟩
theorem Mv.cC{base:Nat}{A:Nat→Addr}{db:Nat}{F:Nat→Prop}{d:S.V.bq}{w w':World}(h:Mv db F w w')(hv:Dv base A db F d w):cP w w':=⟨h.size,fun k hk=>by
 by_cases e:k=db
 ·subst e;obtain ⟨d',_,hd⟩:=hv.dev;refine .inr ⟨fun j v hc=>jF hd hc,?_,?_⟩
  ·intro cs fr h1;obtain ⟨mb,nb,FX,av,Dn,hb⟩:=hd;rw [hb.dr] at h1;simp at h1
  ·intro cs fr h1;obtain ⟨mb,nb,FX,av,Dn,hb⟩:=hd;rw [hb.dr] at h1;simp at h1
 ·exact .inl (h.one.block k hk e)⟩
theorem cP.str{w w':World}(h:cP w w'){g o:Nat}{s:ByteArray}(hc:w.cell? ⟨g,o,none⟩=some (.string s)):w'.heap[g]?=w.heap[g]? :=
 (h.block g (World.block_lt_of_cell? w _ hc)).elim id fun e=>absurd rfl ((e.1 o _ hc).1 s)
theorem cP.ifc{w w':World}(h:cP w w'){g o:Nat}{t:TypeId}{x:Value}(hc:w.cell? ⟨g,o,none⟩=some (.iface t x)):w'.heap[g]?=w.heap[g]? :=
 (h.block g (World.block_lt_of_cell? w _ hc)).elim id fun e=>absurd rfl ((e.1 o _ hc).2 t x)
theorem bB{w w':World}{g o:Nat}{v:Value}(h:w'.heap[g]?=w.heap[g]?)(hc:w.cell? ⟨g,o,none⟩=some v):w'.cell? ⟨g,o,none⟩=some v :=
 (World.cell?_of_block (a:=⟨g,o,none⟩) h).trans hc
theorem NV{w w':World}(h:cP w w'){v:Value}{l:List Pr}(hr:gG w v l):gG w' v l:=by
 obtain ⟨a,cap,rfl,hle,hn,hc⟩:=hr;refine ⟨a,cap,rfl,hle,hn,fun j hj=>?_⟩
 obtain ⟨g,o,ha,h1,h2⟩:=hc j hj;have hg:=h.str h1;exact ⟨g,o,ha,bB hg h1,bB hg h2⟩
theorem Oz{w w':World}(h:cP w w'){v:Value}{l:List B.Lk}(hr:B.di w v l):B.di w' v l:=by
 obtain ⟨a,cap,rfl,hle,hn,hc⟩:=hr;refine ⟨a,cap,rfl,hle,hn,fun j hj=>?_⟩
 obtain ⟨g,o,ha,h1,h2⟩:=hc j hj;have hg:=h.str h1;exact ⟨g,o,ha,bB hg h1,bB hg h2⟩
theorem Qe{w w':World}(h:cP w w'){v:Value}{l:List C.Ch}(hr:C.di w v l):C.di w' v l:=by
 obtain ⟨a,cap,rfl,hle,hn,hc⟩:=hr;refine ⟨a,cap,rfl,hle,hn,fun j u hj=>?_⟩
 obtain ⟨g,o,ha,h1⟩:=hc j u hj;obtain ⟨p,_,rfl⟩ : ∃ p ∈ l,p.val=u:=by
  have:=cG hj;simpa [C.a8] using this
 obtain ⟨t,x,hp⟩:=bM p;have hg:=h.ifc (hp▸h1);exact ⟨g,o,ha,bB hg h1⟩
theorem dH.cC{w w':World}(h:cP w w'){b:Nat}{n:SN}{pv lv cv:Value}(hs:dH w b n pv lv cv):dH w' b n pv lv cv:=by
 refine ⟨?_,NV h hs.iy,Oz h hs.a8,Qe h hs.kids,hs.fine⟩;rcases h.block b hs.row.lt with e | e
 ·exact e.trans hs.row
 ·exact absurd hs.row (e.2.1 _ _)
theorem dU{w w':World}(h:cP w w'){b:Nat}{cs:Array Value}(hs:B.au w b cs 100):B.au w' b cs 100:=by
 rcases h.block b hs.lt with e | e
 ·exact e.trans hs
 ·exact absurd hs (e.2.2 _ _)
theorem Dv.Ha{base:Nat}{A:Nat→Addr}{db:Nat}{F:Nat→Prop}{d:S.V.bq}{w:World}(h:Dv base A db F d w):db<w.heap.size:=by
 obtain ⟨d',_,mb,nb,FX,av,Dn,hb⟩:=h.dev;exact (Array.getElem?_eq_some_iff.1 hb.dr).1
theorem Dv.grown{base:Nat}{A:Nat→Addr}{db:Nat}{F:Nat→Prop}{d:S.V.bq}{w0 w1 w2:World}(fI:Dv base A db F d w1)(nN:Below w0.heap.size w1 w2)(hm:Mv db F w0 w1)(iF:Dv base A db F d w0):Dv base A db F d w2∧Mv db F w0 w2:=by
 obtain ⟨d1,n1,Bz⟩:=fI.dev;obtain ⟨d0,n0,GX⟩:=iF.dev;have hF0:∀ k,F k→k<w0.heap.size:=GX.lt;have hs:S.V.Step (fun k=>w0.heap.size≤k) (fun k=>w0.heap.size≤k) w1 w2:=⟨nN.os,nN.tape,nN.output,nN.size,fun k hk hn=>nN.block k (by omega),fun _ h=>.inl h⟩
 have Ld:S.V.cJ w2 db F d1:=Bz.keep hs (fun k hk e=>by have:=hF0 k hk;omega)
 have lq:Mv db F w0 w2:=⟨⟨nN.os.trans hm.step.os,nN.tape.trans hm.step.tape,nN.output.trans hm.step.output,ar hm.size nN.size,fun k hk hn=>(nN.block k hk).trans (hm.step.block k hk hn),fun _ h=>.inl h⟩,⟨nN.os.trans hm.step.os,nN.tape.trans hm.step.tape,nN.output.trans hm.step.output,ar hm.size nN.size,fun k hk hn=>(nN.block k hk).trans (hm.one.block k hk hn),fun _ h=>.inl h⟩⟩
 exact ⟨⟨⟨d1,n1,Ld⟩,fI.env.keep (nN.mono iF.env.errs.size),Ep lq.one GX Ld iF.errs,fI.up,fI.alive,fI.lo⟩,lq⟩
def Plain(u:Value):Prop:=(∃ p,u = .pointer p)∨∃ k x,u = .int k x
theorem Plain.no{u:Value}(h:Plain u):(∀ s,u≠.string s)∧∀ t x,u≠.iface t x:=by
 rcases h with ⟨p,rfl⟩ | ⟨k,x,rfl⟩
 ·exact ⟨(fun s e=>by cases e),(fun t x e=>by cases e)⟩
 ·exact ⟨(fun s e=>by cases e),(fun t x e=>by cases e)⟩
theorem oW(l:List W.Lk):∀ u ∈ W.a8 l,Plain u:=by
 intro u hu;simp only [W.a8,lQ] at hu;obtain ⟨p,_,h⟩:=hu;simp at h
 rcases h with rfl | rfl
 ·exact .inl ⟨_,rfl⟩
 ·exact .inr ⟨_,_,rfl⟩
def tv(w:World)(base:Nat)(v:Value)(l:List W.Lk):Prop :=
 W.b6 w base v l∧∀ g,v.ownBlock=some g→∃ cur,w.heap[g]?=some (.cells cur 159 (0,0))∧∀ u ∈ cur.toList,Plain u
theorem tv.nil(w:World)(base:Nat):tv w base (.slice none 0 0) []:=⟨W.b6.nil w base,fun g h=>by simp [Value.ownBlock] at h⟩
theorem tv.odd{w:World}{base:Nat}{v:Value}{l:List W.Lk}(h:tv w base v l){g:Nat}(hg:v.ownBlock=some g):QF w g:=by
 obtain ⟨cur,h1,h2⟩:=h.2 g hg;refine ⟨fun j u hc=>?_,fun cs fr e=>?_,fun cs fr e=>?_⟩
 ·rw [cell_of_row w g j cur _ _ h1] at hc;exact (h2 u (by have:=Array.getElem?_eq_some_iff.1 hc;obtain ⟨h3,h4⟩:=this;rw [← h4];exact gE h3)).no
 ·rw [h1] at e;simp at e
 ·rw [h1] at e;simp at e
theorem tv.below{w w':World}{base:Nat}{v:Value}{l:List W.Lk}(h:tv w base v l)(hb:Below w.heap.size w w'):tv w' base v l:=by
 refine ⟨h.1.below hb,fun g hg=>?_⟩
 obtain ⟨cur,h1,h2⟩:=h.2 g hg;exact ⟨cur,(hb.block g (Array.getElem?_eq_some_iff.1 h1).1).trans h1,h2⟩
theorem tv.mv{db:Nat}{F:Nat→Prop}{w w':World}{base:Nat}{v:Value}{l:List W.Lk}(h:tv w base v l)(hm:Mv db F w w')(hdb:db<base):tv w' base v l:=by
 refine ⟨⟨h.1.1,?_⟩,fun g hg=>?_⟩
 ·rcases h.1.2 with h' | ⟨g,cap,cur,h',h1,h2,hr⟩
  ·exact .inl h'
  ·exact .inr ⟨g,cap,cur,h',h1,(hm.one.block g (Array.getElem?_eq_some_iff.1 h2).1 (by omega)).trans h2,hr⟩
 ·obtain ⟨cur,h1,h2⟩:=h.2 g hg;have:=(h.1.dr g hg).1;exact ⟨cur,(hm.one.block g (Array.getElem?_eq_some_iff.1 h1).1 (by omega)).trans h1,h2⟩
theorem pX(n:Nat):∀ u ∈ (Builtin.zeroCells (Value.agg #[.pointer none,.int .i64 0]).cells n).toList,Plain u:=by
 intro u hu;simp only [Builtin.zeroCells,Value.cells] at hu;simp at hu
 obtain ⟨i,_,rfl⟩:=hu;rcases bU i with h | h
 ·rw [h];exact .inl ⟨none,rfl⟩
 ·rw [h];exact .inr ⟨.i64,0,rfl⟩
theorem tv.push(base:Nat)(v:Value)(l:List W.Lk)(p:W.Lk)(w:World)(h:tv w base v l)(hn:l.length≤100000)(du:base≤w.heap.size):∃ a' c' w',(Builtin.append_ #[101,101] 101 #[v,.slice (some ⟨w.heap.size,0,none⟩) 1 1]).run prog (w.alloc (.cells #[.pointer (some ⟨p.1,0,none⟩),.int .i64 p.2] 159)) = .ok (.slice a' (l.length+1) c') w'∧tv w' base (.slice a' (l.length+1) c') (l++[p])∧(w.alloc (.cells #[.pointer (some ⟨p.1,0,none⟩),.int .i64 p.2] 159)).grownBy w' v.ownBlock∧cP w w'∧(∀ g,(Value.slice a' (l.length+1) c').ownBlock=some g→v.ownBlock=some g∨w.heap.size≤g):=by
 obtain ⟨i0,hi,hz,b7,kF⟩:=info_parts W.lB;have ho:W.b6 (w.alloc (.cells #[.pointer (some ⟨p.1,0,none⟩),.int .i64 p.2] 159)) base v l:=World.ownsRow.alloc h.1 _;obtain ⟨a',c',w',hr,aE,hg⟩:=W.fi base v _ l [p] _ ho (W.vp w p 159) (by simp;omega) (by simp;omega)
 have aw:cP w w':=⟨by have:=hg.size;simp at this;omega,fun k hk=>by
  by_cases e:some k=v.ownBlock
  ·exact .inr (h.odd e.symm)
  ·left
   rw [hg.block k (by simp;omega) e]
   exact heap_alloc_old w _ hk⟩
 have mU:=bL w #[.pointer (some ⟨p.1,0,none⟩),.int .i64 p.2] 159;have ia:∀ j u,([.pointer (some ⟨p.1,0,none⟩),.int .i64 p.2] : List Value)[j]?=some u→(w.alloc (.cells #[.pointer (some ⟨p.1,0,none⟩),.int .i64 p.2] 159)).cell? ((⟨w.heap.size,0,none⟩ : Addr).add j)=some u:=fun j u hj=>by
  rw [bz,Nat.zero_add];match j,hj with
  | 0,hj=>cases hj;exact mU.2 0 (by simp)
  | 1,hj=>cases hj;exact mU.2 1 (by simp)
 have Rf:∀ u ∈ ([.pointer (some ⟨p.1,0,none⟩),.int .i64 p.2] : List Value),Plain u:=oW [p];suffices hh:(∀ g,(Value.slice a' (l.length+1) c').ownBlock=some g→v.ownBlock=some g∨w.heap.size≤g)∧∀ g,(Value.slice a' (l.length+1) c').ownBlock=some g→∃ cur,w'.heap[g]?=some (.cells cur 159 (0,0))∧∀ u ∈ cur.toList,Plain u from ⟨a',c',w',hr,⟨aE,hh.2⟩,hg,aw,hh.1⟩
 rcases h.1.2 with ⟨rfl,h0⟩ | ⟨g0,cap,cur,rfl,lM,pR,B4,sf,fH,mH⟩
 ·have hq:=run_append_nil (P:=prog) (w.alloc (.cells #[.pointer (some ⟨p.1,0,none⟩),.int .i64 p.2] 159)) 101 101 159 i0 _ underlying101 hi hz ⟨w.heap.size,0,none⟩ 1 1 _ (by rw [b7];rfl) ia (by omega) (by omega) (by rw [kF];omega)
  rw [hq] at hr;simp only [Result.ok.injEq,Value.slice.injEq] at hr;obtain ⟨⟨rfl,-,-⟩,rfl⟩:=hr;refine ⟨fun g ib=>?_,fun g ib=>?_⟩
  ·simp only [Value.ownBlock,Option.some.injEq] at ib;right;subst ib;simp
  simp only [Value.ownBlock,Option.some.injEq] at ib;subst ib;refine ⟨_,heap_alloc_new (World.drew _) _,fun u hu=>?_⟩
  simp only [bW,cu] at hu;rcases hu with hu | hu
  ·exact Rf u (by simpa using hu)
  ·exact pX _ u hu
 ·have fG:(w.alloc (.cells #[.pointer (some ⟨p.1,0,none⟩),.int .i64 p.2] 159)).heap[g0]?=some (.cells cur 159 (0,0)):=(heap_alloc_old w _ (Array.getElem?_eq_some_iff.1 pR).1).trans pR;have yz:∀ u ∈ cur.toList,Plain u:=by
   obtain ⟨fL,h1,h2⟩:=h.2 g0 rfl;rw [pR] at h1;simp only [Option.some.injEq,Obj.cells.injEq,and_true] at h1;subst h1;exact h2
  by_cases dW:l.length+1≤cap
  ·have hq:=run_append_room (P:=prog) (w.alloc (.cells #[.pointer (some ⟨p.1,0,none⟩),.int .i64 p.2] 159)) 101 101 159 i0 underlying101 hi g0 l.length cap cur fG ⟨w.heap.size,0,none⟩ 1 1 _ (by rw [b7];rfl) ia (by intro u hu;rcases Rf u hu with ⟨q,rfl⟩ | ⟨q,x,rfl⟩ <;> rfl) dW (by rw [b7,fH];simp;omega)
   rw [hq] at hr;simp only [Result.ok.injEq,Value.slice.injEq] at hr;obtain ⟨⟨rfl,-,-⟩,rfl⟩:=hr;refine ⟨fun g ib=>?_,fun g ib=>?_⟩
   ·simp only [Value.ownBlock,Option.some.injEq] at ib;left;subst ib;rfl
   simp only [Value.ownBlock,Option.some.injEq] at ib;subst ib;refine ⟨_,setRow_heap _ g0 cur _ _ _ fG,fun u hu=>?_⟩
   simp only [cu] at hu;rcases hu with (hu | hu) | hu
   ·exact yz u (bF hu)
   ·exact Rf u hu
   ·exact yz u (bG hu)
  ·have o8:(W.a8 l).length=l.length*i0.size:=by rw [b7];exact W.aS l
   have holds:∀ j u,(W.a8 l)[j]?=some u→(w.alloc (.cells #[.pointer (some ⟨p.1,0,none⟩),.int .i64 p.2] 159)).cell? ((⟨g0,0,none⟩ : Addr).add j)=some u:=World.ownsRow.cells ho (g:=g0) rfl;have hq:=run_append_grow (P:=prog) (w.alloc (.cells #[.pointer (some ⟨p.1,0,none⟩),.int .i64 p.2] 159)) 101 101 159 i0 _ underlying101 hi hz ⟨g0,0,none⟩ l.length cap (W.a8 l) o8 holds ⟨w.heap.size,0,none⟩ 1 1 _ (by rw [b7];rfl) ia (by omega) (by omega) (growslice_fits (by omega) (by rw [kF];omega))
   rw [hq] at hr;simp only [Result.ok.injEq,Value.slice.injEq] at hr;obtain ⟨⟨rfl,-,-⟩,rfl⟩:=hr;refine ⟨fun g ib=>?_,fun g ib=>?_⟩
   ·simp only [Value.ownBlock,Option.some.injEq] at ib;right;subst ib;simp
   simp only [Value.ownBlock,Option.some.injEq] at ib;subst ib;refine ⟨_,heap_alloc_new (World.drew _) _,fun u hu=>?_⟩
   simp only [bW,cu] at hu;rcases hu with (hu | hu) | hu
   ·exact oW l u (by simpa using hu)
   ·exact Rf u (by simpa using hu)
   ·exact pX _ u hu
def Fit(n:SN):Prop:=n.yP∧n.sz≤4072∧(n.us.length=0∨1≤n.lk.length)
structure Sys(d:S.V.bq)(X:Type) where
 K:World→C.Ch→X→Prop
 N:World→SN→X→Prop
 E:Prop
 sub:X→Nat→X→Prop
 rk:X→Nat
 ka:∀ {w w':World} {p:C.Ch} {x:X},cP w w'→K w p x→K w' p x
 na:∀ {w w':World} {n:SN} {x:X},cP w w'→N w n x→N w' n x
 qL:∀ {w:World} {n:SN} {x:X} {i:Nat} {p:C.Ch},N w n x→n.us[i]?=some p→∃ y,sub x i y∧K w p y
 fit:∀ {w:World} {n:SN} {x:X},N w n x→Fit n
 gW:∀ {w:World} {id:Int} {x:X},K w (.pg id) x→(cM d id=none∧E)∨∃ p,cM d id=some p∧∀ w',N w' p.sn x
 node:∀ {w:World} {b:Nat} {x:X},K w (.nd b) x→∃ n pv lv cv,dH w b n pv lv cv∧N w n x
 Yf:E∨∀ x i y,sub x i y→rk y+1≤rk x
def qG(A:Nat→Addr):Ending:=.returned (.tuple #[.pointer none,.iface 360 (.pointer (some (A 8)))])
def lI{d:S.V.bq}{X:Type}(S:Sys d X)(A:Nat→Addr)(x:X)(e:Ending)(w':World):Prop :=
 (S.E∧e=qG A)∨∃ b n pv lv cv,e = .returned (.tuple #[.pointer (some ⟨b,0,none⟩),.nilIface])∧dH w' b n pv lv cv∧S.N w' n x
theorem oR{base:Nat}{A:Nat→Addr}{db:Nat}{F:Nat→Prop}{d:S.V.bq}{X:Type}(S:Sys d X)(p:C.Ch)(x:X)(tb:Nat)(rv:Value)(w:World)(hk:S.K w p x)(ht:B.au w tb #[.pointer (some ⟨db,0,none⟩),rv] 100)(hv:Dv base A db F d w):Calls prog 104 #[.pointer (some ⟨tb,0,none⟩),p.val] w fun e w'=>lI S A x e w'∧Dv base A db F d w'∧Mv db F w w':=by
 cases p with
 | pg id =>
  have HL:=ab (Kw base A db F d id w hv);have HK:=ab (S.gW hk);have c0:=ht.c0;have a1:=fun W=>Qx (.int .i64 id) W
  clear hk ht hv;show Calls prog 104 #[.pointer (some ⟨tb,0,none⟩),.iface 146 (.int .i64 id)] w fun e w'=>lI S A x e w'∧Dv base A db F d w'∧Mv db F w w'
  go_enter func104,ntmps104;go_wp2_with fail;refine HL.out.mono ?_
  rintro e w1 ⟨hr,h1,h2⟩;have DW:lI S A x e w1:=by
   rcases hr with ⟨g1,g2⟩ | ⟨q,b,pv,lv,cv,g1,g2,g3⟩
   ·rcases HK.out with ⟨_,k2⟩ | ⟨q,k1,_⟩
    ·exact .inl ⟨k2,g2⟩
    ·rw [g1] at k1;cases k1
   ·rcases HK.out with ⟨k1,_⟩ | ⟨q',k1,k2⟩
    ·rw [g1] at k1;cases k1
    ·rw [g1] at k1;cases k1;exact .inr ⟨b,q.sn,pv,lv,cv,g2,g3,k2 w1⟩
  obtain ⟨pp,vv,he,-,Ak⟩:=hr.form;subst he;have HR:Hid (lI S A x (.returned (.tuple #[.pointer pp,vv])) w1∧Dv base A db F d w1∧Mv db F w w1):=⟨DW,h1,h2⟩;clear hr DW h1 h2 HL c0 HK;rcases Ak with rfl | rfl
  ·go_wp2;go_ret2;exact HR.out
  ·go_wp2;go_ret2;exact HR.out
 | nd b =>
  obtain ⟨n,pv,lv,cv,hs,hn⟩:=S.node hk;have HR:Hid (lI S A x (.returned (.tuple #[.pointer (some ⟨b,0,none⟩),.nilIface])) w∧Dv base A db F d w∧Mv db F w w):=⟨.inr ⟨b,n,pv,lv,cv,rfl,hs,hn⟩,hv,Mv.refl _ _ _⟩;clear hs hn ht hv hk;have a1:=fun W=>Jp (.pointer (some ⟨b,0,none⟩)) W
  have a2:=fun W=>Qy (.pointer (some ⟨b,0,none⟩)) W
  show Calls prog 104 #[.pointer (some ⟨tb,0,none⟩),.iface 152 (.pointer (some ⟨b,0,none⟩))] w fun e w'=>lI S A x e w'∧Dv base A db F d w'∧Mv db F w w'
  go_enter func104,ntmps104;go_wp2;go_ret2;exact HR.out
theorem lI.form{d:S.V.bq}{X:Type}{S:Sys d X}{A:Nat→Addr}{x:X}{e:Ending}{w':World}(h:lI S A x e w'):∃ p v,e = .returned (.tuple #[.pointer p,v])∧(v = .nilIface∨v = .iface 360 (.pointer (some (A 8)))):=by
 rcases h with ⟨_,rfl⟩ | ⟨b,n,pv,lv,cv,rfl,_⟩
 ·exact ⟨_,_,rfl,.inr rfl⟩
 ·exact ⟨_,_,rfl,.inl rfl⟩
theorem qe{base:Nat}{A:Nat→Addr}{db:Nat}{F:Nat→Prop}{d:S.V.bq}{X:Type}(S:Sys d X)(p:C.Ch)(x:X)(tb:Nat)(rv:Value)(dp:Nat)(w:World)(hk:S.K w p x)(ht:B.au w tb #[.pointer (some ⟨db,0,none⟩),rv] 100)(hv:Dv base A db F d w)(nF:S.E∨dp≤64):Calls prog 92 #[.pointer (some ⟨tb,0,none⟩),p.val,.int .i64 (dp:Int)] w fun e w'=>(lI S A x e w'∧(64<dp→e=qG A))∧Dv base A db F d w'∧Mv db F w w':=by
 obtain ⟨pt,px,iS⟩:=bM p;by_cases Pu:64<dp
 ·have hE:S.E:=nF.resolve_right (by omega)
  have hle:(64:Int)<(dp:Int):=by omega
  have g8:w.cell? ⟨8,0,none⟩=some (.iface 360 (.pointer (some (A 8)))):=hv.g 8 (by decide)
  have HR:Hid ((lI S A x (qG A) w∧(64<dp→qG A=qG A))∧Dv base A db F d w∧Mv db F w w):=⟨⟨.inl ⟨hE,rfl⟩,fun _=>rfl⟩,hv,Mv.refl _ _ _⟩
  have HEE:=ab hE;rw [iS];clear hk ht hv hE nF iS;go_enter func92,ntmps92;go_wp2_with fail;go_quiet (fail)
  go_wp2;go_ret2;exact ⟨⟨.inl ⟨(HEE.out),rfl⟩,fun _=>rfl⟩,HR.out.2.1.below (aA (Below.refl _ _) _),HR.out.2.2.trans (Mv.of (aA (Below.refl _ _) _))⟩
 ·have HL:=ab (oR S p x tb rv w hk ht hv);rw [iS] at HL ⊢;have hle:¬ (64:Int)<(dp:Int):=by omega
  clear hk ht hv iS nF;go_enter func92,ntmps92;go_wp2_with fail;refine HL.out.mono ?_
  rintro e w1 ⟨hr,h1,h2⟩;obtain ⟨pp,vv,he,Ak⟩:=hr.form;subst he;have HR:Hid ((lI S A x (.returned (.tuple #[.pointer pp,vv])) w1∧(64<dp→.returned (.tuple #[.pointer pp,vv])=qG A))∧Dv base A db F d w1∧Mv db F w w1):=⟨⟨hr,fun h=>absurd h Pu⟩,h1,h2⟩
  clear hr h1 h2 HL;rcases Ak with rfl | rfl
  ·go_wp2;go_ret2;exact HR.out
  ·go_wp2;go_ret2;exact HR.out
structure gz(X:Type) where
 b:Nat
 n:SN
 at':Nat
 x:X
def gz.lk{X:Type}(s:gz X):W.Lk:=(s.b,(s.at':Int))
def Rt{d:S.V.bq}{X:Type}(S:Sys d X)(w:World)(s:gz X):Prop:=(∃ pv lv cv,dH w s.b s.n pv lv cv)∧S.N w s.n s.x
theorem Rt.cC{d:S.V.bq}{X:Type}{S:Sys d X}{w w':World}{s:gz X}(h:Rt S w s)(ha:cP w w'):Rt S w' s:=by
 obtain ⟨⟨pv,lv,cv,h1⟩,h2⟩:=h;exact ⟨⟨pv,lv,cv,h1.cC ha⟩,S.na ha h2⟩
def Way{d:S.V.bq}{X:Type}(S:Sys d X)(Pk:SN→Nat→Prop)(w:World):X→List (gz X)→X→Prop
 | x,[],y=>x=y
 | x,s::t,y=>s.x=x∧Rt S w s∧¬ s.n.us.length=0∧Pk s.n s.at'∧s.at'<s.n.us.length∧∃ z,S.sub x s.at' z∧Way S Pk w z t y
theorem Way.cC{d:S.V.bq}{X:Type}{S:Sys d X}{Pk:SN→Nat→Prop}{w w':World}(ha:cP w w'):∀ {t:List (gz X)} {x y:X},Way S Pk w x t y→Way S Pk w' x t y
 | [],_,_,h=>h
 | _::_,_,_,⟨h1,h2,h3,h4,h5,z,h6,h7⟩=>⟨h1,h2.cC ha,h3,h4,h5,z,h6,Way.cC ha h7⟩
theorem Way.snoc{d:S.V.bq}{X:Type}{S:Sys d X}{Pk:SN→Nat→Prop}{w:World}:∀ {t:List (gz X)} {x y z:X} {s:gz X},Way S Pk w x t y→s.x=y→Rt S w s→¬ s.n.us.length=0→Pk s.n s.at'→s.at'<s.n.us.length→S.sub y s.at' z→Way S Pk w x (t++[s]) z
 | [],_,_,z,_,h,g1,g2,g3,g4,g5,g6=>by
  have h:_=_:=h;subst h;exact ⟨g1,g2,g3,g4,g5,z,g6,rfl⟩
 | _::_,_,_,_,_,⟨h1,h2,h3,h4,h5,z,h6,h7⟩,g1,g2,g3,g4,g5,g6=>⟨h1,h2,h3,h4,h5,z,h6,Way.snoc h7 g1 g2 g3 g4 g5 g6⟩
theorem Way.Yg{d:S.V.bq}{X:Type}{S:Sys d X}{Pk:SN→Nat→Prop}{w:World}:∀ {t:List (gz X)} {x y:X},Way S Pk w x t y→S.E∨S.rk y+t.length≤S.rk x
 | [],_,_,h=>by
  have h:_=_:=h;subst h;exact .inr (aj _)
 | s::t,x,_,⟨_,_,_,_,_,z,h6,h7⟩=>by
  rcases S.Yf with h | h
  ·exact .inl h
  ·rcases Way.Yg h7 with g | g
   ·exact .inl g
   ·have:=h x s.at' z h6;right;rw [List.length_cons];omega
def Kept(db:Nat)(v:Value)(w w':World):Prop:=w.heap.size≤w'.heap.size∧∀ k,k<w.heap.size→k≠db→v.ownBlock≠some k→w'.heap[k]?=w.heap[k]?
theorem Kept.mv{db:Nat}{F:Nat→Prop}{v:Value}{w w1 w2:World}(h:Kept db v w w1)(hm:Mv db F w1 w2):Kept db v w w2:=⟨ar h.1 hm.size,fun k hk hd hv=>(hm.one.block k (aq hk h.1) hd).trans (h.2 k hk hd hv)⟩
theorem Kept.below{db:Nat}{v:Value}{w w1 w2:World}(h:Kept db v w w1)(hb:Below w1.heap.size w1 w2):Kept db v w w2:=⟨ar h.1 hb.size,fun k hk hd hv=>(hb.block k (aq hk h.1)).trans (h.2 k hk hd hv)⟩
theorem Kept.grow{db:Nat}{v vv:Value}{w w1 w2:World}{o:Obj}(h:Kept db v w w1)(yX:∀ g,vv.ownBlock=some g→v.ownBlock=some g∨w.heap.size≤g)(hg:(w1.alloc o).grownBy w2 vv.ownBlock):Kept db v w w2:=by
 have hs:=hg.size;simp at hs
 refine ⟨ar h.1 (by omega),fun k hk hd hv=>?_⟩
 have jv:=aq hk h.1;rw [hg.block k (by simp;omega) (fun e=>by
  rcases yX k e.symm with e' | e'
  ·exact hv e'
  ·omega),heap_alloc_old w1 o jv]
 exact h.2 k hk hd hv
def Ud:Value→Nat
 | .slice _ n _=>n
 | _=>0
def nC{d:S.V.bq}{X:Type}(S:Sys d X)(Pk:SN→Nat→Prop)(A:Nat→Addr)(pre:List W.Lk)(x:X)(bs:Nat)(e:Ending)(w':World):Prop :=
 (S.E∧e = .returned (.tuple #[.slice none 0 0,.iface 360 (.pointer (some (A 8)))])) ∨
 ∃ (ss:List (gz X)) (s:gz X) (a:Option Addr) (c:Nat),e = .returned (.tuple #[.slice a (pre.length+ss.length+1) c,.nilIface])∧tv w' bs (.slice a (pre.length+ss.length+1) c) (pre++ss.map gz.lk++[s.lk])∧Way S Pk w' x ss s.x∧Rt S w' s∧s.n.us.length=0∧s.at'=0∧pre.length+ss.length≤63
theorem xN{base:Nat}{A:Nat→Addr}{db:Nat}{F:Nat→Prop}{d:S.V.bq}{X:Type}(S:Sys d X)(Pk:SN→Nat→Prop)(Q:World→Prop)(hQ:∀ W W',cP W W'→Q W→Q W')(pre:List W.Lk)(v:Value)(p:C.Ch)(x:X)(tb:Nat)(rv:Value)(fn:Nat)(cp:Array Value)(sg:∀ args w,Sem.run prog (callFunc fn args) w = .ok (.enter fn args) w)(w0 w:World)(hk:S.K w p x)(ht:B.au w tb #[.pointer (some ⟨db,0,none⟩),rv] 100)(hv:Dv base A db F d w)(hm:Mv db F w0 w)(iF:Dv base A db F d w0)(ho:tv w w0.heap.size v pre)(hq:Q w)(jg:pre.length≤64)(nF:S.E∨S.rk x+pre.length+1≤64)(DZ:∀ W b n pv lv cv y,Q W→dH W b n pv lv cv→S.N W n y→¬ n.us.length=0→Calls prog fn (#[.agg #[.int .i64 n.f,lv]]++cp) W fun e w'=>∃ q:Nat,e = .returned (.int .i64 (q:Int))∧Pk n q∧q<n.us.length∧Below W.heap.size W w'):Calls prog 89 #[.pointer (some ⟨tb,0,none⟩),v,p.val,.func (.func fn) #[] cp] w fun e w'=>nC S Pk A pre x w0.heap.size e w'∧Dv base A db F d w'∧Mv db F w0 w'∧Kept db v w w':=by
 obtain ⟨va,vc,kL⟩:=ho.1.form;subst kL;obtain ⟨pt,px,iS⟩:=bM p;obtain ⟨m0,Zn⟩ : ∃ m,m=pre.length:=⟨_,rfl⟩;have WQ:=ab Zn;rw [← Zn] at ho jg nF ⊢;have HK:=ab hk;have HT:=ab ht;have HV:=ab hv;have HM:=ab hm;have HO:=ab ho;have HQ:=ab hq;have HL:=ab nF;have HP:=ab DZ;have HAW:=ab hQ;have HPV:=ab iS;have HDB:=ab iF.Ha;have QJ:=ab iF;have WH:=ab jg;have K3:∀ (fn:Fn) (first cap:Array Value) (w:World),(Instr.makeFunc fn first cap).run prog w = .ok (.func fn first cap) w:=fun _ _ _ _=>rfl
 rw [iS];clear hk ht hv hm ho hq nF DZ hQ iS Zn iF jg;go_enter func89,ntmps89;go_wp2;go_loopw [1,2] (fun vv cc wr=>∃ (ss:List (gz X)) (y:X) (p':C.Ch) (a:Option Addr) (c:Nat),vv = .slice a (m0+ss.length) c∧cc=p'.val∧tv wr w0.heap.size (.slice a (m0+ss.length) c) (pre++ss.map gz.lk)∧Way S Pk wr x ss y∧S.K wr p' y∧m0+ss.length≤64∧Dv base A db F d wr∧Mv db F w0 wr∧B.au wr tb #[.pointer (some ⟨db,0,none⟩),rv] 100∧Q wr∧Kept db (.slice va m0 vc) w wr∧∀ g,(Value.slice a (m0+ss.length) c).ownBlock=some g→(Value.slice va m0 vc).ownBlock=some g∨w.heap.size≤g) (fun vv _ _=>65 - Ud vv)
 case atStart=>exact ⟨[],x,p,va,vc,rfl,HPV.out.symm,by simpa using HO.out,rfl,HK.out,WH.out,HV.out,HM.out,HT.out,HQ.out,⟨aj _,fun _ _ _ _=>rfl⟩,fun g hg=>.inl hg⟩
 case round =>
  obtain ⟨ss,y,p',a,c,rfl,rfl,ho,jf,hk,hlen,hv,hm,ht,hq,SZ,yX⟩:=hrel;obtain ⟨L,hL⟩ : ∃ L,L=m0+ss.length:=⟨_,rfl⟩;rw [← hL] at ho hlen yX ⊢;have vG:=ab (qe S p' y tb rv (L+1) wr hk ht hv (by
   rcases jf.Yg with h | h
   ·exact .inl h
   ·rcases HL.out with g | g
    ·exact .inl g
    ·right;omega))
  rw [show ((L+1:Nat):Int)=(L:Int)+1 by omega] at vG
  obtain ⟨pt',px',YY⟩:=bM p';rw [YY] at vG ⊢;have qP:=ab ho;have zl:=ab jf;have tE:=ab hv;have Fq:=ab hm;have Hs:=ab ht;have yn:=ab hq;have RD:=ab SZ;have zm:=ab yX;have lU:=ab hL;have qI:=ab hlen;have hLs:(L:Int)≤64:=by omega
  have Z9:(0:Int)≤(L:Int):=by omega
  clear SZ yX ho jf hk hv hm ht hq hL YY hlen HO HK HV HM HT HQ HPV;go_wp2_with fail;refine vG.out.mono ?_
  rintro e w1 ⟨⟨DW,Pw⟩,fI,fK⟩;have TF:=fK.cC tE.out;have zn:=ab (Fq.out.trans fK);have TW:=ab (RD.out.mv fK);have tD:=ab fI;have jP:=ab (qP.out.mv fK HDB.out);have AM:=ab (dU TF Hs.out);have AN:=ab (HAW.out _ _ TF yn.out);have XI:=ab (zl.out.cC TF);rcases DW with ⟨hE,rfl⟩ | ⟨b,n,pv,lv,cv,rfl,hs,hn⟩
  ·have b8:Hid (nC S Pk A pre x w0.heap.size (.returned (.tuple #[.slice none 0 0,.iface 360 (.pointer (some (A 8)))])) w1∧Dv base A db F d w1∧Mv db F w0 w1∧Kept db (.slice va m0 vc) w w1):=⟨.inl ⟨hE,rfl⟩,tD.out,zn.out,TW.out⟩;unfold qG;clear Pw fI fK TF vG qP zl tE Fq Hs yn hE;go_wp2;go_ret2;exact b8.out
  ·have adz:L≤63:=by
    rcases bg 64 (L+1) with h | h
    ·have:=Pw h;unfold qG at this;simp at this
    ·omega
   have HS:=ab hs;have HN:=ab hn;have su:=ab (cB b n pv lv cv w1 hs);clear Pw fI fK TF vG qP zl tE Fq Hs yn hs hn;by_cases h0:n.us.length=0
   ·rw [show decide (n.us.length=0)=true by simp [h0]] at su
    obtain ⟨a',c',w2,bn,jE,hg,aw,-⟩:=jP.out.push w0.heap.size _ _ (b,0) w1 (by rw [ae,az,← WQ.out,← lU.out];omega) (zn.out.size)
    rw [show (pre++ss.map gz.lk).length=L by rw [ae,az,← WQ.out,← lU.out]] at bn jE
    have q0:=ai w1 (.cells #[.pointer (some ⟨b,0,none⟩),.int .i64 0] 159);have b8:Hid (nC S Pk A pre x w0.heap.size (.returned (.tuple #[.slice a' (L+1) c',.nilIface])) w2∧Dv base A db F d w2∧Mv db F w0 w2∧Kept db (.slice va m0 vc) w w2):=by
     have nN:Below w0.heap.size w1 w2:=((ai w1 _).mono zn.out.size).grown hg (by simp;exact Nat.le_succ_of_le zn.out.size) (fun k hk=>(jP.out.1.dr k hk).1)
     obtain ⟨GW,K0⟩:=tD.out.grown nN zn.out QJ.out;exact ⟨.inr ⟨ss,⟨b,n,0,y⟩,a',c',by rw [← WQ.out,← lU.out],by rw [← WQ.out,← lU.out];exact jE,(XI.out.cC aw),⟨⟨pv,lv,cv,HS.out.cC aw⟩,S.na aw HN.out⟩,h0,rfl,by rw [← WQ.out,← lU.out];exact adz⟩,GW,K0,TW.out.grow zm.out hg⟩
    clear jE hg aw q0 h0 HS HN XI jP;go_wp2_with fail;refine su.out.mono ?_
    rintro e w1' ⟨rfl,rfl⟩;have Al:(Builtin.append_ #[101,101] 101 #[.slice a L c,.slice (some ⟨w1.heap.size,0,none⟩) 1 1]).run prog (w1.alloc (.cells #[.pointer (some ⟨b,0,none⟩),.int .i64 0] 159)) = .ok (.slice a' (L+1) c') w2:=bn;clear bn;go_wp2_with (first | (at_builtin;refine wpList_append_run 101 rfl (.tmp 27) (.tmp 30) rfl rfl _ _ rfl rfl _ _ Al ?_))
    go_ret2;exact b8.out
   ·rw [show decide (n.us.length=0)=false by simp [h0]] at su
    have U4:=ab (HP.out w1 b n pv lv cv y AN.out HS.out HN.out h0);have p1:=HS.out.c1;have p2:=HS.out.c2;obtain ⟨la,lc,pD⟩:=HS.out.a8.form;subst pD;have H0:=ab h0;clear h0;go_wp2_with fail;refine su.out.mono ?_
    rintro e w1' ⟨rfl,rfl⟩;go_wp2_with fail;refine U4.out.mono ?_
    rintro e w2 ⟨q,rfl,B3,VU,aU⟩;have HPQ:=ab B3;have Jo:=cP.of aU;obtain ⟨a',c',w3,bn,lJ,hg,aw,D5⟩:=(jP.out.below aU).push w0.heap.size _ _ (b,(q:Int)) w2 (by rw [ae,az,← WQ.out,← lU.out];omega) (ar zn.out.size aU.size)
    rw [show (pre++ss.map gz.lk).length=L by rw [ae,az,← WQ.out,← lU.out]] at bn lJ D5
    have q0:=ai w2 (.cells #[.pointer (some ⟨b,0,none⟩),.int .i64 (q:Int)] 159);have O0:=(HS.out.cC Jo).cC aw;have hn3:=S.na aw (S.na Jo HN.out);obtain ⟨pc,Ra⟩ : ∃ pc,n.us[q]?=some pc:=⟨_,af VU⟩;obtain ⟨z,oy,hkz⟩:=S.qL hn3 Ra;have hdm:Dv base A db F d w3∧Mv db F w0 w3:=by
     have nN:Below w0.heap.size w1 w3:=(((aU.mono zn.out.size).alloc (ar zn.out.size aU.size) _).grown hg (by simp;exact Nat.le_succ_of_le (ar zn.out.size aU.size)) (fun k hk=>(jP.out.1.dr k hk).1))
     obtain ⟨GW,K0⟩:=tD.out.grown nN zn.out QJ.out;exact ⟨GW,K0⟩
    have TQ:Hid (∃ (ss:List (gz X)) (y:X) (p':C.Ch) (a:Option Addr) (c:Nat),(.slice a' (L+1) c':Value) = .slice a (m0+ss.length) c∧pc.val=p'.val∧tv w3 w0.heap.size (.slice a (m0+ss.length) c) (pre++ss.map gz.lk)∧Way S Pk w3 x ss y∧S.K w3 p' y∧m0+ss.length≤64∧Dv base A db F d w3∧Mv db F w0 w3∧B.au w3 tb #[.pointer (some ⟨db,0,none⟩),rv] 100∧Q w3∧Kept db (.slice va m0 vc) w w3∧∀ g,(Value.slice a (m0+ss.length) c).ownBlock=some g→(Value.slice va m0 vc).ownBlock=some g∨w.heap.size≤g):=by
     have e1:m0+(ss++[(⟨b,n,q,y⟩ : gz X)]).length=L+1:=by rw [ae,lU.out];rfl
     refine ⟨ss++[⟨b,n,q,y⟩],z,pc,a',c',by rw [e1],rfl,?_,((XI.out.cC Jo).cC aw).snoc rfl ⟨⟨_,_,_,O0⟩,hn3⟩ H0.out HPQ.out VU oy,hkz,by rw [e1];omega,hdm.1,hdm.2,dU aw (dU Jo AM.out),HAW.out _ _ aw (HAW.out _ _ Jo AN.out),(TW.out.below aU).grow zm.out hg,fun gg hgg=>by
      rw [e1] at hgg;rcases D5 gg hgg with h | h
      ·exact zm.out gg h
      ·exact .inr (ar TW.out.1 (ar aU.size h))⟩
     rw [e1,bt,← ax];exact lJ
    have p3:=O0.c3;obtain ⟨ca,cc,sg,-,-,bh⟩:=O0.kids;rw [C.aS,Nat.mul_one] at sg;subst sg;obtain ⟨g,o,rfl,cq⟩:=bh q pc.val (by unfold C.a8;rw [aM,Ra];rfl)
    obtain ⟨zt,zx,hzv⟩:=bM pc;rw [hzv] at cq TQ;have Al:(Builtin.append_ #[101,101] 101 #[.slice a L c,.slice (some ⟨w2.heap.size,0,none⟩) 1 1]).run prog (w2.alloc (.cells #[.pointer (some ⟨b,0,none⟩),.int .i64 (q:Int)] 159)) = .ok (.slice a' (L+1) c') w3:=bn;have O5:(q:Int)<(n.us.length:Int):=by omega
    have Q8:(0:Int)≤(q:Int):=by omega
    clear D5 bn lJ hg aw q0 O0 hn3 Ra oy hkz hdm bh hzv aU Jo B3 VU U4 su XI jP HS HN p1 p2;go_wp2_with (first | (at_builtin;refine wpList_append_run 101 rfl (.tmp 38) (.tmp 42) rfl rfl _ _ rfl rfl _ _ Al ?_))
    go_roundw
    case rel=>exact TQ.out
    case measure=>simp [Ud];omega
end T
end Go.Proofs.YtihmgigfkmofnaaGreatDoor
