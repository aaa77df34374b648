import Derived.Test.YtihmgigfkmofnaaGreatDoorG21
set_option maxHeartbeats 2000000
set_option maxRecDepth 100000
open Go.Proofs.Tryz
namespace Go.Proofs.YtihmgigfkmofnaaGreatDoor
namespace T
open Go.RowKit
def TV(w:World)(k:Nat):Prop :=
 (∀ j v,w.cell? ⟨k,j,none⟩=some v→(∀ s,v≠.string s)∧∀ t x,v≠.iface t x)∧(∀ cs fr,w.heap[k]?≠some (.cells cs 155 fr))∧∀ cs fr,w.heap[k]?≠some (.cells cs 100 fr)
structure cM(w w':World):Prop where
 size:w.heap.size≤w'.heap.size
 block:∀ k,k<w.heap.size→w'.heap[k]?=w.heap[k]?∨TV w k
theorem cM.of{w w':World}(h:Below w.heap.size w w'):cM w w':=⟨h.size,fun k hk=>.inl (h.block k hk)⟩
theorem Mv.bU{base:Nat}{A:Nat→Addr}{db:Nat}{F:Nat→Prop}{d:S.V.bq}{w w':World}(h:Mv db F w w')(hv:Dv base A db F d w):cM w w':=⟨h.size,fun k hk=>by
 by_cases e:k=db
 ·subst e;obtain ⟨d',_,hd⟩:=hv.dev;refine .inr ⟨fun j v hc=>kZ hd hc,?_,?_⟩
  ·intro cs fr h1;obtain ⟨mb,nb,Ku,av,Dn,hb⟩:=hd;rw [hb.dn] at h1;simp at h1
  ·intro cs fr h1;obtain ⟨mb,nb,Ku,av,Dn,hb⟩:=hd;rw [hb.dn] at h1;simp at h1
 ·exact .inl (h.one.block k hk e)⟩
theorem cM.str{w w':World}(h:cM w w'){g o:Nat}{s:ByteArray}(hc:w.cell? ⟨g,o,none⟩=some (.string s)):w'.heap[g]?=w.heap[g]? :=
 (h.block g (World.block_lt_of_cell? w _ hc)).elim id fun e=>absurd rfl ((e.1 o _ hc).1 s)
theorem cM.ifc{w w':World}(h:cM w w'){g o:Nat}{t:TypeId}{x:Value}(hc:w.cell? ⟨g,o,none⟩=some (.iface t x)):w'.heap[g]?=w.heap[g]? :=
 (h.block g (World.block_lt_of_cell? w _ hc)).elim id fun e=>absurd rfl ((e.1 o _ hc).2 t x)
theorem bV{w w':World}{g o:Nat}{v:Value}(h:w'.heap[g]?=w.heap[g]?)(hc:w.cell? ⟨g,o,none⟩=some v):w'.cell? ⟨g,o,none⟩=some v :=
 (World.cell?_of_block (a:=⟨g,o,none⟩) h).trans hc
theorem N6{w w':World}(h:cM w w'){v:Value}{l:List Pr}(hr:gK w v l):gK w' v l:=by
 obtain ⟨a,cap,rfl,hle,hn,hc⟩:=hr;refine ⟨a,cap,rfl,hle,hn,fun j hj=>?_⟩
 obtain ⟨g,o,ha,h1,h2⟩:=hc j hj;have hg:=h.str h1;exact ⟨g,o,ha,bV hg h1,bV hg h2⟩
theorem OK{w w':World}(h:cM w w'){v:Value}{l:List B.Lk}(hr:B.cV w v l):B.cV w' v l:=by
 obtain ⟨a,cap,rfl,hle,hn,hc⟩:=hr;refine ⟨a,cap,rfl,hle,hn,fun j hj=>?_⟩
 obtain ⟨g,o,ha,h1,h2⟩:=hc j hj;have hg:=h.str h1;exact ⟨g,o,ha,bV hg h1,bV hg h2⟩
theorem Qt{w w':World}(h:cM w w'){v:Value}{l:List C.Ch}(hr:C.cV w v l):C.cV w' v l:=by
 obtain ⟨a,cap,rfl,hle,hn,hc⟩:=hr;refine ⟨a,cap,rfl,hle,hn,fun j u hj=>?_⟩
 obtain ⟨g,o,ha,h1⟩:=hc j u hj;obtain ⟨p,_,rfl⟩ : ∃ p ∈ l,p.val=u:=by
  have:=cu hj;simpa [C.bm] using this
 obtain ⟨t,x,hp⟩:=bz p;have hg:=h.ifc (hp▸h1);exact ⟨g,o,ha,bV hg h1⟩
theorem dG.bU{w w':World}(h:cM w w'){b:Nat}{n:SN}{pv lv cv:Value}(hs:dG w b n pv lv cv):dG w' b n pv lv cv:=by
 refine ⟨?_,N6 h hs.iD,OK h hs.bm,Qt h hs.kids,hs.fine⟩;rcases h.block b hs.row.lt with e | e
 ·exact e.trans hs.row
 ·exact absurd hs.row (e.2.1 _ _)
theorem cG{w w':World}(h:cM w w'){b:Nat}{cs:Array Value}(hs:B.ax w b cs 100):B.ax w' b cs 100:=by
 rcases h.block b hs.lt with e | e
 ·exact e.trans hs
 ·exact absurd hs (e.2.2 _ _)
theorem Dv.BZ{base:Nat}{A:Nat→Addr}{db:Nat}{F:Nat→Prop}{d:S.V.bq}{w:World}(h:Dv base A db F d w):db<w.heap.size:=by
 obtain ⟨d',_,mb,nb,Ku,av,Dn,hb⟩:=h.dev;exact (Array.getElem?_eq_some_iff.1 hb.dn).1
theorem Dv.grown{base:Nat}{A:Nat→Addr}{db:Nat}{F:Nat→Prop}{d:S.V.bq}{w0 w1 w2:World}(dX:Dv base A db F d w1)(lU:Below w0.heap.size w1 w2)(hm:Mv db F w0 w1)(gi:Dv base A db F d w0):Dv base A db F d w2∧Mv db F w0 w2:=by
 obtain ⟨d1,n1,sP⟩:=dX.dev;obtain ⟨d0,n0,Hb⟩:=gi.dev;have hF0:∀ k,F k→k<w0.heap.size:=Hb.lt;have hs:S.V.Step (fun k=>w0.heap.size≤k) (fun k=>w0.heap.size≤k) w1 w2:=⟨lU.os,lU.tape,lU.output,lU.size,fun k hk hn=>lU.block k (by omega),fun _ h=>.inl h⟩
 have Ll:S.V.cO w2 db F d1:=sP.keep hs (fun k hk e=>by have:=hF0 k hk;omega)
 have iw:Mv db F w0 w2:=⟨⟨lU.os.trans hm.step.os,lU.tape.trans hm.step.tape,lU.output.trans hm.step.output,al hm.size lU.size,fun k hk hn=>(lU.block k hk).trans (hm.step.block k hk hn),fun _ h=>.inl h⟩,⟨lU.os.trans hm.step.os,lU.tape.trans hm.step.tape,lU.output.trans hm.step.output,al hm.size lU.size,fun k hk hn=>(lU.block k hk).trans (hm.one.block k hk hn),fun _ h=>.inl h⟩⟩
 exact ⟨⟨⟨d1,n1,Ll⟩,dX.env.keep (lU.mono gi.env.errs.size),EJ iw.one Hb Ll gi.errs,dX.up,dX.alive,dX.lo⟩,iw⟩
def Plain(u:Value):Prop:=(∃ p,u = .pointer p)∨∃ k x,u = .int k x
theorem Plain.no{u:Value}(h:Plain u):(∀ s,u≠.string s)∧∀ t x,u≠.iface t x:=by
 rcases h with ⟨p,rfl⟩ | ⟨k,x,rfl⟩
 ·exact ⟨(fun s e=>by cases e),(fun t x e=>by cases e)⟩
 ·exact ⟨(fun s e=>by cases e),(fun t x e=>by cases e)⟩
theorem pD(l:List W.Lk):∀ u ∈ W.bm l,Plain u:=by
 intro u hu;simp only [W.bm,ma] at hu;obtain ⟨p,_,h⟩:=hu;simp at h
 rcases h with rfl | rfl
 ·exact .inl ⟨_,rfl⟩
 ·exact .inr ⟨_,_,rfl⟩
def oa(w:World)(base:Nat)(v:Value)(l:List W.Lk):Prop :=
 W.b7 w base v l∧∀ g,v.ownBlock=some g→∃ cur,w.heap[g]?=some (.cells cur 159 (0,0))∧∀ u ∈ cur.toList,Plain u
theorem oa.nil(w:World)(base:Nat):oa w base (.slice none 0 0) []:=⟨W.b7.nil w base,fun g h=>by simp [Value.ownBlock] at h⟩
theorem oa.odd{w:World}{base:Nat}{v:Value}{l:List W.Lk}(h:oa w base v l){g:Nat}(hg:v.ownBlock=some g):TV w g:=by
 obtain ⟨cur,h1,h2⟩:=h.2 g hg;refine ⟨fun j u hc=>?_,fun cs fr e=>?_,fun cs fr e=>?_⟩
 ·rw [cell_of_row w g j cur _ _ h1] at hc;exact (h2 u (by have:=Array.getElem?_eq_some_iff.1 hc;obtain ⟨h3,h4⟩:=this;rw [← h4];exact gH h3)).no
 ·rw [h1] at e;simp at e
 ·rw [h1] at e;simp at e
theorem oa.below{w w':World}{base:Nat}{v:Value}{l:List W.Lk}(h:oa w base v l)(hb:Below w.heap.size w w'):oa w' base v l:=by
 refine ⟨h.1.below hb,fun g hg=>?_⟩
 obtain ⟨cur,h1,h2⟩:=h.2 g hg;exact ⟨cur,(hb.block g (Array.getElem?_eq_some_iff.1 h1).1).trans h1,h2⟩
theorem oa.mv{db:Nat}{F:Nat→Prop}{w w':World}{base:Nat}{v:Value}{l:List W.Lk}(h:oa w base v l)(hm:Mv db F w w')(hdb:db<base):oa w' base v l:=by
 refine ⟨⟨h.1.1,?_⟩,fun g hg=>?_⟩
 ·rcases h.1.2 with h' | ⟨g,cap,cur,h',h1,h2,hr⟩
  ·exact .inl h'
  ·exact .inr ⟨g,cap,cur,h',h1,(hm.one.block g (Array.getElem?_eq_some_iff.1 h2).1 (by omega)).trans h2,hr⟩
 ·obtain ⟨cur,h1,h2⟩:=h.2 g hg;have:=(h.1.dn g hg).1;exact ⟨cur,(hm.one.block g (Array.getElem?_eq_some_iff.1 h1).1 (by omega)).trans h1,h2⟩
theorem qp(n:Nat):∀ u ∈ (Builtin.zeroCells (Value.agg #[.pointer none,.int .i64 0]).cells n).toList,Plain u:=by
 intro u hu;simp only [Builtin.zeroCells,Value.cells] at hu;simp at hu
 obtain ⟨i,_,rfl⟩:=hu;rcases bW i with h | h
 ·rw [h];exact .inl ⟨none,rfl⟩
 ·rw [h];exact .inr ⟨.i64,0,rfl⟩
theorem oa.push(base:Nat)(v:Value)(l:List W.Lk)(p:W.Lk)(w:World)(h:oa w base v l)(hn:l.length≤100000)(dy:base≤w.heap.size):∃ a' c' w',(Builtin.append_ #[101,101] 101 #[v,.slice (some ⟨w.heap.size,0,none⟩) 1 1]).run prog (w.alloc (.cells #[.pointer (some ⟨p.1,0,none⟩),.int .i64 p.2] 159)) = .ok (.slice a' (l.length+1) c') w'∧oa w' base (.slice a' (l.length+1) c') (l++[p])∧(w.alloc (.cells #[.pointer (some ⟨p.1,0,none⟩),.int .i64 p.2] 159)).grownBy w' v.ownBlock∧cM w w'∧(∀ g,(Value.slice a' (l.length+1) c').ownBlock=some g→v.ownBlock=some g∨w.heap.size≤g):=by
 obtain ⟨i0,hi,hz,cx,kU⟩:=info_parts W.lQ;have ho:W.b7 (w.alloc (.cells #[.pointer (some ⟨p.1,0,none⟩),.int .i64 p.2] 159)) base v l:=World.ownsRow.alloc h.1 _;obtain ⟨a',c',w',hr,aE,hg⟩:=W.fo base v _ l [p] _ ho (W.vN w p 159) (by simp;omega) (by simp;omega)
 have aw:cM w w':=⟨by have:=hg.size;simp at this;omega,fun k hk=>by
  by_cases e:some k=v.ownBlock
  ·exact .inr (h.odd e.symm)
  ·left
   rw [hg.block k (by simp;omega) e]
   exact heap_alloc_old w _ hk⟩
 have nz:=bN w #[.pointer (some ⟨p.1,0,none⟩),.int .i64 p.2] 159;have ik:∀ j u,([.pointer (some ⟨p.1,0,none⟩),.int .i64 p.2] : List Value)[j]?=some u→(w.alloc (.cells #[.pointer (some ⟨p.1,0,none⟩),.int .i64 p.2] 159)).cell? ((⟨w.heap.size,0,none⟩ : Addr).add j)=some u:=fun j u hj=>by
  rw [bB,Nat.zero_add];match j,hj with
  | 0,hj=>cases hj;exact nz.2 0 (by simp)
  | 1,hj=>cases hj;exact nz.2 1 (by simp)
 have Ro:∀ u ∈ ([.pointer (some ⟨p.1,0,none⟩),.int .i64 p.2] : List Value),Plain u:=pD [p];suffices hh:(∀ g,(Value.slice a' (l.length+1) c').ownBlock=some g→v.ownBlock=some g∨w.heap.size≤g)∧∀ g,(Value.slice a' (l.length+1) c').ownBlock=some g→∃ cur,w'.heap[g]?=some (.cells cur 159 (0,0))∧∀ u ∈ cur.toList,Plain u from ⟨a',c',w',hr,⟨aE,hh.2⟩,hg,aw,hh.1⟩
 rcases h.1.2 with ⟨rfl,h0⟩ | ⟨g0,cap,cur,rfl,mY,qh,Cn,sQ,fs,mX⟩
 ·have hq:=run_append_nil (P:=prog) (w.alloc (.cells #[.pointer (some ⟨p.1,0,none⟩),.int .i64 p.2] 159)) 101 101 159 i0 _ underlying101 hi hz ⟨w.heap.size,0,none⟩ 1 1 _ (by rw [cx];rfl) ik (by omega) (by omega) (by rw [kU];omega)
  rw [hq] at hr;simp only [Result.ok.injEq,Value.slice.injEq] at hr;obtain ⟨⟨rfl,-,-⟩,rfl⟩:=hr;refine ⟨fun g iA=>?_,fun g iA=>?_⟩
  ·simp only [Value.ownBlock,Option.some.injEq] at iA;right;subst iA;simp
  simp only [Value.ownBlock,Option.some.injEq] at iA;subst iA;refine ⟨_,heap_alloc_new (World.drew _) _,fun u hu=>?_⟩
  simp only [b6,cA] at hu;rcases hu with hu | hu
  ·exact Ro u (by simpa using hu)
  ·exact qp _ u hu
 ·have fK:(w.alloc (.cells #[.pointer (some ⟨p.1,0,none⟩),.int .i64 p.2] 159)).heap[g0]?=some (.cells cur 159 (0,0)):=(heap_alloc_old w _ (Array.getElem?_eq_some_iff.1 qh).1).trans qh;have yV:∀ u ∈ cur.toList,Plain u:=by
   obtain ⟨fN,h1,h2⟩:=h.2 g0 rfl;rw [qh] at h1;simp only [Option.some.injEq,Obj.cells.injEq,and_true] at h1;subst h1;exact h2
  by_cases dZ:l.length+1≤cap
  ·have hq:=run_append_room (P:=prog) (w.alloc (.cells #[.pointer (some ⟨p.1,0,none⟩),.int .i64 p.2] 159)) 101 101 159 i0 underlying101 hi g0 l.length cap cur fK ⟨w.heap.size,0,none⟩ 1 1 _ (by rw [cx];rfl) ik (by intro u hu;rcases Ro u hu with ⟨q,rfl⟩ | ⟨q,x,rfl⟩ <;> rfl) dZ (by rw [cx,fs];simp;omega)
   rw [hq] at hr;simp only [Result.ok.injEq,Value.slice.injEq] at hr;obtain ⟨⟨rfl,-,-⟩,rfl⟩:=hr;refine ⟨fun g iA=>?_,fun g iA=>?_⟩
   ·simp only [Value.ownBlock,Option.some.injEq] at iA;left;subst iA;rfl
   simp only [Value.ownBlock,Option.some.injEq] at iA;subst iA;refine ⟨_,setRow_heap _ g0 cur _ _ _ fK,fun u hu=>?_⟩
   simp only [cA] at hu;rcases hu with (hu | hu) | hu
   ·exact yV u (bH hu)
   ·exact Ro u hu
   ·exact yV u (bI hu)
  ·have si:(W.bm l).length=l.length*i0.size:=by rw [cx];exact W.aR l
   have holds:∀ j u,(W.bm l)[j]?=some u→(w.alloc (.cells #[.pointer (some ⟨p.1,0,none⟩),.int .i64 p.2] 159)).cell? ((⟨g0,0,none⟩ : Addr).add j)=some u:=World.ownsRow.cells ho (g:=g0) rfl;have hq:=run_append_grow (P:=prog) (w.alloc (.cells #[.pointer (some ⟨p.1,0,none⟩),.int .i64 p.2] 159)) 101 101 159 i0 _ underlying101 hi hz ⟨g0,0,none⟩ l.length cap (W.bm l) si holds ⟨w.heap.size,0,none⟩ 1 1 _ (by rw [cx];rfl) ik (by omega) (by omega) (growslice_fits (by omega) (by rw [kU];omega))
   rw [hq] at hr;simp only [Result.ok.injEq,Value.slice.injEq] at hr;obtain ⟨⟨rfl,-,-⟩,rfl⟩:=hr;refine ⟨fun g iA=>?_,fun g iA=>?_⟩
   ·simp only [Value.ownBlock,Option.some.injEq] at iA;right;subst iA;simp
   simp only [Value.ownBlock,Option.some.injEq] at iA;subst iA;refine ⟨_,heap_alloc_new (World.drew _) _,fun u hu=>?_⟩
   simp only [b6,cA] at hu;rcases hu with (hu | hu) | hu
   ·exact pD l u (by simpa using hu)
   ·exact Ro u (by simpa using hu)
   ·exact qp _ u hu
def Fit(n:SN):Prop:=n.zn∧n.sz≤4072∧(n.us.length=0∨1≤n.lk.length)
structure Sys(d:S.V.bq)(X:Type) where
 K:World→C.Ch→X→Prop
 N:World→SN→X→Prop
 E:Prop
 sub:X→Nat→X→Prop
 rk:X→Nat
 ka:∀ {w w':World} {p:C.Ch} {x:X},cM w w'→K w p x→K w' p x
 na:∀ {w w':World} {n:SN} {x:X},cM w w'→N w n x→N w' n x
 pS:∀ {w:World} {n:SN} {x:X} {i:Nat} {p:C.Ch},N w n x→n.us[i]?=some p→∃ y,sub x i y∧K w p y
 fit:∀ {w:World} {n:SN} {x:X},N w n x→Fit n
 gQ:∀ {w:World} {id:Int} {x:X},K w (.pg id) x→(cJ d id=none∧E)∨∃ p,cJ d id=some p∧∀ w',N w' p.sn x
 node:∀ {w:World} {b:Nat} {x:X},K w (.nd b) x→∃ n pv lv cv,dG w b n pv lv cv∧N w n x
 Xh:E∨∀ x i y,sub x i y→rk y+1≤rk x
def nG(A:Nat→Addr):Ending:=.returned (.tuple #[.pointer none,.iface 360 (.pointer (some (A 8)))])
def lY{d:S.V.bq}{X:Type}(S:Sys d X)(A:Nat→Addr)(x:X)(e:Ending)(w':World):Prop :=
 (S.E∧e=nG A)∨∃ b n pv lv cv,e = .returned (.tuple #[.pointer (some ⟨b,0,none⟩),.nilIface])∧dG w' b n pv lv cv∧S.N w' n x
theorem pw{base:Nat}{A:Nat→Addr}{db:Nat}{F:Nat→Prop}{d:S.V.bq}{X:Type}(S:Sys d X)(p:C.Ch)(x:X)(tb:Nat)(rv:Value)(w:World)(hk:S.K w p x)(ht:B.ax w tb #[.pointer (some ⟨db,0,none⟩),rv] 100)(hv:Dv base A db F d w):Calls prog 104 #[.pointer (some ⟨tb,0,none⟩),p.val] w fun e w'=>lY S A x e w'∧Dv base A db F d w'∧Mv db F w w':=by
 cases p with
 | pg id =>
  have HL:=ab (KJ base A db F d id w hv);have HK:=ab (S.gQ hk);have c0:=ht.c0;have a1:=fun W=>QM (.int .i64 id) W
  clear hk ht hv;show Calls prog 104 #[.pointer (some ⟨tb,0,none⟩),.iface 146 (.int .i64 id)] w fun e w'=>lY S A x e w'∧Dv base A db F d w'∧Mv db F w w'
  go_enter func104,ntmps104;go_wp2_with fail;refine HL.out.mono ?_
  rintro e w1 ⟨hr,h1,h2⟩;have zB:lY S A x e w1:=by
   rcases hr with ⟨g1,g2⟩ | ⟨q,b,pv,lv,cv,g1,g2,g3⟩
   ·rcases HK.out with ⟨_,k2⟩ | ⟨q,k1,_⟩
    ·exact .inl ⟨k2,g2⟩
    ·rw [g1] at k1;cases k1
   ·rcases HK.out with ⟨k1,_⟩ | ⟨q',k1,k2⟩
    ·rw [g1] at k1;cases k1
    ·rw [g1] at k1;cases k1;exact .inr ⟨b,q.sn,pv,lv,cv,g2,g3,k2 w1⟩
  obtain ⟨pp,vv,he,-,vT⟩:=hr.form;subst he;have HR:Hid (lY S A x (.returned (.tuple #[.pointer pp,vv])) w1∧Dv base A db F d w1∧Mv db F w w1):=⟨zB,h1,h2⟩;clear hr zB h1 h2 HL c0 HK;rcases vT with rfl | rfl
  ·go_wp2;go_ret2;exact HR.out
  ·go_wp2;go_ret2;exact HR.out
 | nd b =>
  obtain ⟨n,pv,lv,cv,hs,hn⟩:=S.node hk;have HR:Hid (lY S A x (.returned (.tuple #[.pointer (some ⟨b,0,none⟩),.nilIface])) w∧Dv base A db F d w∧Mv db F w w):=⟨.inr ⟨b,n,pv,lv,cv,rfl,hs,hn⟩,hv,Mv.refl _ _ _⟩;clear hs hn ht hv hk;have a1:=fun W=>Jz (.pointer (some ⟨b,0,none⟩)) W
  have a2:=fun W=>QN (.pointer (some ⟨b,0,none⟩)) W
  show Calls prog 104 #[.pointer (some ⟨tb,0,none⟩),.iface 152 (.pointer (some ⟨b,0,none⟩))] w fun e w'=>lY S A x e w'∧Dv base A db F d w'∧Mv db F w w'
  go_enter func104,ntmps104;go_wp2;go_ret2;exact HR.out
theorem lY.form{d:S.V.bq}{X:Type}{S:Sys d X}{A:Nat→Addr}{x:X}{e:Ending}{w':World}(h:lY S A x e w'):∃ p v,e = .returned (.tuple #[.pointer p,v])∧(v = .nilIface∨v = .iface 360 (.pointer (some (A 8)))):=by
 rcases h with ⟨_,rfl⟩ | ⟨b,n,pv,lv,cv,rfl,_⟩
 ·exact ⟨_,_,rfl,.inr rfl⟩
 ·exact ⟨_,_,rfl,.inl rfl⟩
theorem lx{base:Nat}{A:Nat→Addr}{db:Nat}{F:Nat→Prop}{d:S.V.bq}{X:Type}(S:Sys d X)(p:C.Ch)(x:X)(tb:Nat)(rv:Value)(dp:Nat)(w:World)(hk:S.K w p x)(ht:B.ax w tb #[.pointer (some ⟨db,0,none⟩),rv] 100)(hv:Dv base A db F d w)(iH:S.E∨dp≤64):Calls prog 92 #[.pointer (some ⟨tb,0,none⟩),p.val,.int .i64 (dp:Int)] w fun e w'=>(lY S A x e w'∧(64<dp→e=nG A))∧Dv base A db F d w'∧Mv db F w w':=by
 obtain ⟨pt,px,gw⟩:=bz p;by_cases PJ:64<dp
 ·have hE:S.E:=iH.resolve_right (by omega)
  have hle:(64:Int)<(dp:Int):=by omega
  have g8:w.cell? ⟨8,0,none⟩=some (.iface 360 (.pointer (some (A 8)))):=hv.g 8 (by decide)
  have HR:Hid ((lY S A x (nG A) w∧(64<dp→nG A=nG A))∧Dv base A db F d w∧Mv db F w w):=⟨⟨.inl ⟨hE,rfl⟩,fun _=>rfl⟩,hv,Mv.refl _ _ _⟩
  have HEE:=ab hE;rw [gw];clear hk ht hv hE iH gw;go_enter func92,ntmps92;go_wp2_with fail;go_quiet (fail)
  go_wp2;go_ret2;exact ⟨⟨.inl ⟨(HEE.out),rfl⟩,fun _=>rfl⟩,HR.out.2.1.below (aB (Below.refl _ _) _),HR.out.2.2.trans (Mv.of (aB (Below.refl _ _) _))⟩
 ·have HL:=ab (pw S p x tb rv w hk ht hv);rw [gw] at HL ⊢;have hle:¬ (64:Int)<(dp:Int):=by omega
  clear hk ht hv gw iH;go_enter func92,ntmps92;go_wp2_with fail;refine HL.out.mono ?_
  rintro e w1 ⟨hr,h1,h2⟩;obtain ⟨pp,vv,he,vT⟩:=hr.form;subst he;have HR:Hid ((lY S A x (.returned (.tuple #[.pointer pp,vv])) w1∧(64<dp→.returned (.tuple #[.pointer pp,vv])=nG A))∧Dv base A db F d w1∧Mv db F w w1):=⟨⟨hr,fun h=>absurd h PJ⟩,h1,h2⟩
  clear hr h1 h2 HL;rcases vT with rfl | rfl
  ·go_wp2;go_ret2;exact HR.out
  ·go_wp2;go_ret2;exact HR.out
end T
end Go.Proofs.YtihmgigfkmofnaaGreatDoor
