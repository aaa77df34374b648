import Derived.Test.YtihmgigfkmofnaaGreatDoorG00
import Derived.Laws.ResultCell
import GoSem.Claim
import GoSem.ClaimJoined
import GoSem.ClaimMapViews
import Derived.JoinedTies
import Derived.RowKit
import Derived.LaidLaws
import Derived.LaidEql
import Derived.Deep.RegionHeld3
set_option maxHeartbeats 4000000
set_option maxRecDepth 100000
open Go.Proofs.Tryz
namespace Go.Proofs.YtihmgigfkmofnaaGreatDoor
namespace B
open Go.RowKit
theorem aK{P:Program}{fn:Func}{p u:Tmp}{ty:TypeId}(h:fn.results=#[.cell p ty,.tmp u])(tmps:Array Value)(w:World)(g:Nat)(t:TypeId)(cs:Array Value)(fr:Nat × Nat)(d:TypeDesc)(hp:tmps.getD p undef = .pointer (some ⟨g,0,none⟩))(hg:w.heap[g]?=some (.cells cs t fr))(hu:P.underlying ty=some d)(hd:(match d with | .struct _ | .array _ _=>true | _=>false)=true)(hi:(P.info? ty).map (·.size)=some cs.size):(results fn tmps).run P w = .ok (.tuple #[.agg cs,tmps.getD u undef]) w:=by
 rw [results_cell_tmp h tmps P w,hp];simp [asAddr,run_loadVar_row w g t ty cs fr d hg hu hd hi,Result.andThen]
theorem wz{fn:Func}{p q u v:Tmp}{t1 t2:TypeId}(h:fn.results=#[.cell p t1,.tmp u,.cell q t2,.tmp v])(tmps:Array Value)(P:Program)(w:World):(results fn tmps).run P w=((asAddr (tmps.getD p undef)).run P w).andThen fun a w₁=>((loadVar t1 a).run P w₁).andThen fun x w₂=>((asAddr (tmps.getD q undef)).run P w₂).andThen fun b w₃=>((loadVar t2 b).run P w₃).andThen fun y w₄=>.ok (.tuple #[x,tmps.getD u undef,y,tmps.getD v undef]) w₄:=by
 simp only [results,h];simp [Sem.run_bind,Result.andThen]
theorem pM{P:Program}{fn:Func}{p q u v:Tmp}{ty t2:TypeId}(h:fn.results=#[.cell p ty,.tmp u,.cell q t2,.tmp v])(tmps:Array Value)(w:World)(g1 g2:Nat)(t t':TypeId)(cs cs2:Array Value)(fr fr2:Nat × Nat)(d d2:TypeDesc)(hp:tmps.getD p undef = .pointer (some ⟨g1,0,none⟩))(hq:tmps.getD q undef = .pointer (some ⟨g2,0,none⟩))(hg:w.heap[g1]?=some (.cells cs t fr))(yZ:w.heap[g2]?=some (.cells cs2 t' fr2))(hu:P.underlying ty=some d)(hu2:P.underlying t2=some d2)(hd:(match d with | .struct _ | .array _ _=>true | _=>false)=true)(Ld:(match d2 with | .struct _ | .array _ _=>true | _=>false)=true)(hi:(P.info? ty).map (·.size)=some cs.size)(uS:(P.info? t2).map (·.size)=some cs2.size):(results fn tmps).run P w = .ok (.tuple #[.agg cs,tmps.getD u undef,.agg cs2,tmps.getD v undef]) w:=by
 rw [wz h tmps P w,hp,hq];simp [asAddr,run_loadVar_row w g1 t ty cs fr d hg hu hd hi,run_loadVar_row w g2 t' t2 cs2 fr2 d2 yZ hu2 Ld uS,Result.andThen]
theorem vf{w:World}{b:Nat}{x y:Value}{t:TypeId}(h:w.heap[b]?=some (.cells #[x,y] t (0,0)))(x' y':Value):((w.setCell ⟨b,0,none⟩ x').setCell ⟨b,1,none⟩ y').heap[b]?=some (.cells #[x',y'] t (0,0)):=by
 rw [heap_setCell_same _ b 1 _ t _ (heap_setCell_same w b 0 _ t _ h)];rfl
theorem b9{B:Nat}{w0 w:World}{b:Nat}{x y:Value}(h:Below B w0 w)(hb:B≤b):Below B w0 ((w.setCell ⟨b,0,none⟩ x).setCell ⟨b,1,none⟩ y):=(h.setCell hb _).setCell hb _
def au(w:World)(b:Nat)(cs:Array Value)(t:TypeId):Prop:=w.heap[b]?=some (.cells cs t (0,0))
theorem au.cell{w:World}{b:Nat}{cs:Array Value}{t:TypeId}(h:au w b cs t)(j:Nat)(hj:j<cs.size):w.cell? ⟨b,j,none⟩=some cs[j]:=by
 rw [cell_of_row _ _ _ _ _ _ h];simp [hj]
theorem au.c0{w:World}{b:Nat}{x y:Value}{t:TypeId}(h:au w b #[x,y] t):w.cell? ⟨b,0,none⟩=some x:=h.cell 0 (by simp)
theorem au.c1{w:World}{b:Nat}{x y:Value}{t:TypeId}(h:au w b #[x,y] t):w.cell? ⟨b,1,none⟩=some y:=h.cell 1 (by simp)
theorem au.free{w:World}{b:Nat}{cs:Array Value}{t:TypeId}(h:au w b cs t)(j:Nat):w.frozen? ⟨b,j,none⟩=false:=frozen_of_row _ _ _ _ _ h
theorem au.lt{w:World}{b:Nat}{cs:Array Value}{t:TypeId}(h:au w b cs t):b<w.heap.size:=by
 rcases bg b w.heap.size with h' | h'
 ·exact h'
 ·unfold au at h;rw [aX h'] at h;cases h
theorem au.below{w w':World}{b:Nat}{cs:Array Value}{t:TypeId}(h:au w b cs t)(hb:Below w.heap.size w w'):au w' b cs t:=by
 unfold au;rw [hb.block b h.lt];exact h
theorem au.new(w:World)(cs:Array Value)(t:TypeId):au (w.alloc (.cells cs t)) w.heap.size cs t:=heap_alloc_new w _
theorem au.two{w:World}{b:Nat}{x y:Value}{t:TypeId}(h:au w b #[x,y] t)(x' y':Value):au ((w.setCell ⟨b,0,none⟩ x').setCell ⟨b,1,none⟩ y') b #[x',y'] t:=vf h x' y'
theorem au.other{w:World}{b g j:Nat}{cs:Array Value}{t:TypeId}(h:au w b cs t)(dE:b≠g)(u:Value):au (w.setCell ⟨g,j,none⟩ u) b cs t:=by
 unfold au;rw [Below.heap_setCell _ _ _ _ (fun e=>dE e)];exact h
theorem di.cap{w:World}{a:Option Addr}{n c:Nat}{l:List Lk}(h:di w (.slice a n c) l):l.length≤c:=by
 obtain ⟨_,_,he,h,_⟩:=h;cases he;exact h
theorem IX(p:Lk):∀ (l:List Lk) (k:Nat),((a8 l).set (k*2) (.string p.1)).set (k*2+1) (.int .i64 p.2)=a8 (l.set k p)
 | [],k=>by simp [a8]
 | q::l,0=>by
  rw [List.set_cons_zero,eu,eu];rfl
 | q::l,k+1=>by
  rw [List.set_cons_succ,eu,eu,← IX p l k,show (k+1)*2=k*2+1+1 by omega]
  simp only [List.set_cons_succ]
theorem b6.put{w:World}{base g j:Nat}{v:Value}{l:List Lk}(h:b6 w base v l)(hv:v.ownBlock≠some g)(u:Value):b6 (w.setCell ⟨g,j,none⟩ u) base v l:=by
 refine ⟨h.1,?_⟩;rcases h.2 with h' | ⟨g',cap,cur,h',h1,h2,hr⟩
 ·exact .inl h'
 ·refine .inr ⟨g',cap,cur,h',h1,?_,hr⟩;rw [Below.heap_setCell _ _ _ _ (fun e=>hv (by have:g'=g:=e;rw [h',this];rfl))];exact h2
theorem b6.cnt{w:World}{base n cap:Nat}{a:Option Addr}{l:List Lk}(h:b6 w base (.slice a n cap) l):n=l.length:=by
 obtain ⟨a',c',he⟩:=h.form;simp only [Value.slice.injEq] at he;exact he.2.1
theorem b6.wrote{w:World}{base g n cap:Nat}{l:List Lk}(h:b6 w base (.slice (some ⟨g,0,none⟩) n cap) l)(k:Nat)(p:Lk):b6 ((w.setCell ⟨g,k*2,none⟩ (.string p.1)).setCell ⟨g,k*2+1,none⟩ (.int .i64 p.2)) base (.slice (some ⟨g,0,none⟩) n cap) (l.set k p):=by
 obtain rfl:=h.cnt;unfold b6 at h;have:=(World.ownsRow.stored (World.ownsRow.stored h (k*2) (.string p.1)).1 (k*2+1) (.int .i64 p.2)).1;rw [IX] at this;unfold b6;rw [cx];exact this
theorem b6.spot{w:World}{base g n cap:Nat}{l:List Lk}(h:b6 w base (.slice (some ⟨g,0,none⟩) n cap) l)(k:Nat)(hk:k<l.length):(∃ u,w.cell? ⟨g,k*2,none⟩=some u)∧(∃ u,w.cell? ⟨g,k*2+1,none⟩=some u)∧w.frozen? ⟨g,k*2,none⟩=false∧w.frozen? ⟨g,k*2+1,none⟩=false:=by
 obtain rfl:=h.cnt;unfold b6 at h;have hq:∀ j,j<l.length*2→∃ u,w.cell? ⟨g,j,none⟩=some u:=fun j hj=>by
  rw [World.ownsRow.cellAt h j hj];exact ⟨_,af (by rw [aS];exact hj)⟩
 exact ⟨hq _ (by omega),hq _ (by omega),World.ownsRow.frozenAt h _,World.ownsRow.frozenAt h _⟩
theorem b6.has{w:World}{base:Nat}{v:Value}{l:List Lk}(h:b6 w base v l)(hl:0<l.length):∃ g c,v = .slice (some ⟨g,0,none⟩) l.length c∧base≤g∧g<w.heap.size∧l.length≤c:=by
 rcases h.2 with ⟨_,h0⟩ | ⟨g,cap,cur,rfl,h1,h2,h3,_⟩
 ·omega
 ·exact ⟨g,cap,rfl,h1,(h.dr g rfl).2,h3⟩
theorem di.spot{w:World}{a:Option Addr}{n c:Nat}{l:List Lk}(h:di w (.slice a n c) l)(j:Nat)(hj:j<l.length):∃ g o,a = .some ⟨g,o,none⟩∧w.cell? ⟨g,o+j*2,none⟩ = .some (.string l[j].1)∧w.cell? ⟨g,o+j*2+1,none⟩ = .some (.int .i64 l[j].2):=by
 obtain ⟨a',c',he,_,_,hc⟩:=h;cases he;exact hc j hj
theorem dq{a b:World}(h:Below a.drew.heap.size a.drew b):Below a.heap.size a b:=⟨h.os,h.tape,h.output,h.size,h.block⟩
theorem b6.drew{w:World}{base:Nat}{v:Value}{l:List Lk}(h:b6 w base v l):b6 w.drew base v l:=h
theorem di.drew{w:World}{v:Value}{l:List Lk}(h:di w v l):di w.drew v l:=h
theorem au.drew{w:World}{b:Nat}{cs:Array Value}{t:TypeId}(h:au w b cs t):au w.drew b cs t:=h
theorem aO{B:Nat}{a w:World}(h:Below B a w):Below B a w.drew:=⟨h.os,h.tape,h.output,h.size,h.block⟩
theorem b6.wG{w:World}{base g:Nat}{v:Value}{l:List Lk}(h:b6 w base v l)(hg:g<base)(x y:Value):b6 ((w.setCell ⟨g,0,none⟩ x).setCell ⟨g,1,none⟩ y) base v l:=by
 have hv:v.ownBlock≠some g:=fun e=>by have:=(h.dr g e).1;omega
 exact (h.put hv x).put hv y
end B
def pre(l:List Int)(i:Nat):Int:=(l.take i).sum
theorem gL(l:List Int):pre l 0=0:=by simp [pre]
theorem iZ(l:List Int)(i:Nat)(h:i<l.length):pre l (i+1)=pre l i+l[i]:=by
 unfold pre;rw [ay h,List.sum_append];simp
def ie(l:List Int):Prop:=∀ i (h:i<l.length),1≤l[i]∧l[i]≤4072
theorem gh{l:List Int}(hf:ie l)(i:Nat):∀ j,i≤j→j≤l.length→pre l i+(j - i:Nat)≤pre l j:=by
 intro j Ro;induction j with
 | zero =>
  intro _;have:i=0:=by omega
  subst this;simp
 | succ j ih =>
  intro hj;by_cases h:i=j+1
  ·subst h;simp
  ·have h1:=ih (by omega) (by omega)
   have h2:=iZ l j (by omega)
   have h3:=(hf j (by omega)).1
   omega
theorem gU{l:List Int}(hf:ie l):∀ j,j≤l.length→0≤pre l j∧pre l j≤4072*(j:Int):=by
 intro j;induction j with
 | zero=>intro _;rw [gL];omega
 | succ j ih =>
  intro hj;have h1:=ih (by omega)
  have h2:=iZ l j (by omega)
  have h3:=hf j (by omega)
  omega
def ji(l:List Int)(i:Nat):Nat:=(pre l i - (pre l l.length - pre l i)).natAbs
def jh(l:List Int)(i:Nat):Nat:=(pre l i - (pre l l.length - pre l (i+1))).natAbs
def dm(f:Nat→Nat)(hi i:Nat):Prop:=(1≤i∧i≤hi)∧∀ j,1≤j→j≤hi→f i≤f j∧(j<i→f i<f j)
theorem ui(p:Nat→Prop)[DecidablePred p] : ∀ n,p n→∃ j,j≤n∧p j∧∀ k,k<j→¬ p k:=by
 intro n;induction n using Nat.strongRecOn with
 | ind n ih =>
  intro hp;by_cases h:∃ k,k<n∧p k
  ·obtain ⟨k,hk,B3⟩:=h;obtain ⟨j,h1,h2,h3⟩:=ih k hk B3;exact ⟨j,by omega,h2,h3⟩
  ·exact ⟨n,aj _,hp,fun k hk B3=>h ⟨k,hk,B3⟩⟩
theorem P9{l:List Int}{m:Int}{i:Nat}(hf:ie l)(h2:2≤l.length)(hm:∀ k (h:k<l.length),l[k]≤m)(hb:dm (ji l) (l.length - 1) i):(ji l i:Int)≤m:=by
 suffices h:∃ j,1≤j∧j≤l.length - 1∧(ji l j:Int)≤m by
  obtain ⟨j,j1,j2,j3⟩:=h;have:=(hb.2 j j1 j2).1;omega
 obtain ⟨j,h1,PM,h3⟩:=ui (fun j=>pre l l.length≤2*pre l j) l.length (by have:=(gU hf l.length (aj _)).1;show _≤_;omega)
 have T0:=gh hf 0 l.length (by omega) (by omega)
 rw [gL] at T0;have K7:j≠0:=by rintro rfl;rw [gL] at PM;omega
 obtain ⟨k,rfl⟩ : ∃ k,j=k+1:=⟨j - 1,by omega⟩
 have h4:=h3 k (by omega)
 have hk:=iZ l k (by omega)
 have pC:=hm k (by omega)
 have hp:=(gU hf k (by omega)).1
 have hq:=gh hf (k+1) l.length (by omega) (aj _)
 by_cases ha:k+1=l.length
 ·refine ⟨k,by omega,by omega,?_⟩
  rw [ha] at hk;unfold ji;omega
 ·by_cases hz:k=0
  ·subst hz;rw [gL] at *;exact ⟨0+1,by omega,by omega,by unfold ji;omega⟩
  ·by_cases hc:(ji l (k+1):Int)≤m
   ·exact ⟨k+1,by omega,by omega,hc⟩
   ·refine ⟨k,by omega,by omega,?_⟩
    unfold ji at hc ⊢;omega
theorem F5{l:List Int}{m:Int}{i:Nat}(hf:ie l)(h2:3≤l.length)(hm:∀ k (h:k<l.length),l[k]≤m)(hb:dm (jh l) (l.length - 2) i):(jh l i:Int)≤m:=by
 suffices h:∃ j,1≤j∧j≤l.length - 2∧(jh l j:Int)≤m by
  obtain ⟨j,j1,j2,j3⟩:=h;have:=(hb.2 j j1 j2).1;omega
 have B:=fun j hj=>(gU hf j hj).1
 obtain ⟨j,h1,PM,h3⟩:=ui (fun j=>pre l l.length≤pre l j+pre l (j+1)) (l.length - 1) (by
  have:=B (l.length - 1) (by omega);show _≤_;rw [show l.length - 1+1=l.length by omega];omega)
 have K7:j≠0:=by
  rintro rfl;have:=gh hf (0+1) l.length (by omega) (by omega)
  rw [gL] at PM;omega
 obtain ⟨k,rfl⟩ : ∃ k,j=k+1:=⟨j - 1,by omega⟩
 have h4:=h3 k (by omega)
 have hk:=iZ l k (by omega)
 have jv:=iZ l (k+1) (by omega)
 have pC:=hm k (by omega)
 have ah3:=hm (k+1) (by omega)
 have hp:=B k (by omega)
 have hq:=gh hf (k+1+1) l.length (by omega) (aj _)
 by_cases ha:k+1=l.length - 1
 ·refine ⟨k,by omega,by omega,?_⟩
  rw [show k+1+1=l.length by omega] at jv
  unfold jh;omega
 ·by_cases hz:k=0
  ·subst hz;rw [gL] at *;exact ⟨0+1,by omega,by omega,by unfold jh;omega⟩
  ·by_cases hc:(jh l (k+1):Int)≤m
   ·exact ⟨k+1,by omega,by omega,hc⟩
   ·refine ⟨k,by omega,by omega,?_⟩
    unfold jh at hc ⊢;omega
theorem dm.one(f:Nat→Nat):dm f 1 1:=⟨⟨aj _,aj _⟩,fun j h1 h2=>by
 have:j=1:=by omega
 subst this;exact ⟨aj _,fun h=>by omega⟩⟩
theorem dm.Iu{f:Nat→Nat}{k i:Nat}(h:dm f k i)(hf:f (k+1)<f i):dm f (k+1) (k+1) :=
 ⟨⟨by omega,aj _⟩,fun j h1 h2=>by
  by_cases hj:j=k+1
  ·subst hj;exact ⟨aj _,fun h=>by omega⟩
  ·have:=(h.2 j h1 (by omega)).1
   exact ⟨by omega,fun _=>by omega⟩⟩
theorem dm.It{f:Nat→Nat}{k i:Nat}(h:dm f k i)(hf:¬ f (k+1)<f i):dm f (k+1) i :=
 ⟨⟨h.1.1,by have:=h.1.2;omega⟩,fun j h1 h2=>by
  by_cases hj:j=k+1
  ·subst hj;exact ⟨by omega,fun h'=>by have:=h.1.2;omega⟩
  ·exact h.2 j h1 (by omega)⟩
theorem Ta{l:List Int}(hf:ie l)(j:Nat)(h1:1≤j)(h2:j+1≤l.length):(ji l j:Int)<pre l l.length:=by
 have a:=gh hf 0 j (by omega) (by omega)
 have b:=gh hf j l.length (by omega) (by omega)
 rw [gL] at a;unfold ji;omega
theorem S9{l:List Int}(hf:ie l)(j:Nat)(h1:1≤j)(h2:j+2≤l.length):(jh l j:Int)<pre l l.length:=by
 have a:=gh hf 0 j (by omega) (by omega)
 have b:=gh hf (j+1) l.length (by omega) (by omega)
 have c:=gh hf j (j+1) (by omega) (by omega)
 rw [gL] at a;unfold jh;omega
open Go.RowKit Go.ChangeShapes
def Og(x:String × List UInt8):String × DataW Unit:=(x.1,.iface "*errors.errorString" (.ptr (.agg [.lit (.string x.2)])))
def gZ:DataW Unit→List UInt8
 | .iface _ (.ptr (.agg [.lit (.string t)]))=>t
 | _=>[]
theorem Qf:prog.cellsOf 9=1:=by kernel_rfl
theorem Qk:prog.cellsOf 375=1:=by kernel_rfl
theorem star : "*" ++ "errors.errorString" = "*errors.errorString" := by decide
theorem Vq(u:TypeId)(h:prog.typeName? 3 u=some "*errors.errorString"):u=360 :=
 typeName_ptr_named (nm := "errors.errorString") (by rw [star];kernel_rfl) (by kernel_rfl) (by decide) u (by rw [star];exact h)
theorem Jm:(prog.info? 360).map (·.comparable)=some true:=by kernel_rfl
theorem Iv:(prog.info? 375).map (·.size)=some 1:=by kernel_rfl
theorem Yd{W:World}:∀ (l:List (String × List UInt8)) (rest:List (String × DataW Unit)) (G:Nat→Nat) (ps:List MemPlace),(∀ i x,l[i]?=some x→prog.globalNamed x.1=some (G i)∧(prog.globals[G i]?).map (·.type)=some 32)→DataW.LaidVars prog W (l.map Og++rest) ps→ps.Nodup→(∀ b off,MemPlace.cell b off ∈ ps→(∃ c t,W.heap[b]?=some (.cells c t (0,0)))∧∀ u v,W.cell? ⟨b,off,none⟩=some (.iface u v)→Value.okWide prog W .any 0 u v)→∃ xs:List Addr,xs.length=l.length∧(∀ i a,xs[i]?=some a→W.cell? ⟨G i,0,none⟩=some (.iface 360 (.pointer (some a)))∧∃ c t,W.heap[a.block]?=some (.cells c t (0,0)))∧xs.Nodup∧(∀ a ∈ xs,MemPlace.cell a.block a.off ∈ ps)∧∃ qs,DataW.LaidVars prog W rest qs∧qs.Nodup∧(∀ x ∈ qs,x ∈ ps):=by
 intro l;induction l with
 | nil =>
  intro rest G ps _ hv jo _;exact ⟨[],rfl,fun i a h=>by simp at h,List.nodup_nil,fun a h=>by simp at h,ps,hv,jo,fun x h=>h⟩
 | cons x r ih =>
  intro rest G ps hg hv jo DX;obtain ⟨g,t,cs,fuel,p,q,fG,DV,SF,hd,hq,rfl⟩:=hv;obtain ⟨k1,k2⟩:=hg 0 x rfl;obtain rfl:=Option.some.inj (k1.symm.trans fG);obtain rfl:=Option.some.inj (k2.symm.trans DV);obtain ⟨l0⟩:=cs;have ok0:∀ u v,l0=[.iface u v]→Value.okWide prog W .any 0 u v:=fun u v e=>by
   subst e;exact (DX (G 0) 0 (by simp [MemPlace.row])).2 u v (by simpa using World.var?_cell fG SF 0)
  obtain ⟨a,s,rfl,hc,hs,hz,rfl⟩:=errorString_of_trod underlying32 Vq underlying360 underlying375 rfl rfl underlying9 Qk Qf hd ok0;have uR:=jo;rw [ax] at uR;have Xq:=(List.nodup_append.1 (List.nodup_append.1 uR).2.1);obtain ⟨xs,h1,h2,h3,h4,qs,h5,h6,h7⟩:=ih rest (fun i=>G (i+1)) q (fun i y hy=>hg (i+1) y (by simpa using hy)) hq Xq.2.1 (fun b off hm=>DX b off (cd _ hm))
  refine ⟨a::xs,by simp [h1],?_,?_,?_,qs,h5,h6,fun y hy=>cd _ (h7 y hy)⟩
  ·intro i b hb;cases i with
   | zero =>
    simp only [List.getElem?_cons_zero,Option.some.injEq] at hb;subst hb;exact ⟨by simpa using World.var?_cell fG SF 0,(DX a.block a.off (by simp [MemPlace.row])).1⟩
   | succ i =>
    exact h2 i b (by simpa using hb)
  ·refine List.nodup_cons.2 ⟨fun hm=>?_,h3⟩
   exact Xq.2.2 (.cell a.block a.off) (by simp [MemPlace.row]) (.cell a.block a.off) (h4 a hm) rfl
  ·intro b hb;rcases List.mem_cons.1 hb with rfl | hb
   ·simp [MemPlace.row]
   ·exact cd _ (h4 b hb)
def dA(n:Nat)(G:Nat→Nat)(A:Nat→Addr)(w:World):Prop :=
 (∀ i,i<n→w.cell? ⟨G i,0,none⟩=some (.iface 360 (.pointer (some (A i))))∧∃ c t,w.heap[(A i).block]?=some (.cells c t (0,0)))∧(∀ i j,i<n→j<n→A i=A j→i=j)
theorem dA.keep{n:Nat}{G:Nat→Nat}{A:Nat→Addr}{w w':World}(h:dA n G A w)(hb:Below w.heap.size w w'):dA n G A w':=by
 refine ⟨fun i hi=>?_,h.2⟩
 obtain ⟨h1,c,t,h2⟩:=h.1 i hi;have bN:G i<w.heap.size:=World.block_lt_of_cell? w _ h1;have SV:(A i).block<w.heap.size:=by
  rcases bg (A i).block w.heap.size with h' | h'
  ·exact h'
  ·rw [aX h'] at h2;cases h2
 exact ⟨(hb.cell (p:=⟨G i,0,none⟩) bN).trans h1,c,t,by rw [hb.block _ SV];exact h2⟩
theorem Te{W:World}{l:List (String × List UInt8)}{rest:List (String × DataW Unit)}{n:Nat}(G:Nat→Nat)(hl:l.length=n)(hg:∀ i x,l[i]?=some x→prog.globalNamed x.1=some (G i)∧(prog.globals[G i]?).map (·.type)=some 32)(h:laidMet prog (l.map Og++rest) W):∃ A,dA n G A W∧∃ qs,DataW.LaidVars prog W rest qs∧qs.Nodup:=by
 obtain ⟨ps,hv,jo,DX⟩:=h;obtain ⟨xs,h1,h2,h3,_,qs,h5,h6,_⟩:=Yd l rest G ps hg hv jo DX;refine ⟨fun i=>xs.getD i default,⟨fun i hi=>?_,fun i j hi hj he=>?_⟩,qs,h5,h6⟩
 ·have:xs[i]?=some (xs.getD i default):=by
   rw [List.getD,af (by omega)];rfl
  exact h2 i _ this
 ·have mh:i<xs.length:=by omega
  have lL:j<xs.length:=by omega
  simp only [List.getD,af mh,af lL,lP] at he;have hp:=List.pairwise_iff_getElem.1 h3;rcases Nat.lt_trichotomy i j with h | h | h
  ·exact absurd he (hp i j mh lL h)
  ·exact h
  ·exact absurd he.symm (hp j i lL mh h)
theorem Tf(A:Nat→Addr)(i:Nat)(w:World):(binOp .eql 32 (.iface 360 (.pointer (some (A i)))) (.iface 360 (.pointer (some (A i))))).run prog w = .ok (.bool true) w:=by
 obtain ⟨i1,hi,Wf⟩:=Option.map_eq_some_iff.1 Jm;obtain ⟨j,hj,_⟩:=Option.map_eq_some_iff.1 Iv;exact run_eql_iface_ptr_same w _ underlying32 underlying360 hi Wf hj
theorem PV{n:Nat}{G:Nat→Nat}(A:Nat→Addr)(i k:Nat)(w:World)(h:dA n G A w)(hi:i<n)(hk:k<n)(dE:i≠k):(binOp .eql 32 (.iface 360 (.pointer (some (A i)))) (.iface 360 (.pointer (some (A k))))).run prog w = .ok (.bool false) w:=by
 obtain ⟨i1,B8,Wf⟩:=Option.map_eq_some_iff.1 Jm;obtain ⟨j,hj,hjs⟩:=Option.map_eq_some_iff.1 Iv;obtain ⟨_,c,t,hb⟩:=h.1 i hi;obtain ⟨_,c',t',MI⟩:=h.1 k hk;exact run_eql_iface_ptr_other w underlying32 underlying360 B8 Wf hj (by rw [hjs];decide) (fun he=>dE (h.2 i k hi hk he)) hb MI
def eR(i:Nat):Nat:=([0,1,2,3,4,5,6,7,8,9,10,11,12] : List Nat).getD i 0
abbrev Xe(A:Nat→Addr)(w:World):Prop:=dA 13 eR A w
end Go.Proofs.YtihmgigfkmofnaaGreatDoor
namespace Go.Proofs.YtihmgigfkmofnaaGreatDoor
open Go.RowKit
def EX(w:World)(v:Value)(l:List Int):Prop:=∃ a cap,v = .slice a l.length cap∧l.length≤cap∧∀ j (h:j<l.length),∃ g o,a=some ⟨g,o,none⟩∧w.cell? ⟨g,o+j,none⟩=some (.int .i64 l[j])
theorem EX.below{w w':World}{v:Value}{l:List Int}(h:EX w v l)(hb:Below w.heap.size w w'):EX w' v l:=by
 obtain ⟨a,cap,rfl,hle,hc⟩:=h;refine ⟨a,cap,rfl,hle,fun j hj=>?_⟩
 obtain ⟨g,o,ha,bh⟩:=hc j hj;exact ⟨g,o,ha,(hb.cell (p:=⟨g,o+j,none⟩) (World.block_lt_of_cell? w _ bh)).trans bh⟩
theorem Ew(a b:Int)(w:World)(ha:0≤a∧a≤1152921504606846976)(hb:0≤b∧b≤1152921504606846976):Calls prog 237 #[.int .i64 a,.int .i64 b] w fun e w'=>e = .returned (.int .i64 ((a - b).natAbs:Int))∧w=w':=by
 obtain ⟨a0,a1⟩:=ha;obtain ⟨b0,b1⟩:=hb;go_enter func237,ntmps237;go_wp2
 all_goals
  go_ret;exact ⟨IA (by omega),rfl⟩
theorem xw(n:Int)(w:World):Calls prog 262 #[.int .i64 n] w fun e w'=>e = .returned (.bool (decide (1≤n∧n≤4072)))∧w=w':=by
 by_cases h1:1≤n
 ·by_cases h2:n≤4072
  ·have e1:decide (1≤n∧n≤4072)=true:=decide_eq_true ⟨h1,h2⟩;rw [e1];go_enter func262,ntmps262;go_wp2;go_ret;exact ⟨rfl,rfl⟩
  ·have e1:decide (1≤n∧n≤4072)=false:=decide_eq_false (fun h=>h2 h.2)
   rw [e1];go_enter func262,ntmps262;go_wp2;go_ret;exact ⟨rfl,rfl⟩
 ·have e1:decide (1≤n∧n≤4072)=false:=decide_eq_false (fun h=>h1 h.1)
  rw [e1];go_enter func262,ntmps262;go_wp2;go_ret;exact ⟨rfl,rfl⟩
theorem oN(x:Int)(h0:0≤x)(h1:x≤2305843009213693952):IntKind.i64.wrap x=x:=by
 rw [IntKind.wrap_i64];omega
theorem Iq(a:Option Addr)(cap n:Nat)(l:List Int)(w:World)(hm:n≤17592186044416)(e1:l.length=n)(h1:∀ j (h:j<l.length),∃ g o,a=some ⟨g,o,none⟩∧w.cell? ⟨g,o+j,none⟩=some (.int .i64 l[j])):Calls prog 254 #[.slice a n cap] w fun e w'=>((ie l∧e = .returned (.tuple #[.int .i64 (pre l n),.bool true]))∨(¬ ie l∧e = .returned (.tuple #[.int .i64 0,.bool false])))∧w=w':=by
 have HE:Hid (l.length=n):=e1;have H1:=ab h1;clear e1 h1;have HP:=ab (gL l);go_enter func254,ntmps254;go_wp2;go_loop [4,9] (fun r i=>∃ k:Nat,k≤n∧i = .int .i64 k∧(∀ j (h:j<l.length),j<k→1≤l[j]∧l[j]≤4072)∧(0≤pre l k∧pre l k≤4072*(k:Int))∧r = .int .i64 (pre l k)) (fun _ i=>n - (intOf i).toNat)
 case atStart=>exact ⟨0,aD _,rfl,fun j h h'=>by omega,by rw [HP.out];omega,by rw [HP.out]⟩
 case round =>
  obtain ⟨k,hk,rfl,hf,Fh,rfl⟩:=hrel;have HF:=ab hf;clear hf;by_cases bN:k<n
  ·have jv:k<l.length:=by have:=HE.out;omega
   obtain ⟨g,o,rfl,f1⟩:=H1.out k jv;have HS:=ab (iZ l k jv);obtain ⟨x,hx⟩ : ∃ x,x=l[k]:=⟨_,rfl⟩;rw [← hx] at f1;have HX:=ab hx;clear hx H1 HP;obtain ⟨p,hp⟩ : ∃ p,p=pre l k:=⟨_,rfl⟩;rw [← hp] at Fh ⊢;have HPP:=ab hp;have HB:=ab Fh;clear hp Fh;by_cases Xk:1≤x∧x≤4072
   ·have HI:Hid (∀ w,Calls prog 262 #[.int .i64 x] w fun e w'=>e = .returned (.bool true)∧w=w'):=fun w=>by
     have h:=xw x w;rw [decide_eq_true Xk] at h;exact h
    have hw:IntKind.i64.wrap (p+x)=p+x:=oN _ (by have:=HB.out;omega) (by have:=HB.out;omega)
    have Ju:=ab Xk;clear Xk;go_wp2_with (go_at_call 262;refine (HI.out _).mono ?_;rintro e w' ⟨rfl,rfl⟩)
    go_round
    case rel =>
     refine ⟨k+1,by omega,by go_num,fun j hj hjk=>?_,?_,?_⟩
     ·by_cases hjj:j=k
      ·subst hjj;rw [← HX.out];exact Ju.out
      ·exact HF.out j hj (by omega)
     ·have:=HS.out;have:=HPP.out;have:=HX.out;have:=HB.out;have:=Ju.out;omega
     ·rw [HS.out,← HPP.out,← HX.out]
    case measure=>simp [intOf];omega
   ·have HI:Hid (∀ w,Calls prog 262 #[.int .i64 x] w fun e w'=>e = .returned (.bool false)∧w=w'):=fun w=>by
     have h:=xw x w;rw [decide_eq_false Xk] at h;exact h
    have TV:Hid (¬ ie l):=fun hf=>Xk (by have:=hf k jv;rw [← HX.out] at this;exact this)
    clear Xk;go_wp2_with (go_at_call 262;refine (HI.out _).mono ?_;rintro e w' ⟨rfl,rfl⟩)
    go_ret2;exact ⟨.inr ⟨TV.out,rfl⟩,rfl⟩
  ·have nM:k=n:=by omega
   clear H1;have rX:Hid (ie l):=fun j hj=>HF.out j hj (by have:=HE.out;omega)
   subst nM;obtain ⟨p,hp⟩ : ∃ p,p=pre l k:=⟨_,rfl⟩;rw [← hp] at Fh ⊢;have HPP:=ab hp;clear Fh HP hp;go_wp2;go_ret2;exact ⟨.inl ⟨rX.out,by rw [← HPP.out];rfl⟩,rfl⟩
theorem P7(p a b:Int)(w:World)(ha:0≤a∧a≤1152921504606846976)(hb:0≤b∧b≤1152921504606846976):Calls prog 236 #[.int .i64 p,.int .i64 a,.int .i64 b] w fun e w'=>e = .returned (.int .i64 ((a - b).natAbs:Int))∧w=w':=by
 have HD:=ab (Ew a b w ha hb);clear ha hb;go_enter func236,ntmps236;go_wp2_with (go_at_call 237;refine HD.out.mono ?_;rintro e w' ⟨rfl,rfl⟩)
 go_ret;exact ⟨rfl,rfl⟩
theorem LA(A:Nat→Addr)(g o cap m n:Nat)(l:List Int)(w:World)(Zk:n≤17592186044416)(fK:1≤m)(hn:n=m+1)(e1:l.length=n)(dd:n≤cap)(hE:dA 4 eR A w)(h1:∀ j (h:j<l.length),w.cell? ⟨g,o+j,none⟩=some (.int .i64 l[j])):Calls prog 235 #[.slice (some ⟨g,o,none⟩) n cap,.int .i64 2,.func (.func 236) #[] #[]] w fun e w'=>((ie l∧∃ i:Nat,e = .returned (.tuple #[.int .i64 (i:Int),.nilIface])∧dm (ji l) m i)∨(¬ ie l∧e = .returned (.tuple #[.int .i64 0,.iface 360 (.pointer (some (A 0)))])))∧Below w.heap.size w w':=by
 have c0:w.cell? ⟨0,0,none⟩=some (.iface 360 (.pointer (some (A 0)))):=(hE.1 0 (by decide)).1
 have HS:=ab (Iq (some ⟨g,o,none⟩) cap n l w (by omega) e1 (fun j h=>⟨g,o,rfl,h1 j h⟩))
 have hm:m≤17592186044416:=by omega
 have HE:Hid (l.length=n):=e1;have HN:Hid (n=m+1):=hn;have H1:=ab h1;have QO:=ab (gL l);have hnI:(n:Int)=(m:Int)+1:=by omega
 have uP:IntKind.i64.wrap ((n:Int) - 2)=(m:Int) - 1:=by rw [IntKind.wrap_i64];omega
 have qp:IntKind.i64.wrap ((m:Int) - 1+1)=(m:Int):=by rw [IntKind.wrap_i64];omega
 have bN:¬ (n:Int)<2:=by omega
 have hmc:(m:Int)≤(cap:Int):=by omega
 have Zn:(0:Int)≤(m:Int):=by omega
 clear e1 hn h1 hE hnI Zk;by_cases hF:ie l
 ·have HT:=ab (gU hF n (by have:=HE.out;omega))
  have HF:=ab hF;have mI:Hid (Calls prog 254 #[.slice (some ⟨g,o,none⟩) n cap] w fun e w'=>e = .returned (.tuple #[.int .i64 (pre l n),.bool true])∧w=w'):=by
   refine HS.out.mono ?_
   rintro e w' ⟨h | h,rfl⟩
   ·exact ⟨h.2,rfl⟩
   ·exact absurd hF h.1
  obtain ⟨T,hT⟩ : ∃ T,T=pre l n:=⟨_,rfl⟩;rw [← hT] at mI HT;have UZ:=ab hT;clear hT HS c0 hF;go_enter func235,ntmps235;go_wp2_with (go_at_call 254;refine mI.out.mono ?_;rintro e w' ⟨rfl,rfl⟩)
  go_loop [8,10,11,12,38] (fun re be le ah i=>∃ (k lO:Nat) (least:Int),k≤m∧i = .int .i64 k∧re = .int .i64 (T - pre l k)∧be = .int .i64 (lO:Int)∧le = .int .i64 least∧ah = .int .i64 (pre l k)∧((k=0∧lO=0∧least=T)∨(1≤k∧dm (ji l) k lO∧least=ji l lO))) (fun _ _ _ _ i=>m - (intOf i).toNat)
  case atStart=>exact ⟨0,0,T,aD _,rfl,by rw [QO.out,Int.sub_zero],rfl,rfl,by rw [QO.out],.inl ⟨rfl,rfl,rfl⟩⟩
  case round =>
   obtain ⟨k,lO,least,hk,rfl,rfl,rfl,rfl,rfl,fj⟩:=hrel;have gS:=ab fj;clear fj;by_cases hltk:k<m
   ·have jv:k<l.length:=by have:=HE.out;have:=HN.out;omega
    have f1:=H1.out k jv;have sr:=ab (iZ l k jv);have HPB:=ab (gU HF.out k (by omega))
    have BW:=ab (gU HF.out (k+1) (by omega))
    have WM:=ab (gh HF.out (k+1) n (by have:=HE.out;have:=HN.out;omega) (by have:=HE.out;omega))
    obtain ⟨x,hx⟩ : ∃ x,x=l[k]:=⟨_,rfl⟩;rw [← hx] at f1 sr;obtain ⟨p,hp⟩ : ∃ p,p=pre l k:=⟨_,rfl⟩;rw [← hp] at HPB sr ⊢;obtain ⟨q,hq⟩ : ∃ q,q=pre l (k+1):=⟨_,rfl⟩;rw [← hq] at BW sr WM;rw [← UZ.out] at WM;have HQ:=ab hq;have Va:Hid ((k:Int)≤17592186044416∧4072*((k:Int)+1)≤72057594037927936):=⟨by omega,by omega⟩
    have TS:Hid (0≤q∧q≤1152921504606846976):=⟨BW.out.1,by have:=BW.out.2;have:=Va.out;omega⟩
    have Cg:Hid (0≤T - q∧T - q≤1152921504606846976):=⟨by have:=WM.out;omega,by have:=HT.out.2;have:=BW.out.1;have:=HN.out;omega⟩
    have vw:IntKind.i64.wrap (p+x)=q:=by rw [← sr.out];exact oN _ TS.out.1 (by have:=TS.out;omega)
    have Q6:IntKind.i64.wrap (T - p - x)=T - q:=by rw [show T - p - x=T - q by have:=sr.out;omega];exact oN _ Cg.out.1 (by have:=Cg.out;omega)
    have MC:IntKind.i64.wrap ((k:Int)+1)=((k+1:Nat):Int):=by rw [IntKind.wrap_i64];omega
    have Xa:Hid (Calls prog 236 #[.int .i64 ((k+1:Nat):Int),.int .i64 q,.int .i64 (T - q)] w fun e w'=>e = .returned (.int .i64 ((ji l (k+1):Nat):Int))∧w=w'):=by
     have h:=P7 ((k+1:Nat):Int) q (T - q) w TS.out Cg.out;have e:ji l (k+1)=(q - (T - q)).natAbs:=by unfold ji;rw [HE.out,← UZ.out,← HQ.out]
     rw [e];exact h
    have WW:=ab (Ta HF.out (k+1) (by omega) (by have:=HE.out;have:=HN.out;omega))
    rw [HE.out,← UZ.out] at WW;obtain ⟨gp,V7⟩ : ∃ gp:Nat,gp=ji l (k+1):=⟨_,rfl⟩;rw [← V7] at Xa WW;have WV:=ab V7;have dP:(k:Int)<(m:Int):=by omega
    clear hx hp hq V7 H1 QO mI;by_cases hless:(gp:Int)<least
    ·have WK:Hid (dm (ji l) (k+1) (k+1)):=by
      rcases gS.out with ⟨rfl,_,_⟩ | ⟨_,hb,he⟩
      ·exact dm.one _
      ·exact hb.Iu (by rw [← WV.out];omega)
     clear gS;go_wp2_with (go_at_call 236;refine (Xa.out).mono ?_;rintro e w' ⟨rfl,rfl⟩)
     go_round
     case rel=>exact ⟨k+1,k+1,gp,by omega,rfl,by rw [← HQ.out],rfl,rfl,by rw [← HQ.out],.inr ⟨by omega,WK.out,by rw [WV.out]⟩⟩
     case measure=>simp [intOf];omega
    ·have BX:Hid (1≤k+1∧dm (ji l) (k+1) lO∧least=ji l lO):=by
      rcases gS.out with ⟨_,_,rfl⟩ | ⟨_,hb,he⟩
      ·exact absurd WW.out hless
      ·exact ⟨by omega,hb.It (by rw [← WV.out];omega),he⟩
     clear gS;go_wp2_with (go_at_call 236;refine (Xa.out).mono ?_;rintro e w' ⟨rfl,rfl⟩)
     go_round
     case rel=>exact ⟨k+1,lO,least,by omega,rfl,by rw [← HQ.out],rfl,rfl,by rw [← HQ.out],.inr BX.out⟩
     case measure=>simp [intOf];omega
   ·have K5:k=m:=by omega
    have nI:Hid (dm (ji l) m lO):=by
     rcases gS.out with ⟨h0,_,_⟩ | ⟨_,hb,_⟩
     ·omega
     ·rw [← K5];exact hb
    subst K5;obtain ⟨p,hp⟩ : ∃ p,p=pre l k:=⟨_,rfl⟩;rw [← hp];clear hp gS H1 mI QO;go_wp2;go_ret2;exact ⟨.inl ⟨HF.out,lO,rfl,nI.out⟩,Below.refl _ _⟩
 ·have mI:Hid (Calls prog 254 #[.slice (some ⟨g,o,none⟩) n cap] w fun e w'=>e = .returned (.tuple #[.int .i64 0,.bool false])∧w=w'):=by
   refine HS.out.mono ?_
   rintro e w' ⟨h | h,rfl⟩
   ·exact absurd h.1 hF
   ·exact ⟨h.2,rfl⟩
  have HF:=ab hF;clear HS hF H1 QO;go_enter func235,ntmps235;go_wp2_with (go_at_call 254;refine mI.out.mono ?_;rintro e w' ⟨rfl,rfl⟩)
  go_quiet (fail)
  go_wp2;go_ret2;exact ⟨.inr ⟨HF.out,rfl⟩,aA (Below.refl _ _) _⟩
theorem Az(A:Nat→Addr)(a:Option Addr)(n cap:Nat)(th:Int)(fv:Value)(w:World)(hn:(n:Int)<th)(_hm:n≤17592186044416)(hE:dA 4 eR A w):Calls prog 235 #[.slice a n cap,.int .i64 th,fv] w fun e w'=>e = .returned (.tuple #[.int .i64 0,.iface 360 (.pointer (some (A 3)))])∧Below w.heap.size w w':=by
 have c0:w.cell? ⟨3,0,none⟩=some (.iface 360 (.pointer (some (A 3)))):=(hE.1 3 (by decide)).1
 clear hE;go_enter func235,ntmps235;go_wp2;go_quiet (fail)
 go_wp2;go_ret2;exact ⟨rfl,aA (Below.refl _ _) _⟩
def Mx(A:Nat→Addr)(th:Nat)(f:Nat→Nat)(l:List Int)(e:Ending):Prop :=
 (l.length<th∧e = .returned (.tuple #[.int .i64 0,.iface 360 (.pointer (some (A 3)))]))∨(th≤l.length∧¬ ie l∧e = .returned (.tuple #[.int .i64 0,.iface 360 (.pointer (some (A 0)))])) ∨
  (th≤l.length∧ie l∧∃ i:Nat,e = .returned (.tuple #[.int .i64 (i:Int),.nilIface])∧dm f (l.length - (th - 1)) i)
theorem To(A:Nat→Addr)(v:Value)(l:List Int)(w:World)(hm:l.length≤17592186044416)(hr:EX w v l)(hE:dA 4 eR A w):Calls prog 210 #[v] w fun e w'=>Mx A 2 (ji l) l e∧Below w.heap.size w w':=by
 obtain ⟨a,cap,rfl,dd,hc⟩:=hr;have H:Hid (Calls prog 235 #[.slice a l.length cap,.int .i64 2,.func (.func 236) #[] #[]] w fun e w'=>∃ x y,e = .returned (.tuple #[x,y])∧Mx A 2 (ji l) l (.returned (.tuple #[x,y]))∧Below w.heap.size w w'):=by
  by_cases hs:l.length<2
  ·refine (Az A a l.length cap 2 _ w (by omega) hm hE).mono ?_
   rintro e w' ⟨rfl,hb⟩;exact ⟨_,_,rfl,.inl ⟨hs,rfl⟩,hb⟩
  ·obtain ⟨g,o,rfl,_⟩:=hc 0 (by omega)
   refine (LA A g o cap (l.length - 1) l.length l w hm (by omega) (by omega) rfl dd hE (fun j h=>by obtain ⟨g',o',he,bh⟩:=hc j h;cases he;exact bh)).mono ?_
   rintro e w' ⟨⟨hf,i,rfl,hi⟩ | ⟨hf,rfl⟩,hb⟩
   ·exact ⟨_,_,rfl,.inr (.inr ⟨by omega,hf,i,rfl,hi⟩),hb⟩
   ·exact ⟨_,_,rfl,.inr (.inl ⟨by omega,hf,rfl⟩),hb⟩
 clear hc hE dd;go_enter func210,ntmps210;go_wp2_with (go_at_call 235;refine H.out.mono ?_;rintro e w' ⟨x,y,rfl,hv,hb⟩;have HV:=ab hv;clear hv)
 go_ret2;exact ⟨HV.out,hb⟩
def Ib(th:Nat)(f:Nat→Nat)(l:List Int)(i c:Nat):Prop :=
 (l.length<th∧i=0∧c=4)∨(th≤l.length∧¬ ie l∧i=0∧c=1)∨(th≤l.length∧ie l∧dm f (l.length - (th - 1)) i∧c=0)
def yl(A:Nat→Addr)(ev:Value)(c:Nat):Prop :=
 (ev = .nilIface∧c=0)∨(ev = .iface 360 (.pointer (some (A 0)))∧c=1)∨(ev = .iface 360 (.pointer (some (A 1)))∧c=2)∨(ev = .iface 360 (.pointer (some (A 2)))∧c=3)∨(ev = .iface 360 (.pointer (some (A 3)))∧c=4)
theorem Mx.num{A:Nat→Addr}{th:Nat}{f:Nat→Nat}{l:List Int}{e:Ending}(h:Mx A th f l e):∃ (i c:Nat) (ev:Value),e = .returned (.tuple #[.int .i64 (i:Int),ev])∧Ib th f l i c∧yl A ev c:=by
 rcases h with ⟨h1,rfl⟩ | ⟨h1,hf,rfl⟩ | ⟨h1,hf,i,rfl,hi⟩
 ·exact ⟨0,4,_,rfl,.inl ⟨h1,rfl,rfl⟩,.inr (.inr (.inr (.inr ⟨rfl,rfl⟩)))⟩
 ·exact ⟨0,1,_,rfl,.inr (.inl ⟨h1,hf,rfl,rfl⟩),.inr (.inl ⟨rfl,rfl⟩)⟩
 ·exact ⟨i,0,_,rfl,.inr (.inr ⟨h1,hf,hi,rfl⟩),.inl ⟨rfl,rfl⟩⟩
theorem ni.ints{w:World}{v:Value}{l:List Int}(h:ni w v (ints l)):EX w v l:=by
 obtain ⟨a,cap,rfl,hle,_,hc⟩:=h;rw [jW] at hle ⊢;exact ⟨a,cap,rfl,hle,fun j hj=>hc j _ (OQ l j hj)⟩
namespace B
theorem uA(p:Lk)(w:World)(h1:p.1.size≤140737488355328):Calls prog 194 #[.agg #[.string p.1,.int .i64 p.2]] w fun e w'=>e = .returned (.int .i64 (yu p:Int))∧Below w.heap.size w w':=by
 have eU:=ai w (.cells #[.string p.1,.int .i64 p.2] 179);have vw:IntKind.i64.wrap (7+(p.1.size:Int))=(yu p:Int):=by rw [IntKind.wrap_i64];unfold yu;omega
 go_enter func194,ntmps194;go_wp2;go_ret;exact ⟨rfl,eU⟩
def lW(l:List Lk):List Int:=l.map fun p=>(yu p:Int)
theorem qS(l:List Lk):(lW l).length=l.length:=by simp [lW]
theorem vU(l:List Lk)(k:Nat)(h:k<l.length):lW (l.take (k+1))=lW (l.take k)++[(yu l[k] : Int)]:=by
 unfold lW;rw [ay h,bt];rfl
def nY(l:List Lk)(k:Nat):List Value:=ints (lW (l.take k))++List.replicate (l.length - k) (.int .i64 0)
theorem JZ(l:List Lk)(k:Nat)(h:k<l.length):(nY l k).set k (.int .i64 (yu l[k] : Int))=nY l (k+1):=by
 have hl:(ints (lW (l.take k))).length=k:=by rw [jW,qS,ag];omega
 unfold nY;rw [bV _ _ (by omega),hl,dL,vU l k h,ox,show l.length - k=l.length - (k+1)+1 by omega,List.replicate_succ,List.set_cons_zero,ax]
 rfl
theorem J0(l:List Lk)(k:Nat)(h:k≤l.length):(nY l k).length=l.length:=by
 unfold nY;rw [ae,jW,qS,ag,bu];omega
theorem FL(l:List Lk):nY l 0=List.replicate l.length (.int .i64 0):=by simp [nY,ints,lW]
theorem J1(l:List Lk):nY l l.length=ints (lW l):=by simp [nY]
theorem iN{w w':World}{base e n:Nat}{v:Value}{xs:List Value}(h:w.ownsRow base e 1 v n xs)(hb:Below w.heap.size w w'):w'.ownsRow base e 1 v n xs:=by
 refine ⟨h.1,?_⟩;rcases h.2 with h' | ⟨g,cap,cur,h',h1,h2,hr⟩
 ·exact .inl h'
 ·refine .inr ⟨g,cap,cur,h',h1,?_,hr⟩;have hg:g<w.heap.size:=by
   rcases bg g w.heap.size with h' | h'
   ·exact h'
   ·rw [aX h'] at h2;cases h2
  rw [hb.block g hg];exact h2
theorem Hg(v:Value)(l:List Lk)(w:World)(cN:UX l)(hm:l.length≤5864062014805)(hr:di w v l):Calls prog 214 #[v] w fun e w'=>∃ u,e = .returned u∧EX w' u (lW l)∧Below w.heap.size w w':=by
 obtain ⟨i0,hi,hz,b7,kF⟩:=info_parts info3;obtain ⟨a,cap,rfl,dd,_,hc⟩:=hr;have HC:=ab hc;have pw:=ab cN;obtain ⟨wm,pC,fP,pR⟩:=run_make_full (P:=prog) w w.heap.size 69 3 i0 _ 1 underlying69 hi hz b7 .i64 .i64 l.length (by rw [kF];omega) (by unfold maxLen;omega) (aj _)
 have nK:(madeCells (Value.int .i64 0).cells (l.length*1)).toList=nY l 0:=by
  rw [FL,Nat.mul_one];exact toList_madeCells_one _ _
 rw [nK] at fP;have Ca:Below w.heap.size w wm:=(Below.refl _ _).grown pR (aj _) (fun j hj=>by cases hj)
 obtain ⟨n,hn⟩ : ∃ n,n=l.length:=⟨_,rfl⟩;obtain ⟨b,hb⟩ : ∃ b,b=w.heap.size:=⟨_,rfl⟩;rw [← hn] at hm pC fP ⊢;rw [← hb] at pC fP;have HN:=ab hn;have HB:=ab hb;have HO:=ab fP;have JA:=ab Ca;clear hc hn dd cN hb fP Ca pR hi hz b7 kF nK;go_enter func214,ntmps214;go_wp2;clear pC;go_loopw [11] (fun i wr=>∃ k:Nat,k≤n∧i = .int .i64 k∧wr.ownsRow b 3 1 (.slice (some ⟨b,0,none⟩) n n) n (nY l k)∧Below w.heap.size w wr) (fun i _=>n - (intOf i).toNat)
 case atStart=>exact ⟨0,aD _,rfl,HO.out,JA.out⟩
 case round =>
  obtain ⟨k,hk,rfl,aE,bO⟩:=hrel;clear HO JA;by_cases bN:k<n
  ·have cL:k<l.length:=by have:=HN.out;omega
   obtain ⟨g,o,rfl,f1,f2⟩:=HC.out k cL;have c1:wr.cell? ⟨g,o+k*2,none⟩=some (.string l[k].1):=(bO.cell (p:=⟨g,o+k*2,none⟩) (World.block_lt_of_cell? w _ f1)).trans f1;have c2:wr.cell? ⟨g,o+k*2+1,none⟩=some (.int .i64 l[k].2):=(bO.cell (p:=⟨g,o+k*2+1,none⟩) (World.block_lt_of_cell? w _ f2)).trans f2;have Ao:=pw.out l[k] (aG _);have ir:=ab (JZ l k cL);have eU:=ai wr (.cells #[.string l[k].1,.int .i64 l[k].2] 179);have qP:=ab (iN aE eU);have bP:=ab (Below.next bO eU);have HZ:=ab (fun W=>uA l[k] W Ao)
   obtain ⟨p,hp⟩ : ∃ p,p=l[k]:=⟨_,rfl⟩;rw [← hp] at c1 c2 ir qP bP HZ;have kH:=ab (J0 l k (by omega))
   have dP:(k:Int)<(n:Int):=by omega
   have j0:(0:Int)≤(k:Int):=by omega
   clear hp HC f1 f2 bO aE Ao eU;go_wp2_with fail;refine (HZ.out _).mono ?_
   rintro e w1 ⟨rfl,aL⟩;have lp:=iN qP.out aL;have q1:∃ u,w1.cell? ⟨b,k,none⟩=some u:=by
    rw [World.ownsRow.cellAt lp k (by omega)]
    exact ⟨_,af (by rw [kH.out];exact cL)⟩
   obtain ⟨u,q1⟩:=q1;have z1:w1.frozen? ⟨b,k,none⟩=false:=World.ownsRow.frozenAt lp k;obtain ⟨z,hz⟩ : ∃ z,z=yu p:=⟨_,rfl⟩;rw [← hz] at ir ⊢;have fj:=(World.ownsRow.stored lp k (.int .i64 (z:Int))).1;rw [ir.out] at fj;have jP:=ab fj;have bH:Hid (Below w.heap.size w (w1.setCell ⟨b,k,none⟩ (.int .i64 (z:Int)))):=(Below.next bP.out aL).setCell (by rw [HB.out];exact aj _) _
   clear aL bP HZ c1 c2 lp fj hz ir qP;go_wp2;go_roundw
   case rel=>exact ⟨k+1,by omega,by go_num,jP.out,bH.out⟩
   case measure=>simp [intOf];omega
  ·have nM:k=l.length:=by have:=HN.out;omega
   rw [nM,J1] at aE;have HI:=ab (fT aE).ints;have jQ:=ab bO;have dP:¬ (k:Int)<(n:Int):=by have:=HN.out;omega
   have U9:=ab nM;clear HC bO aE nM;go_wp2;go_ret;exact ⟨_,rfl,HI.out,jQ.out⟩
theorem ow(ad:Addr)(n cap:Nat)(l:List Lk)(w:World)(hm:l.length≤5864062014805)(hn:l.length=n)(hr:di w (.slice (some ad) n cap) l):Calls prog 209 #[.slice (some ad) n cap] w fun e w'=>∃ u,e = .returned u∧b6 w' w.heap.size u l∧Below w.heap.size w w':=by
 have qu:∀ w,(binOp .eql 148 (.slice (some ad) n cap) (.slice none 0 0)).run prog w = .ok (.bool false) w:=fun w=>by
  have h2:∀ d:Nat,(Op.equalIn (d+1) 148 (.slice (some ad) n cap) (.slice none 0 0)).run prog w = .ok false w:=fun d=>by
   simp [Op.equalIn,run_underlying underlying148]
  simp only [binOp];simp [Op.equal,Op.maxDepth,h2 9999]
 have eU:=ai w (.cells #[] 179);have ho:b6 (w.alloc (.cells #[] 179)) w.heap.size (.slice (some ⟨w.heap.size,0,none⟩) 0 0) []:=World.ownsRow_lit w #[] 0 (aj _) (aD _) rfl;obtain ⟨a1,c1,w1,bn,aE,hg⟩:=fi w.heap.size _ _ [] l _ ho (hr.below eU) (by simp;omega) (by simp)
 rw [List.length_nil,Nat.zero_add,hn] at bn aE;rw [List.nil_append] at aE;have aL:Below w.heap.size w w1:=eU.grown hg (by simp) (fun k hk=>by simp [Value.ownBlock] at hk;omega)
 have HO:=ab aE;have HB:=ab aL;clear hr eU ho aE hg aL;go_enter func209,ntmps209;go_wp2_with (first | (at_builtin;refine wpList_append_run 148 rfl (.tmp 5) (.tmp 6) rfl rfl _ _ rfl rfl _ _ bn ?_))
 clear bn;go_ret;exact ⟨_,rfl,HO.out,HB.out⟩
theorem eM(v:Value)(l:List Lk)(w:World)(hm:l.length≤5864062014805)(hr:di w v l):Calls prog 209 #[v] w fun e w'=>∃ u,e = .returned u∧b6 w' w.heap.size u l∧Below w.heap.size w w':=by
 obtain ⟨a,c,hv⟩:=hr.form;subst hv;cases a with
 | some ad=>exact ow ad l.length c l w hm rfl hr
 | none =>
  have h0:l=[]∧c=0:=by
   obtain ⟨a',c',he,_,hn,hc⟩:=hr;cases he;refine ⟨?_,hn rfl⟩;cases l with
   | nil=>rfl
   | cons p r=>obtain ⟨g,o,he,_⟩:=hc 0 (by simp);cases he
  obtain ⟨rfl,rfl⟩:=h0;have qu:∀ w,(binOp .eql 148 (.slice none 0 0) (.slice none 0 0)).run prog w = .ok (.bool true) w:=fun w=>by
   have h2:∀ d:Nat,(Op.equalIn (d+1) 148 (.slice none 0 0) (.slice none 0 0)).run prog w = .ok true w:=fun d=>by
    simp [Op.equalIn,run_underlying underlying148]
   simp only [binOp];simp [Op.equal,Op.maxDepth,h2 9999]
  clear hr;rw [List.length_nil];go_enter func209,ntmps209;go_wp2;go_ret;exact ⟨_,rfl,b6.nil _ _,Below.refl _ _⟩
end B
end Go.Proofs.YtihmgigfkmofnaaGreatDoor
