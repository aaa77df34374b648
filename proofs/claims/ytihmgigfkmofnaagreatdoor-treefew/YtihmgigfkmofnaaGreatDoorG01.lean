import Derived.Test.YtihmgigfkmofnaaGreatDoorG00
import Derived.Laws.ResultCell
import GoSem.Claim
import GoSem.ClaimJoined
import GoSem.ClaimMapViews
import Derived.JoinedTies
import Derived.RowKit
import Derived.LaidLaws
import Derived.LaidEql
import Derived.Deep.RegionHeld3
set_option maxHeartbeats 4000000
set_option maxRecDepth 100000
open Go.Proofs.Tryz
namespace Go.Proofs.YtihmgigfkmofnaaGreatDoor
namespace B
open Go.RowKit
theorem aK{P:Program}{fn:Func}{p u:Tmp}{ty:TypeId}(h:fn.results=#[.cell p ty,.tmp u])(tmps:Array Value)(w:World)(g:Nat)(t:TypeId)(cs:Array Value)(fr:Nat × Nat)(d:TypeDesc)(hp:tmps.getD p undef = .pointer (some ⟨g,0,none⟩))(hg:w.heap[g]?=some (.cells cs t fr))(hu:P.underlying ty=some d)(hd:(match d with | .struct _ | .array _ _=>true | _=>false)=true)(hi:(P.info? ty).map (·.size)=some cs.size):(results fn tmps).run P w = .ok (.tuple #[.agg cs,tmps.getD u undef]) w:=by
 rw [results_cell_tmp h tmps P w,hp];simp [asAddr,run_loadVar_row w g t ty cs fr d hg hu hd hi,Result.andThen]
theorem wV{fn:Func}{p q u v:Tmp}{t1 t2:TypeId}(h:fn.results=#[.cell p t1,.tmp u,.cell q t2,.tmp v])(tmps:Array Value)(P:Program)(w:World):(results fn tmps).run P w=((asAddr (tmps.getD p undef)).run P w).andThen fun a w₁=>((loadVar t1 a).run P w₁).andThen fun x w₂=>((asAddr (tmps.getD q undef)).run P w₂).andThen fun b w₃=>((loadVar t2 b).run P w₃).andThen fun y w₄=>.ok (.tuple #[x,tmps.getD u undef,y,tmps.getD v undef]) w₄:=by
 simp only [results,h];simp [Sem.run_bind,Result.andThen]
theorem pW{P:Program}{fn:Func}{p q u v:Tmp}{ty t2:TypeId}(h:fn.results=#[.cell p ty,.tmp u,.cell q t2,.tmp v])(tmps:Array Value)(w:World)(g1 g2:Nat)(t t':TypeId)(cs cs2:Array Value)(fr fr2:Nat × Nat)(d d2:TypeDesc)(hp:tmps.getD p undef = .pointer (some ⟨g1,0,none⟩))(hq:tmps.getD q undef = .pointer (some ⟨g2,0,none⟩))(hg:w.heap[g1]?=some (.cells cs t fr))(zJ:w.heap[g2]?=some (.cells cs2 t' fr2))(hu:P.underlying ty=some d)(hu2:P.underlying t2=some d2)(hd:(match d with | .struct _ | .array _ _=>true | _=>false)=true)(KX:(match d2 with | .struct _ | .array _ _=>true | _=>false)=true)(hi:(P.info? ty).map (·.size)=some cs.size)(sj:(P.info? t2).map (·.size)=some cs2.size):(results fn tmps).run P w = .ok (.tuple #[.agg cs,tmps.getD u undef,.agg cs2,tmps.getD v undef]) w:=by
 rw [wV h tmps P w,hp,hq];simp [asAddr,run_loadVar_row w g1 t ty cs fr d hg hu hd hi,run_loadVar_row w g2 t' t2 cs2 fr2 d2 zJ hu2 KX sj,Result.andThen]
theorem vE{w:World}{b:Nat}{x y:Value}{t:TypeId}(h:w.heap[b]?=some (.cells #[x,y] t (0,0)))(x' y':Value):((w.setCell ⟨b,0,none⟩ x').setCell ⟨b,1,none⟩ y').heap[b]?=some (.cells #[x',y'] t (0,0)):=by
 rw [heap_setCell_same _ b 1 _ t _ (heap_setCell_same w b 0 _ t _ h)];rfl
theorem bP{B:Nat}{w0 w:World}{b:Nat}{x y:Value}(h:Below B w0 w)(hb:B≤b):Below B w0 ((w.setCell ⟨b,0,none⟩ x).setCell ⟨b,1,none⟩ y):=(h.setCell hb _).setCell hb _
def au(w:World)(b:Nat)(cs:Array Value)(t:TypeId):Prop:=w.heap[b]?=some (.cells cs t (0,0))
theorem au.cell{w:World}{b:Nat}{cs:Array Value}{t:TypeId}(h:au w b cs t)(j:Nat)(hj:j<cs.size):w.cell? ⟨b,j,none⟩=some cs[j]:=by
 rw [cell_of_row _ _ _ _ _ _ h];simp [hj]
theorem au.c0{w:World}{b:Nat}{x y:Value}{t:TypeId}(h:au w b #[x,y] t):w.cell? ⟨b,0,none⟩=some x:=h.cell 0 (by simp)
theorem au.c1{w:World}{b:Nat}{x y:Value}{t:TypeId}(h:au w b #[x,y] t):w.cell? ⟨b,1,none⟩=some y:=h.cell 1 (by simp)
theorem au.free{w:World}{b:Nat}{cs:Array Value}{t:TypeId}(h:au w b cs t)(j:Nat):w.frozen? ⟨b,j,none⟩=false:=frozen_of_row _ _ _ _ _ h
theorem au.lt{w:World}{b:Nat}{cs:Array Value}{t:TypeId}(h:au w b cs t):b<w.heap.size:=by
 rcases aZ b w.heap.size with h' | h'
 ·exact h'
 ·unfold au at h;rw [aV h'] at h;cases h
theorem au.below{w w':World}{b:Nat}{cs:Array Value}{t:TypeId}(h:au w b cs t)(hb:Below w.heap.size w w'):au w' b cs t:=by
 unfold au;rw [hb.block b h.lt];exact h
theorem au.new(w:World)(cs:Array Value)(t:TypeId):au (w.alloc (.cells cs t)) w.heap.size cs t:=heap_alloc_new w _
theorem au.two{w:World}{b:Nat}{x y:Value}{t:TypeId}(h:au w b #[x,y] t)(x' y':Value):au ((w.setCell ⟨b,0,none⟩ x').setCell ⟨b,1,none⟩ y') b #[x',y'] t:=vE h x' y'
theorem au.other{w:World}{b g j:Nat}{cs:Array Value}{t:TypeId}(h:au w b cs t)(ey:b≠g)(u:Value):au (w.setCell ⟨g,j,none⟩ u) b cs t:=by
 unfold au;rw [Below.heap_setCell _ _ _ _ (fun e=>ey e)];exact h
theorem dm.cap{w:World}{a:Option Addr}{n c:Nat}{l:List Lk}(h:dm w (.slice a n c) l):l.length≤c:=by
 obtain ⟨_,_,he,h,_⟩:=h;cases he;exact h
theorem I3(p:Lk):∀ (l:List Lk) (k:Nat),((bg l).set (k*2) (.string p.1)).set (k*2+1) (.int .i64 p.2)=bg (l.set k p)
 | [],k=>by simp [bg]
 | q::l,0=>by
  rw [List.set_cons_zero,ee,ee];rfl
 | q::l,k+1=>by
  rw [List.set_cons_succ,ee,ee,← I3 p l k,show (k+1)*2=k*2+1+1 by omega]
  simp only [List.set_cons_succ]
theorem bQ.put{w:World}{base g j:Nat}{v:Value}{l:List Lk}(h:bQ w base v l)(hv:v.ownBlock≠some g)(u:Value):bQ (w.setCell ⟨g,j,none⟩ u) base v l:=by
 refine ⟨h.1,?_⟩;rcases h.2 with h' | ⟨g',cap,cur,h',h1,h2,hr⟩
 ·exact .inl h'
 ·refine .inr ⟨g',cap,cur,h',h1,?_,hr⟩;rw [Below.heap_setCell _ _ _ _ (fun e=>hv (by have:g'=g:=e;rw [h',this];rfl))];exact h2
theorem bQ.cnt{w:World}{base n cap:Nat}{a:Option Addr}{l:List Lk}(h:bQ w base (.slice a n cap) l):n=l.length:=by
 obtain ⟨a',c',he⟩:=h.form;simp only [Value.slice.injEq] at he;exact he.2.1
theorem bQ.wrote{w:World}{base g n cap:Nat}{l:List Lk}(h:bQ w base (.slice (some ⟨g,0,none⟩) n cap) l)(k:Nat)(p:Lk):bQ ((w.setCell ⟨g,k*2,none⟩ (.string p.1)).setCell ⟨g,k*2+1,none⟩ (.int .i64 p.2)) base (.slice (some ⟨g,0,none⟩) n cap) (l.set k p):=by
 obtain rfl:=h.cnt;unfold bQ at h;have:=(World.ownsRow.stored (World.ownsRow.stored h (k*2) (.string p.1)).1 (k*2+1) (.int .i64 p.2)).1;rw [I3] at this;unfold bQ;rw [cu];exact this
theorem bQ.spot{w:World}{base g n cap:Nat}{l:List Lk}(h:bQ w base (.slice (some ⟨g,0,none⟩) n cap) l)(k:Nat)(hk:k<l.length):(∃ u,w.cell? ⟨g,k*2,none⟩=some u)∧(∃ u,w.cell? ⟨g,k*2+1,none⟩=some u)∧w.frozen? ⟨g,k*2,none⟩=false∧w.frozen? ⟨g,k*2+1,none⟩=false:=by
 obtain rfl:=h.cnt;unfold bQ at h;have hq:∀ j,j<l.length*2→∃ u,w.cell? ⟨g,j,none⟩=some u:=fun j hj=>by
  rw [World.ownsRow.cellAt h j hj];exact ⟨_,af (by rw [a7];exact hj)⟩
 exact ⟨hq _ (by omega),hq _ (by omega),World.ownsRow.frozenAt h _,World.ownsRow.frozenAt h _⟩
theorem bQ.has{w:World}{base:Nat}{v:Value}{l:List Lk}(h:bQ w base v l)(hl:0<l.length):∃ g c,v = .slice (some ⟨g,0,none⟩) l.length c∧base≤g∧g<w.heap.size∧l.length≤c:=by
 rcases h.2 with ⟨_,h0⟩ | ⟨g,cap,cur,rfl,h1,h2,h3,_⟩
 ·omega
 ·exact ⟨g,cap,rfl,h1,(h.dy g rfl).2,h3⟩
theorem dm.spot{w:World}{a:Option Addr}{n c:Nat}{l:List Lk}(h:dm w (.slice a n c) l)(j:Nat)(hj:j<l.length):∃ g o,a = .some ⟨g,o,none⟩∧w.cell? ⟨g,o+j*2,none⟩ = .some (.string l[j].1)∧w.cell? ⟨g,o+j*2+1,none⟩ = .some (.int .i64 l[j].2):=by
 obtain ⟨a',c',he,_,_,hc⟩:=h;cases he;exact hc j hj
theorem dL{a b:World}(h:Below a.drew.heap.size a.drew b):Below a.heap.size a b:=⟨h.os,h.tape,h.output,h.size,h.block⟩
theorem bQ.drew{w:World}{base:Nat}{v:Value}{l:List Lk}(h:bQ w base v l):bQ w.drew base v l:=h
theorem dm.drew{w:World}{v:Value}{l:List Lk}(h:dm w v l):dm w.drew v l:=h
theorem au.drew{w:World}{b:Nat}{cs:Array Value}{t:TypeId}(h:au w b cs t):au w.drew b cs t:=h
theorem aR{B:Nat}{a w:World}(h:Below B a w):Below B a w.drew:=⟨h.os,h.tape,h.output,h.size,h.block⟩
theorem bQ.ti{w:World}{base g:Nat}{v:Value}{l:List Lk}(h:bQ w base v l)(hg:g<base)(x y:Value):bQ ((w.setCell ⟨g,0,none⟩ x).setCell ⟨g,1,none⟩ y) base v l:=by
 have hv:v.ownBlock≠some g:=fun e=>by have:=(h.dy g e).1;omega
 exact (h.put hv x).put hv y
end B
def pre(l:List Int)(i:Nat):Int:=(l.take i).sum
theorem gP(l:List Int):pre l 0=0:=by simp [pre]
theorem iY(l:List Int)(i:Nat)(h:i<l.length):pre l (i+1)=pre l i+l[i]:=by
 unfold pre;rw [ay h,jV];simp
def ik(l:List Int):Prop:=∀ i (h:i<l.length),1≤l[i]∧l[i]≤4072
theorem gi{l:List Int}(hf:ik l)(i:Nat):∀ j,i≤j→j≤l.length→pre l i+(j - i:Nat)≤pre l j:=by
 intro j SE;induction j with
 | zero =>
  intro _;have:i=0:=by omega
  subst this;simp
 | succ j ih =>
  intro hj;by_cases h:i=j+1
  ·subst h;simp
  ·have h1:=ih (by omega) (by omega)
   have h2:=iY l j (by omega)
   have h3:=(hf j (by omega)).1
   omega
theorem hO{l:List Int}(hf:ik l):∀ j,j≤l.length→0≤pre l j∧pre l j≤4072*(j:Int):=by
 intro j;induction j with
 | zero=>intro _;rw [gP];omega
 | succ j ih =>
  intro hj;have h1:=ih (by omega)
  have h2:=iY l j (by omega)
  have h3:=hf j (by omega)
  omega
def jd(l:List Int)(i:Nat):Nat:=(pre l i - (pre l l.length - pre l i)).natAbs
def jc(l:List Int)(i:Nat):Nat:=(pre l i - (pre l l.length - pre l (i+1))).natAbs
def di(f:Nat→Nat)(hi i:Nat):Prop:=(1≤i∧i≤hi)∧∀ j,1≤j→j≤hi→f i≤f j∧(j<i→f i<f j)
theorem uN(p:Nat→Prop)[DecidablePred p] : ∀ n,p n→∃ j,j≤n∧p j∧∀ k,k<j→¬ p k:=by
 intro n;induction n using Nat.strongRecOn with
 | ind n ih =>
  intro hp;by_cases h:∃ k,k<n∧p k
  ·obtain ⟨k,hk,ze⟩:=h;obtain ⟨j,h1,h2,h3⟩:=ih k hk ze;exact ⟨j,by omega,h2,h3⟩
  ·exact ⟨n,aj _,hp,fun k hk ze=>h ⟨k,hk,ze⟩⟩
theorem P2{l:List Int}{m:Int}{i:Nat}(hf:ik l)(h2:2≤l.length)(hm:∀ k (h:k<l.length),l[k]≤m)(hb:di (jd l) (l.length - 1) i):(jd l i:Int)≤m:=by
 suffices h:∃ j,1≤j∧j≤l.length - 1∧(jd l j:Int)≤m by
  obtain ⟨j,j1,j2,j3⟩:=h;have:=(hb.2 j j1 j2).1;omega
 obtain ⟨j,h1,PA,h3⟩:=uN (fun j=>pre l l.length≤2*pre l j) l.length (by have:=(hO hf l.length (aj _)).1;show _≤_;omega)
 have T0:=gi hf 0 l.length (by omega) (by omega)
 rw [gP] at T0;have Mu:j≠0:=by rintro rfl;rw [gP] at PA;omega
 obtain ⟨k,rfl⟩ : ∃ k,j=k+1:=⟨j - 1,by omega⟩
 have h4:=h3 k (by omega)
 have hk:=iY l k (by omega)
 have pM:=hm k (by omega)
 have hp:=(hO hf k (by omega)).1
 have hq:=gi hf (k+1) l.length (by omega) (aj _)
 by_cases ha:k+1=l.length
 ·refine ⟨k,by omega,by omega,?_⟩
  rw [ha] at hk;unfold jd;omega
 ·by_cases hz:k=0
  ·subst hz;rw [gP] at *;exact ⟨0+1,by omega,by omega,by unfold jd;omega⟩
  ·by_cases hc:(jd l (k+1):Int)≤m
   ·exact ⟨k+1,by omega,by omega,hc⟩
   ·refine ⟨k,by omega,by omega,?_⟩
    unfold jd at hc ⊢;omega
theorem Gi{l:List Int}{m:Int}{i:Nat}(hf:ik l)(h2:3≤l.length)(hm:∀ k (h:k<l.length),l[k]≤m)(hb:di (jc l) (l.length - 2) i):(jc l i:Int)≤m:=by
 suffices h:∃ j,1≤j∧j≤l.length - 2∧(jc l j:Int)≤m by
  obtain ⟨j,j1,j2,j3⟩:=h;have:=(hb.2 j j1 j2).1;omega
 have B:=fun j hj=>(hO hf j hj).1
 obtain ⟨j,h1,PA,h3⟩:=uN (fun j=>pre l l.length≤pre l j+pre l (j+1)) (l.length - 1) (by
  have:=B (l.length - 1) (by omega);show _≤_;rw [show l.length - 1+1=l.length by omega];omega)
 have Mu:j≠0:=by
  rintro rfl;have:=gi hf (0+1) l.length (by omega) (by omega)
  rw [gP] at PA;omega
 obtain ⟨k,rfl⟩ : ∃ k,j=k+1:=⟨j - 1,by omega⟩
 have h4:=h3 k (by omega)
 have hk:=iY l k (by omega)
 have jm:=iY l (k+1) (by omega)
 have pM:=hm k (by omega)
 have agF:=hm (k+1) (by omega)
 have hp:=B k (by omega)
 have hq:=gi hf (k+1+1) l.length (by omega) (aj _)
 by_cases ha:k+1=l.length - 1
 ·refine ⟨k,by omega,by omega,?_⟩
  rw [show k+1+1=l.length by omega] at jm
  unfold jc;omega
 ·by_cases hz:k=0
  ·subst hz;rw [gP] at *;exact ⟨0+1,by omega,by omega,by unfold jc;omega⟩
  ·by_cases hc:(jc l (k+1):Int)≤m
   ·exact ⟨k+1,by omega,by omega,hc⟩
   ·refine ⟨k,by omega,by omega,?_⟩
    unfold jc at hc ⊢;omega
theorem di.one(f:Nat→Nat):di f 1 1:=⟨⟨aj _,aj _⟩,fun j h1 h2=>by
 have:j=1:=by omega
 subst this;exact ⟨aj _,fun h=>by omega⟩⟩
theorem di.Iz{f:Nat→Nat}{k i:Nat}(h:di f k i)(hf:f (k+1)<f i):di f (k+1) (k+1) :=
 ⟨⟨by omega,aj _⟩,fun j h1 h2=>by
  by_cases hj:j=k+1
  ·subst hj;exact ⟨aj _,fun h=>by omega⟩
  ·have:=(h.2 j h1 (by omega)).1
   exact ⟨by omega,fun _=>by omega⟩⟩
theorem di.Iy{f:Nat→Nat}{k i:Nat}(h:di f k i)(hf:¬ f (k+1)<f i):di f (k+1) i :=
 ⟨⟨h.1.1,by have:=h.1.2;omega⟩,fun j h1 h2=>by
  by_cases hj:j=k+1
  ·subst hj;exact ⟨by omega,fun h'=>by have:=h.1.2;omega⟩
  ·exact h.2 j h1 (by omega)⟩
theorem SS{l:List Int}(hf:ik l)(j:Nat)(h1:1≤j)(h2:j+1≤l.length):(jd l j:Int)<pre l l.length:=by
 have a:=gi hf 0 j (by omega) (by omega)
 have b:=gi hf j l.length (by omega) (by omega)
 rw [gP] at a;unfold jd;omega
theorem SR{l:List Int}(hf:ik l)(j:Nat)(h1:1≤j)(h2:j+2≤l.length):(jc l j:Int)<pre l l.length:=by
 have a:=gi hf 0 j (by omega) (by omega)
 have b:=gi hf (j+1) l.length (by omega) (by omega)
 have c:=gi hf j (j+1) (by omega) (by omega)
 rw [gP] at a;unfold jc;omega
open Go.RowKit Go.ChangeShapes
def N7(x:String × List UInt8):String × DataW Unit:=(x.1,.iface "*errors.errorString" (.ptr (.agg [.lit (.string x.2)])))
def ie:DataW Unit→List UInt8
 | .iface _ (.ptr (.agg [.lit (.string t)]))=>t
 | _=>[]
theorem P7:prog.cellsOf 9=1:=by kernel_rfl
theorem Qc:prog.cellsOf 375=1:=by kernel_rfl
theorem star : "*" ++ "errors.errorString" = "*errors.errorString" := by decide
theorem UU(u:TypeId)(h:prog.typeName? 3 u=some "*errors.errorString"):u=360 :=
 typeName_ptr_named (nm := "errors.errorString") (by rw [star];kernel_rfl) (by kernel_rfl) (by decide) u (by rw [star];exact h)
theorem Ju:(prog.info? 360).map (·.comparable)=some true:=by kernel_rfl
theorem IB:(prog.info? 375).map (·.size)=some 1:=by kernel_rfl
theorem XN{W:World}:∀ (l:List (String × List UInt8)) (rest:List (String × DataW Unit)) (G:Nat→Nat) (ps:List MemPlace),(∀ i x,l[i]?=some x→prog.globalNamed x.1=some (G i)∧(prog.globals[G i]?).map (·.type)=some 32)→DataW.LaidVars prog W (l.map N7++rest) ps→ps.Nodup→(∀ b off,MemPlace.cell b off ∈ ps→(∃ c t,W.heap[b]?=some (.cells c t (0,0)))∧∀ u v,W.cell? ⟨b,off,none⟩=some (.iface u v)→Value.okWide prog W .any 0 u v)→∃ xs:List Addr,xs.length=l.length∧(∀ i a,xs[i]?=some a→W.cell? ⟨G i,0,none⟩=some (.iface 360 (.pointer (some a)))∧∃ c t,W.heap[a.block]?=some (.cells c t (0,0)))∧xs.Nodup∧(∀ a ∈ xs,MemPlace.cell a.block a.off ∈ ps)∧∃ qs,DataW.LaidVars prog W rest qs∧qs.Nodup∧(∀ x ∈ qs,x ∈ ps):=by
 intro l;induction l with
 | nil =>
  intro rest G ps _ hv ji _;exact ⟨[],rfl,fun i a h=>by simp at h,List.nodup_nil,fun a h=>by simp at h,ps,hv,ji,fun x h=>h⟩
 | cons x r ih =>
  intro rest G ps hg hv ji Ea;obtain ⟨g,t,cs,fuel,p,q,fJ,D9,Sm,hd,hq,rfl⟩:=hv;obtain ⟨k1,k2⟩:=hg 0 x rfl;obtain rfl:=Option.some.inj (k1.symm.trans fJ);obtain rfl:=Option.some.inj (k2.symm.trans D9);obtain ⟨l0⟩:=cs;have ok0:∀ u v,l0=[.iface u v]→Value.okWide prog W .any 0 u v:=fun u v e=>by
   subst e;exact (Ea (G 0) 0 (by simp [MemPlace.row])).2 u v (by simpa using World.var?_cell fJ Sm 0)
  obtain ⟨a,s,rfl,hc,hs,hz,rfl⟩:=errorString_of_trod underlying32 UU underlying360 underlying375 rfl rfl underlying9 Qc P7 hd ok0;have vp:=ji;rw [ax] at vp;have hq2:=(List.nodup_append.1 (List.nodup_append.1 vp).2.1);obtain ⟨xs,h1,h2,h3,h4,qs,h5,h6,h7⟩:=ih rest (fun i=>G (i+1)) q (fun i y hy=>hg (i+1) y (by simpa using hy)) hq hq2.2.1 (fun b off hm=>Ea b off (ch _ hm))
  refine ⟨a::xs,by simp [h1],?_,?_,?_,qs,h5,h6,fun y hy=>ch _ (h7 y hy)⟩
  ·intro i b hb;cases i with
   | zero =>
    simp only [List.getElem?_cons_zero,Option.some.injEq] at hb;subst hb;exact ⟨by simpa using World.var?_cell fJ Sm 0,(Ea a.block a.off (by simp [MemPlace.row])).1⟩
   | succ i =>
    exact h2 i b (by simpa using hb)
  ·refine List.nodup_cons.2 ⟨fun hm=>?_,h3⟩
   exact hq2.2.2 (.cell a.block a.off) (by simp [MemPlace.row]) (.cell a.block a.off) (h4 a hm) rfl
  ·intro b hb;rcases List.mem_cons.1 hb with rfl | hb
   ·simp [MemPlace.row]
   ·exact ch _ (h4 b hb)
def dk(n:Nat)(G:Nat→Nat)(A:Nat→Addr)(w:World):Prop :=
 (∀ i,i<n→w.cell? ⟨G i,0,none⟩=some (.iface 360 (.pointer (some (A i))))∧∃ c t,w.heap[(A i).block]?=some (.cells c t (0,0)))∧(∀ i j,i<n→j<n→A i=A j→i=j)
theorem dk.keep{n:Nat}{G:Nat→Nat}{A:Nat→Addr}{w w':World}(h:dk n G A w)(hb:Below w.heap.size w w'):dk n G A w':=by
 refine ⟨fun i hi=>?_,h.2⟩
 obtain ⟨h1,c,t,h2⟩:=h.1 i hi;have bX:G i<w.heap.size:=World.block_lt_of_cell? w _ h1;have SA:(A i).block<w.heap.size:=by
  rcases aZ (A i).block w.heap.size with h' | h'
  ·exact h'
  ·rw [aV h'] at h2;cases h2
 exact ⟨(hb.cell (p:=⟨G i,0,none⟩) bX).trans h1,c,t,by rw [hb.block _ SA];exact h2⟩
theorem SX{W:World}{l:List (String × List UInt8)}{rest:List (String × DataW Unit)}{n:Nat}(G:Nat→Nat)(hl:l.length=n)(hg:∀ i x,l[i]?=some x→prog.globalNamed x.1=some (G i)∧(prog.globals[G i]?).map (·.type)=some 32)(h:laidMet prog (l.map N7++rest) W):∃ A,dk n G A W∧∃ qs,DataW.LaidVars prog W rest qs∧qs.Nodup:=by
 obtain ⟨ps,hv,ji,Ea⟩:=h;obtain ⟨xs,h1,h2,h3,_,qs,h5,h6,_⟩:=XN l rest G ps hg hv ji Ea;refine ⟨fun i=>xs.getD i default,⟨fun i hi=>?_,fun i j hi hj he=>?_⟩,qs,h5,h6⟩
 ·have:xs[i]?=some (xs.getD i default):=by
   rw [List.getD,af (by omega)];rfl
  exact h2 i _ this
 ·have oE:i<xs.length:=by omega
  have lW:j<xs.length:=by omega
  simp only [List.getD,af oE,af lW,lB] at he;have hp:=List.pairwise_iff_getElem.1 h3;rcases Nat.lt_trichotomy i j with h | h | h
  ·exact absurd he (hp i j oE lW h)
  ·exact h
  ·exact absurd he.symm (hp j i lW oE h)
theorem Jq(A:Nat→Addr)(i:Nat)(w:World):(binOp .eql 32 (.iface 360 (.pointer (some (A i)))) (.iface 360 (.pointer (some (A i))))).run prog w = .ok (.bool true) w:=by
 obtain ⟨i1,hi,VL⟩:=Option.map_eq_some_iff.1 Ju;obtain ⟨j,hj,_⟩:=Option.map_eq_some_iff.1 IB;exact run_eql_iface_ptr_same w _ underlying32 underlying360 hi VL hj
theorem PM{n:Nat}{G:Nat→Nat}(A:Nat→Addr)(i k:Nat)(w:World)(h:dk n G A w)(hi:i<n)(hk:k<n)(ey:i≠k):(binOp .eql 32 (.iface 360 (.pointer (some (A i)))) (.iface 360 (.pointer (some (A k))))).run prog w = .ok (.bool false) w:=by
 obtain ⟨i1,Cu,VL⟩:=Option.map_eq_some_iff.1 Ju;obtain ⟨j,hj,hjs⟩:=Option.map_eq_some_iff.1 IB;obtain ⟨_,c,t,hb⟩:=h.1 i hi;obtain ⟨_,c',t',Mz⟩:=h.1 k hk;exact run_eql_iface_ptr_other w underlying32 underlying360 Cu VL hj (by rw [hjs];decide) (fun he=>ey (h.2 i k hi hk he)) hb Mz
def fl(i:Nat):Nat:=([0,1,2,3,4,5,6,7,8,9,10,11,12] : List Nat).getD i 0
abbrev WK(A:Nat→Addr)(w:World):Prop:=dk 13 fl A w
end Go.Proofs.YtihmgigfkmofnaaGreatDoor
namespace Go.Proofs.YtihmgigfkmofnaaGreatDoor
open Go.RowKit
def E9(w:World)(v:Value)(l:List Int):Prop:=∃ a cap,v = .slice a l.length cap∧l.length≤cap∧∀ j (h:j<l.length),∃ g o,a=some ⟨g,o,none⟩∧w.cell? ⟨g,o+j,none⟩=some (.int .i64 l[j])
theorem E9.below{w w':World}{v:Value}{l:List Int}(h:E9 w v l)(hb:Below w.heap.size w w'):E9 w' v l:=by
 obtain ⟨a,cap,rfl,hle,hc⟩:=h;refine ⟨a,cap,rfl,hle,fun j hj=>?_⟩
 obtain ⟨g,o,ha,bE⟩:=hc j hj;exact ⟨g,o,ha,(hb.cell (p:=⟨g,o+j,none⟩) (World.block_lt_of_cell? w _ bE)).trans bE⟩
theorem EK(a b:Int)(w:World)(ha:0≤a∧a≤1152921504606846976)(hb:0≤b∧b≤1152921504606846976):Calls prog 237 #[.int .i64 a,.int .i64 b] w fun e w'=>e = .returned (.int .i64 ((a - b).natAbs:Int))∧w=w':=by
 obtain ⟨a0,a1⟩:=ha;obtain ⟨b0,b1⟩:=hb;go_enter func237,ntmps237;go_wp2
 all_goals
  go_ret;exact ⟨IG (by omega),rfl⟩
theorem xN(n:Int)(w:World):Calls prog 262 #[.int .i64 n] w fun e w'=>e = .returned (.bool (decide (1≤n∧n≤4072)))∧w=w':=by
 by_cases h1:1≤n
 ·by_cases h2:n≤4072
  ·have e1:decide (1≤n∧n≤4072)=true:=decide_eq_true ⟨h1,h2⟩;rw [e1];go_enter func262,ntmps262;go_wp2;go_ret;exact ⟨rfl,rfl⟩
  ·have e1:decide (1≤n∧n≤4072)=false:=decide_eq_false (fun h=>h2 h.2)
   rw [e1];go_enter func262,ntmps262;go_wp2;go_ret;exact ⟨rfl,rfl⟩
 ·have e1:decide (1≤n∧n≤4072)=false:=decide_eq_false (fun h=>h1 h.1)
  rw [e1];go_enter func262,ntmps262;go_wp2;go_ret;exact ⟨rfl,rfl⟩
theorem oW(x:Int)(h0:0≤x)(h1:x≤2305843009213693952):IntKind.i64.wrap x=x:=by
 rw [IntKind.wrap_i64];omega
theorem Iv(a:Option Addr)(cap n:Nat)(l:List Int)(w:World)(hm:n≤17592186044416)(e1:l.length=n)(h1:∀ j (h:j<l.length),∃ g o,a=some ⟨g,o,none⟩∧w.cell? ⟨g,o+j,none⟩=some (.int .i64 l[j])):Calls prog 254 #[.slice a n cap] w fun e w'=>((ik l∧e = .returned (.tuple #[.int .i64 (pre l n),.bool true]))∨(¬ ik l∧e = .returned (.tuple #[.int .i64 0,.bool false])))∧w=w':=by
 have HE:Hid (l.length=n):=e1;have H1:=ab h1;clear e1 h1;have HP:=ab (gP l);go_enter func254,ntmps254;go_wp2;go_loop [4,9] (fun r i=>∃ k:Nat,k≤n∧i = .int .i64 k∧(∀ j (h:j<l.length),j<k→1≤l[j]∧l[j]≤4072)∧(0≤pre l k∧pre l k≤4072*(k:Int))∧r = .int .i64 (pre l k)) (fun _ i=>n - (intOf i).toNat)
 case atStart=>exact ⟨0,aC _,rfl,fun j h h'=>by omega,by rw [HP.out];omega,by rw [HP.out]⟩
 case round =>
  obtain ⟨k,hk,rfl,hf,FC,rfl⟩:=hrel;have HF:=ab hf;clear hf;by_cases bX:k<n
  ·have jm:k<l.length:=by have:=HE.out;omega
   obtain ⟨g,o,rfl,f1⟩:=H1.out k jm;have HS:=ab (iY l k jm);obtain ⟨x,hx⟩ : ∃ x,x=l[k]:=⟨_,rfl⟩;rw [← hx] at f1;have HX:=ab hx;clear hx H1 HP;obtain ⟨p,hp⟩ : ∃ p,p=pre l k:=⟨_,rfl⟩;rw [← hp] at FC ⊢;have ZY:=ab hp;have HB:=ab FC;clear hp FC;by_cases WS:1≤x∧x≤4072
   ·have HI:Hid (∀ w,Calls prog 262 #[.int .i64 x] w fun e w'=>e = .returned (.bool true)∧w=w'):=fun w=>by
     have h:=xN x w;rw [decide_eq_true WS] at h;exact h
    have hw:IntKind.i64.wrap (p+x)=p+x:=oW _ (by have:=HB.out;omega) (by have:=HB.out;omega)
    have JB:=ab WS;clear WS;go_wp2_with (go_at_call 262;refine (HI.out _).mono ?_;rintro e w' ⟨rfl,rfl⟩)
    go_round
    case rel =>
     refine ⟨k+1,by omega,by go_num,fun j hj hjk=>?_,?_,?_⟩
     ·by_cases hjj:j=k
      ·subst hjj;rw [← HX.out];exact JB.out
      ·exact HF.out j hj (by omega)
     ·have:=HS.out;have:=ZY.out;have:=HX.out;have:=HB.out;have:=JB.out;omega
     ·rw [HS.out,← ZY.out,← HX.out]
    case measure=>simp [intOf];omega
   ·have HI:Hid (∀ w,Calls prog 262 #[.int .i64 x] w fun e w'=>e = .returned (.bool false)∧w=w'):=fun w=>by
     have h:=xN x w;rw [decide_eq_false WS] at h;exact h
    have Tw:Hid (¬ ik l):=fun hf=>WS (by have:=hf k jm;rw [← HX.out] at this;exact this)
    clear WS;go_wp2_with (go_at_call 262;refine (HI.out _).mono ?_;rintro e w' ⟨rfl,rfl⟩)
    go_ret2;exact ⟨.inr ⟨Tw.out,rfl⟩,rfl⟩
  ·have oD:k=n:=by omega
   clear H1;have sJ:Hid (ik l):=fun j hj=>HF.out j hj (by have:=HE.out;omega)
   subst oD;obtain ⟨p,hp⟩ : ∃ p,p=pre l k:=⟨_,rfl⟩;rw [← hp] at FC ⊢;have ZY:=ab hp;clear FC HP hp;go_wp2;go_ret2;exact ⟨.inl ⟨sJ.out,by rw [← ZY.out];rfl⟩,rfl⟩
theorem PZ(p a b:Int)(w:World)(ha:0≤a∧a≤1152921504606846976)(hb:0≤b∧b≤1152921504606846976):Calls prog 236 #[.int .i64 p,.int .i64 a,.int .i64 b] w fun e w'=>e = .returned (.int .i64 ((a - b).natAbs:Int))∧w=w':=by
 have HD:=ab (EK a b w ha hb);clear ha hb;go_enter func236,ntmps236;go_wp2_with (go_at_call 237;refine HD.out.mono ?_;rintro e w' ⟨rfl,rfl⟩)
 go_ret;exact ⟨rfl,rfl⟩
theorem Lm(A:Nat→Addr)(g o cap m n:Nat)(l:List Int)(w:World)(YH:n≤17592186044416)(fI:1≤m)(hn:n=m+1)(e1:l.length=n)(du:n≤cap)(hE:dk 4 fl A w)(h1:∀ j (h:j<l.length),w.cell? ⟨g,o+j,none⟩=some (.int .i64 l[j])):Calls prog 235 #[.slice (some ⟨g,o,none⟩) n cap,.int .i64 2,.func (.func 236) #[] #[]] w fun e w'=>((ik l∧∃ i:Nat,e = .returned (.tuple #[.int .i64 (i:Int),.nilIface])∧di (jd l) m i)∨(¬ ik l∧e = .returned (.tuple #[.int .i64 0,.iface 360 (.pointer (some (A 0)))])))∧Below w.heap.size w w':=by
 have c0:w.cell? ⟨0,0,none⟩=some (.iface 360 (.pointer (some (A 0)))):=(hE.1 0 (by decide)).1
 have HS:=ab (Iv (some ⟨g,o,none⟩) cap n l w (by omega) e1 (fun j h=>⟨g,o,rfl,h1 j h⟩))
 have hm:m≤17592186044416:=by omega
 have HE:Hid (l.length=n):=e1;have HN:Hid (n=m+1):=hn;have H1:=ab h1;have QF:=ab (gP l);have hnI:(n:Int)=(m:Int)+1:=by omega
 have vj:IntKind.i64.wrap ((n:Int) - 2)=(m:Int) - 1:=by rw [IntKind.wrap_i64];omega
 have qD:IntKind.i64.wrap ((m:Int) - 1+1)=(m:Int):=by rw [IntKind.wrap_i64];omega
 have bX:¬ (n:Int)<2:=by omega
 have hmc:(m:Int)≤(cap:Int):=by omega
 have Sz:(0:Int)≤(m:Int):=by omega
 clear e1 hn h1 hE hnI YH;by_cases hF:ik l
 ·have HT:=ab (hO hF n (by have:=HE.out;omega))
  have HF:=ab hF;have mG:Hid (Calls prog 254 #[.slice (some ⟨g,o,none⟩) n cap] w fun e w'=>e = .returned (.tuple #[.int .i64 (pre l n),.bool true])∧w=w'):=by
   refine HS.out.mono ?_
   rintro e w' ⟨h | h,rfl⟩
   ·exact ⟨h.2,rfl⟩
   ·exact absurd hF h.1
  obtain ⟨T,hT⟩ : ∃ T,T=pre l n:=⟨_,rfl⟩;rw [← hT] at mG HT;have UA:=ab hT;clear hT HS c0 hF;go_enter func235,ntmps235;go_wp2_with (go_at_call 254;refine mG.out.mono ?_;rintro e w' ⟨rfl,rfl⟩)
  go_loop [8,10,11,12,38] (fun re be le ah i=>∃ (k lA:Nat) (least:Int),k≤m∧i = .int .i64 k∧re = .int .i64 (T - pre l k)∧be = .int .i64 (lA:Int)∧le = .int .i64 least∧ah = .int .i64 (pre l k)∧((k=0∧lA=0∧least=T)∨(1≤k∧di (jd l) k lA∧least=jd l lA))) (fun _ _ _ _ i=>m - (intOf i).toNat)
  case atStart=>exact ⟨0,0,T,aC _,rfl,by rw [QF.out,Int.sub_zero],rfl,rfl,by rw [QF.out],.inl ⟨rfl,rfl,rfl⟩⟩
  case round =>
   obtain ⟨k,lA,least,hk,rfl,rfl,rfl,rfl,rfl,eS⟩:=hrel;have gN:=ab eS;clear eS;by_cases hltk:k<m
   ·have jm:k<l.length:=by have:=HE.out;have:=HN.out;omega
    have f1:=H1.out k jm;have yP:=ab (iY l k jm);have HPB:=ab (hO HF.out k (by omega))
    have Cj:=ab (hO HF.out (k+1) (by omega))
    have Wp:=ab (gi HF.out (k+1) n (by have:=HE.out;have:=HN.out;omega) (by have:=HE.out;omega))
    obtain ⟨x,hx⟩ : ∃ x,x=l[k]:=⟨_,rfl⟩;rw [← hx] at f1 yP;obtain ⟨p,hp⟩ : ∃ p,p=pre l k:=⟨_,rfl⟩;rw [← hp] at HPB yP ⊢;obtain ⟨q,hq⟩ : ∃ q,q=pre l (k+1):=⟨_,rfl⟩;rw [← hq] at Cj yP Wp;rw [← UA.out] at Wp;have HQ:=ab hq;have Xr:Hid ((k:Int)≤17592186044416∧4072*((k:Int)+1)≤72057594037927936):=⟨by omega,by omega⟩
    have Wi:Hid (0≤q∧q≤1152921504606846976):=⟨Cj.out.1,by have:=Cj.out.2;have:=Xr.out;omega⟩
    have CD:Hid (0≤T - q∧T - q≤1152921504606846976):=⟨by have:=Wp.out;omega,by have:=HT.out.2;have:=Cj.out.1;have:=HN.out;omega⟩
    have vT:IntKind.i64.wrap (p+x)=q:=by rw [← yP.out];exact oW _ Wi.out.1 (by have:=Wi.out;omega)
    have QU:IntKind.i64.wrap (T - p - x)=T - q:=by rw [show T - p - x=T - q by have:=yP.out;omega];exact oW _ CD.out.1 (by have:=CD.out;omega)
    have Mr:IntKind.i64.wrap ((k:Int)+1)=((k+1:Nat):Int):=by rw [IntKind.wrap_i64];omega
    have WE:Hid (Calls prog 236 #[.int .i64 ((k+1:Nat):Int),.int .i64 q,.int .i64 (T - q)] w fun e w'=>e = .returned (.int .i64 ((jd l (k+1):Nat):Int))∧w=w'):=by
     have h:=PZ ((k+1:Nat):Int) q (T - q) w Wi.out CD.out;have e:jd l (k+1)=(q - (T - q)).natAbs:=by unfold jd;rw [HE.out,← UA.out,← HQ.out]
     rw [e];exact h
    have Wx:=ab (SS HF.out (k+1) (by omega) (by have:=HE.out;have:=HN.out;omega))
    rw [HE.out,← UA.out] at Wx;obtain ⟨gp,VC⟩ : ∃ gp:Nat,gp=jd l (k+1):=⟨_,rfl⟩;rw [← VC] at WE Wx;have Ww:=ab VC;have dO:(k:Int)<(m:Int):=by omega
    clear hx hp hq VC H1 QF mG;by_cases hless:(gp:Int)<least
    ·have iy:Hid (di (jd l) (k+1) (k+1)):=by
      rcases gN.out with ⟨rfl,_,_⟩ | ⟨_,hb,he⟩
      ·exact di.one _
      ·exact hb.Iz (by rw [← Ww.out];omega)
     clear gN;go_wp2_with (go_at_call 236;refine (WE.out).mono ?_;rintro e w' ⟨rfl,rfl⟩)
     go_round
     case rel=>exact ⟨k+1,k+1,gp,by omega,rfl,by rw [← HQ.out],rfl,rfl,by rw [← HQ.out],.inr ⟨by omega,iy.out,by rw [Ww.out]⟩⟩
     case measure=>simp [intOf];omega
    ·have Ck:Hid (1≤k+1∧di (jd l) (k+1) lA∧least=jd l lA):=by
      rcases gN.out with ⟨_,_,rfl⟩ | ⟨_,hb,he⟩
      ·exact absurd Wx.out hless
      ·exact ⟨by omega,hb.Iy (by rw [← Ww.out];omega),he⟩
     clear gN;go_wp2_with (go_at_call 236;refine (WE.out).mono ?_;rintro e w' ⟨rfl,rfl⟩)
     go_round
     case rel=>exact ⟨k+1,lA,least,by omega,rfl,by rw [← HQ.out],rfl,rfl,by rw [← HQ.out],.inr Ck.out⟩
     case measure=>simp [intOf];omega
   ·have GY:k=m:=by omega
    have vw:Hid (di (jd l) m lA):=by
     rcases gN.out with ⟨h0,_,_⟩ | ⟨_,hb,_⟩
     ·omega
     ·rw [← GY];exact hb
    subst GY;obtain ⟨p,hp⟩ : ∃ p,p=pre l k:=⟨_,rfl⟩;rw [← hp];clear hp gN H1 mG QF;go_wp2;go_ret2;exact ⟨.inl ⟨HF.out,lA,rfl,vw.out⟩,Below.refl _ _⟩
 ·have mG:Hid (Calls prog 254 #[.slice (some ⟨g,o,none⟩) n cap] w fun e w'=>e = .returned (.tuple #[.int .i64 0,.bool false])∧w=w'):=by
   refine HS.out.mono ?_
   rintro e w' ⟨h | h,rfl⟩
   ·exact absurd h.1 hF
   ·exact ⟨h.2,rfl⟩
  have HF:=ab hF;clear HS hF H1 QF;go_enter func235,ntmps235;go_wp2_with (go_at_call 254;refine mG.out.mono ?_;rintro e w' ⟨rfl,rfl⟩)
  go_quiet (fail)
  go_wp2;go_ret2;exact ⟨.inr ⟨HF.out,rfl⟩,aB (Below.refl _ _) _⟩
theorem AW(A:Nat→Addr)(a:Option Addr)(n cap:Nat)(th:Int)(fv:Value)(w:World)(hn:(n:Int)<th)(_hm:n≤17592186044416)(hE:dk 4 fl A w):Calls prog 235 #[.slice a n cap,.int .i64 th,fv] w fun e w'=>e = .returned (.tuple #[.int .i64 0,.iface 360 (.pointer (some (A 3)))])∧Below w.heap.size w w':=by
 have c0:w.cell? ⟨3,0,none⟩=some (.iface 360 (.pointer (some (A 3)))):=(hE.1 3 (by decide)).1
 clear hE;go_enter func235,ntmps235;go_wp2;go_quiet (fail)
 go_wp2;go_ret2;exact ⟨rfl,aB (Below.refl _ _) _⟩
def Ml(A:Nat→Addr)(th:Nat)(f:Nat→Nat)(l:List Int)(e:Ending):Prop :=
 (l.length<th∧e = .returned (.tuple #[.int .i64 0,.iface 360 (.pointer (some (A 3)))]))∨(th≤l.length∧¬ ik l∧e = .returned (.tuple #[.int .i64 0,.iface 360 (.pointer (some (A 0)))])) ∨
  (th≤l.length∧ik l∧∃ i:Nat,e = .returned (.tuple #[.int .i64 (i:Int),.nilIface])∧di f (l.length - (th - 1)) i)
theorem S6(A:Nat→Addr)(v:Value)(l:List Int)(w:World)(hm:l.length≤17592186044416)(hr:E9 w v l)(hE:dk 4 fl A w):Calls prog 210 #[v] w fun e w'=>Ml A 2 (jd l) l e∧Below w.heap.size w w':=by
 obtain ⟨a,cap,rfl,du,hc⟩:=hr;have H:Hid (Calls prog 235 #[.slice a l.length cap,.int .i64 2,.func (.func 236) #[] #[]] w fun e w'=>∃ x y,e = .returned (.tuple #[x,y])∧Ml A 2 (jd l) l (.returned (.tuple #[x,y]))∧Below w.heap.size w w'):=by
  by_cases hs:l.length<2
  ·refine (AW A a l.length cap 2 _ w (by omega) hm hE).mono ?_
   rintro e w' ⟨rfl,hb⟩;exact ⟨_,_,rfl,.inl ⟨hs,rfl⟩,hb⟩
  ·obtain ⟨g,o,rfl,_⟩:=hc 0 (by omega)
   refine (Lm A g o cap (l.length - 1) l.length l w hm (by omega) (by omega) rfl du hE (fun j h=>by obtain ⟨g',o',he,bE⟩:=hc j h;cases he;exact bE)).mono ?_
   rintro e w' ⟨⟨hf,i,rfl,hi⟩ | ⟨hf,rfl⟩,hb⟩
   ·exact ⟨_,_,rfl,.inr (.inr ⟨by omega,hf,i,rfl,hi⟩),hb⟩
   ·exact ⟨_,_,rfl,.inr (.inl ⟨by omega,hf,rfl⟩),hb⟩
 clear hc hE du;go_enter func210,ntmps210;go_wp2_with (go_at_call 235;refine H.out.mono ?_;rintro e w' ⟨x,y,rfl,hv,hb⟩;have HV:=ab hv;clear hv)
 go_ret2;exact ⟨HV.out,hb⟩
theorem yp{n:Nat}{G:Nat→Nat}{A:Nat→Addr}{w w':World}(h:dk n G A w)(hb:Below w.heap.size w w'):dk n G A w':=dk.keep h hb
theorem BD(A:Nat→Addr)(w:World)(h:dk 4 fl A w):Calls prog 14 #[.iface 360 (.pointer (some (A 0)))] w fun e w'=>e = .returned (.int .i64 1)∧w=w':=by
 have c0:w.cell? ⟨0,0,none⟩=some (.iface 360 (.pointer (some (A 0)))):=(h.1 0 (by decide)).1
 have e0:=Jq A 0;clear h;go_enter func14,ntmps14;go_wp2;go_ret;exact ⟨rfl,rfl⟩
def Ij(th:Nat)(f:Nat→Nat)(l:List Int)(i c:Nat):Prop :=
 (l.length<th∧i=0∧c=4)∨(th≤l.length∧¬ ik l∧i=0∧c=1)∨(th≤l.length∧ik l∧di f (l.length - (th - 1)) i∧c=0)
def yK(A:Nat→Addr)(ev:Value)(c:Nat):Prop :=
 (ev = .nilIface∧c=0)∨(ev = .iface 360 (.pointer (some (A 0)))∧c=1)∨(ev = .iface 360 (.pointer (some (A 1)))∧c=2)∨(ev = .iface 360 (.pointer (some (A 2)))∧c=3)∨(ev = .iface 360 (.pointer (some (A 3)))∧c=4)
theorem Ml.num{A:Nat→Addr}{th:Nat}{f:Nat→Nat}{l:List Int}{e:Ending}(h:Ml A th f l e):∃ (i c:Nat) (ev:Value),e = .returned (.tuple #[.int .i64 (i:Int),ev])∧Ij th f l i c∧yK A ev c:=by
 rcases h with ⟨h1,rfl⟩ | ⟨h1,hf,rfl⟩ | ⟨h1,hf,i,rfl,hi⟩
 ·exact ⟨0,4,_,rfl,.inl ⟨h1,rfl,rfl⟩,.inr (.inr (.inr (.inr ⟨rfl,rfl⟩)))⟩
 ·exact ⟨0,1,_,rfl,.inr (.inl ⟨h1,hf,rfl,rfl⟩),.inr (.inl ⟨rfl,rfl⟩)⟩
 ·exact ⟨i,0,_,rfl,.inr (.inr ⟨h1,hf,hi,rfl⟩),.inl ⟨rfl,rfl⟩⟩
theorem nh.ints{w:World}{v:Value}{l:List Int}(h:nh w v (ints l)):E9 w v l:=by
 obtain ⟨a,cap,rfl,hle,_,hc⟩:=h;rw [jP] at hle ⊢;exact ⟨a,cap,rfl,hle,fun j hj=>hc j _ (OE l j hj)⟩
namespace B
theorem uV(p:Lk)(w:World)(h1:p.1.size≤140737488355328):Calls prog 194 #[.agg #[.string p.1,.int .i64 p.2]] w fun e w'=>e = .returned (.int .i64 (yZ p:Int))∧Below w.heap.size w w':=by
 have fh:=ai w (.cells #[.string p.1,.int .i64 p.2] 179);have vT:IntKind.i64.wrap (7+(p.1.size:Int))=(yZ p:Int):=by rw [IntKind.wrap_i64];unfold yZ;omega
 go_enter func194,ntmps194;go_wp2;go_ret;exact ⟨rfl,fh⟩
def lI(l:List Lk):List Int:=l.map fun p=>(yZ p:Int)
theorem rq(l:List Lk):(lI l).length=l.length:=by simp [lI]
theorem wG(l:List Lk)(k:Nat)(h:k<l.length):lI (l.take (k+1))=lI (l.take k)++[(yZ l[k] : Int)]:=by
 unfold lI;rw [ay h,aW];rfl
def nZ(l:List Lk)(k:Nat):List Value:=ints (lI (l.take k))++List.replicate (l.length - k) (.int .i64 0)
theorem J4(l:List Lk)(k:Nat)(h:k<l.length):(nZ l k).set k (.int .i64 (yZ l[k] : Int))=nZ l (k+1):=by
 have hl:(ints (lI (l.take k))).length=k:=by rw [jP,rq,ag];omega
 unfold nZ;rw [bO _ _ (by omega),hl,dI,wG l k h,ox,show l.length - k=l.length - (k+1)+1 by omega,List.replicate_succ,List.set_cons_zero,ax]
 rfl
theorem J5(l:List Lk)(k:Nat)(h:k≤l.length):(nZ l k).length=l.length:=by
 unfold nZ;rw [ae,jP,rq,ag,bw];omega
theorem F4(l:List Lk):nZ l 0=List.replicate l.length (.int .i64 0):=by simp [nZ,ints,lI]
theorem J6(l:List Lk):nZ l l.length=ints (lI l):=by simp [nZ]
theorem iP{w w':World}{base e n:Nat}{v:Value}{xs:List Value}(h:w.ownsRow base e 1 v n xs)(hb:Below w.heap.size w w'):w'.ownsRow base e 1 v n xs:=by
 refine ⟨h.1,?_⟩;rcases h.2 with h' | ⟨g,cap,cur,h',h1,h2,hr⟩
 ·exact .inl h'
 ·refine .inr ⟨g,cap,cur,h',h1,?_,hr⟩;have hg:g<w.heap.size:=by
   rcases aZ g w.heap.size with h' | h'
   ·exact h'
   ·rw [aV h'] at h2;cases h2
  rw [hb.block g hg];exact h2
theorem Hn(v:Value)(l:List Lk)(w:World)(cC:Uz l)(hm:l.length≤5864062014805)(hr:dm w v l):Calls prog 214 #[v] w fun e w'=>∃ u,e = .returned u∧E9 w' u (lI l)∧Below w.heap.size w w':=by
 obtain ⟨i0,hi,hz,cp,kL⟩:=info_parts info3;obtain ⟨a,cap,rfl,du,_,hc⟩:=hr;have HC:=ab hc;have qZ:=ab cC;obtain ⟨wm,pM,fP,pZ⟩:=run_make_full (P:=prog) w w.heap.size 69 3 i0 _ 1 underlying69 hi hz cp .i64 .i64 l.length (by rw [kL];omega) (by unfold maxLen;omega) (aj _)
 have nP:(madeCells (Value.int .i64 0).cells (l.length*1)).toList=nZ l 0:=by
  rw [F4,Nat.mul_one];exact toList_madeCells_one _ _
 rw [nP] at fP;have Cw:Below w.heap.size w wm:=(Below.refl _ _).grown pZ (aj _) (fun j hj=>by cases hj)
 obtain ⟨n,hn⟩ : ∃ n,n=l.length:=⟨_,rfl⟩;obtain ⟨b,hb⟩ : ∃ b,b=w.heap.size:=⟨_,rfl⟩;rw [← hn] at hm pM fP ⊢;rw [← hb] at pM fP;have HN:=ab hn;have HB:=ab hb;have HO:=ab fP;have JH:=ab Cw;clear hc hn du cC hb fP Cw pZ hi hz cp kL nP;go_enter func214,ntmps214;go_wp2;clear pM;go_loopw [11] (fun i wr=>∃ k:Nat,k≤n∧i = .int .i64 k∧wr.ownsRow b 3 1 (.slice (some ⟨b,0,none⟩) n n) n (nZ l k)∧Below w.heap.size w wr) (fun i _=>n - (intOf i).toNat)
 case atStart=>exact ⟨0,aC _,rfl,HO.out,JH.out⟩
 case round =>
  obtain ⟨k,hk,rfl,aD,bL⟩:=hrel;clear HO JH;by_cases bX:k<n
  ·have ep:k<l.length:=by have:=HN.out;omega
   obtain ⟨g,o,rfl,f1,f2⟩:=HC.out k ep;have c1:wr.cell? ⟨g,o+k*2,none⟩=some (.string l[k].1):=(bL.cell (p:=⟨g,o+k*2,none⟩) (World.block_lt_of_cell? w _ f1)).trans f1;have c2:wr.cell? ⟨g,o+k*2+1,none⟩=some (.int .i64 l[k].2):=(bL.cell (p:=⟨g,o+k*2+1,none⟩) (World.block_lt_of_cell? w _ f2)).trans f2;have AI:=qZ.out l[k] (aH _);have iw:=ab (J4 l k ep);have fh:=ai wr (.cells #[.string l[k].1,.int .i64 l[k].2] 179);have pH:=ab (iP aD fh);have bN:=ab (Below.next bL fh);have HZ:=ab (fun W=>uV l[k] W AI)
   obtain ⟨p,hp⟩ : ∃ p,p=l[k]:=⟨_,rfl⟩;rw [← hp] at c1 c2 iw pH bN HZ;have fL:=ab (J5 l k (by omega))
   have dO:(k:Int)<(n:Int):=by omega
   have j0:(0:Int)≤(k:Int):=by omega
   clear hp HC f1 f2 bL aD AI fh;go_wp2_with fail;refine (HZ.out _).mono ?_
   rintro e w1 ⟨rfl,aN⟩;have jB:=iP pH.out aN;have q1:∃ u,w1.cell? ⟨b,k,none⟩=some u:=by
    rw [World.ownsRow.cellAt jB k (by omega)]
    exact ⟨_,af (by rw [fL.out];exact ep)⟩
   obtain ⟨u,q1⟩:=q1;have z1:w1.frozen? ⟨b,k,none⟩=false:=World.ownsRow.frozenAt jB k;obtain ⟨z,hz⟩ : ∃ z,z=yZ p:=⟨_,rfl⟩;rw [← hz] at iw ⊢;have eS:=(World.ownsRow.stored jB k (.int .i64 (z:Int))).1;rw [iw.out] at eS;have gX:=ab eS;have bH:Hid (Below w.heap.size w (w1.setCell ⟨b,k,none⟩ (.int .i64 (z:Int)))):=(Below.next bN.out aN).setCell (by rw [HB.out];exact aj _) _
   clear aN bN HZ c1 c2 jB eS hz iw pH;go_wp2;go_roundw
   case rel=>exact ⟨k+1,by omega,by go_num,gX.out,bH.out⟩
   case measure=>simp [intOf];omega
  ·have oD:k=l.length:=by have:=HN.out;omega
   rw [oD,J6] at aD;have HI:=ab (fS aD).ints;have jY:=ab bL;have dO:¬ (k:Int)<(n:Int):=by have:=HN.out;omega
   have UH:=ab oD;clear HC bL aD oD;go_wp2;go_ret;exact ⟨_,rfl,HI.out,jY.out⟩
theorem ow(ad:Addr)(n cap:Nat)(l:List Lk)(w:World)(hm:l.length≤5864062014805)(hn:l.length=n)(hr:dm w (.slice (some ad) n cap) l):Calls prog 209 #[.slice (some ad) n cap] w fun e w'=>∃ u,e = .returned u∧bQ w' w.heap.size u l∧Below w.heap.size w w':=by
 have qH:∀ w,(binOp .eql 148 (.slice (some ad) n cap) (.slice none 0 0)).run prog w = .ok (.bool false) w:=fun w=>by
  have h2:∀ d:Nat,(Op.equalIn (d+1) 148 (.slice (some ad) n cap) (.slice none 0 0)).run prog w = .ok false w:=fun d=>by
   simp [Op.equalIn,run_underlying underlying148]
  simp only [binOp];simp [Op.equal,Op.maxDepth,h2 9999]
 have fh:=ai w (.cells #[] 179);have ho:bQ (w.alloc (.cells #[] 179)) w.heap.size (.slice (some ⟨w.heap.size,0,none⟩) 0 0) []:=World.ownsRow_lit w #[] 0 (aj _) (aC _) rfl;obtain ⟨a1,c1,w1,bo,aD,hg⟩:=fo w.heap.size _ _ [] l _ ho (hr.below fh) (by simp;omega) (by simp)
 rw [List.length_nil,Nat.zero_add,hn] at bo aD;rw [List.nil_append] at aD;have aN:Below w.heap.size w w1:=fh.grown hg (by simp) (fun k hk=>by simp [Value.ownBlock] at hk;omega)
 have HO:=ab aD;have HB:=ab aN;clear hr fh ho aD hg aN;go_enter func209,ntmps209;go_wp2_with (first | (at_builtin;refine wpList_append_run 148 rfl (.tmp 5) (.tmp 6) rfl rfl _ _ rfl rfl _ _ bo ?_))
 clear bo;go_ret;exact ⟨_,rfl,HO.out,HB.out⟩
theorem eM(v:Value)(l:List Lk)(w:World)(hm:l.length≤5864062014805)(hr:dm w v l):Calls prog 209 #[v] w fun e w'=>∃ u,e = .returned u∧bQ w' w.heap.size u l∧Below w.heap.size w w':=by
 obtain ⟨a,c,hv⟩:=hr.form;subst hv;cases a with
 | some ad=>exact ow ad l.length c l w hm rfl hr
 | none =>
  have h0:l=[]∧c=0:=by
   obtain ⟨a',c',he,_,hn,hc⟩:=hr;cases he;refine ⟨?_,hn rfl⟩;cases l with
   | nil=>rfl
   | cons p r=>obtain ⟨g,o,he,_⟩:=hc 0 (by simp);cases he
  obtain ⟨rfl,rfl⟩:=h0;have qH:∀ w,(binOp .eql 148 (.slice none 0 0) (.slice none 0 0)).run prog w = .ok (.bool true) w:=fun w=>by
   have h2:∀ d:Nat,(Op.equalIn (d+1) 148 (.slice none 0 0) (.slice none 0 0)).run prog w = .ok true w:=fun d=>by
    simp [Op.equalIn,run_underlying underlying148]
   simp only [binOp];simp [Op.equal,Op.maxDepth,h2 9999]
  clear hr;rw [List.length_nil];go_enter func209,ntmps209;go_wp2;go_ret;exact ⟨_,rfl,bQ.nil _ _,Below.refl _ _⟩
end B
end Go.Proofs.YtihmgigfkmofnaaGreatDoor
