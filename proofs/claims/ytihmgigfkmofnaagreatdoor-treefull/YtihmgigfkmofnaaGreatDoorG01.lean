import Derived.Test.YtihmgigfkmofnaaGreatDoorG00
import Derived.Laws.ResultCell
import GoSem.Claim
import GoSem.ClaimJoined
import GoSem.ClaimMapViews
import Derived.JoinedTies
import Derived.RowKit
import Derived.LaidLaws
import Derived.LaidEql
import Derived.Deep.RegionHeld3
set_option maxHeartbeats 4000000
set_option maxRecDepth 100000
open Go.Proofs.Tryz
namespace Go.Proofs.YtihmgigfkmofnaaGreatDoor
namespace B
open Go.RowKit
theorem aN{P:Program}{fn:Func}{p u:Tmp}{ty:TypeId}(h:fn.results=#[.cell p ty,.tmp u])(tmps:Array Value)(w:World)(g:Nat)(t:TypeId)(cs:Array Value)(fr:Nat × Nat)(d:TypeDesc)(hp:tmps.getD p undef = .pointer (some ⟨g,0,none⟩))(hg:w.heap[g]?=some (.cells cs t fr))(hu:P.underlying ty=some d)(hd:(match d with | .struct _ | .array _ _=>true | _=>false)=true)(hi:(P.info? ty).map (·.size)=some cs.size):(results fn tmps).run P w = .ok (.tuple #[.agg cs,tmps.getD u undef]) w:=by
 rw [results_cell_tmp h tmps P w,hp];simp [asAddr,run_loadVar_row w g t ty cs fr d hg hu hd hi,Result.andThen]
theorem wX{fn:Func}{p q u v:Tmp}{t1 t2:TypeId}(h:fn.results=#[.cell p t1,.tmp u,.cell q t2,.tmp v])(tmps:Array Value)(P:Program)(w:World):(results fn tmps).run P w=((asAddr (tmps.getD p undef)).run P w).andThen fun a w₁=>((loadVar t1 a).run P w₁).andThen fun x w₂=>((asAddr (tmps.getD q undef)).run P w₂).andThen fun b w₃=>((loadVar t2 b).run P w₃).andThen fun y w₄=>.ok (.tuple #[x,tmps.getD u undef,y,tmps.getD v undef]) w₄:=by
 simp only [results,h];simp [Sem.run_bind,Result.andThen]
theorem pX{P:Program}{fn:Func}{p q u v:Tmp}{ty t2:TypeId}(h:fn.results=#[.cell p ty,.tmp u,.cell q t2,.tmp v])(tmps:Array Value)(w:World)(g1 g2:Nat)(t t':TypeId)(cs cs2:Array Value)(fr fr2:Nat × Nat)(d d2:TypeDesc)(hp:tmps.getD p undef = .pointer (some ⟨g1,0,none⟩))(hq:tmps.getD q undef = .pointer (some ⟨g2,0,none⟩))(hg:w.heap[g1]?=some (.cells cs t fr))(vo:w.heap[g2]?=some (.cells cs2 t' fr2))(hu:P.underlying ty=some d)(hu2:P.underlying t2=some d2)(hd:(match d with | .struct _ | .array _ _=>true | _=>false)=true)(Jo:(match d2 with | .struct _ | .array _ _=>true | _=>false)=true)(hi:(P.info? ty).map (·.size)=some cs.size)(vm:(P.info? t2).map (·.size)=some cs2.size):(results fn tmps).run P w = .ok (.tuple #[.agg cs,tmps.getD u undef,.agg cs2,tmps.getD v undef]) w:=by
 rw [wX h tmps P w,hp,hq];simp [asAddr,run_loadVar_row w g1 t ty cs fr d hg hu hd hi,run_loadVar_row w g2 t' t2 cs2 fr2 d2 vo hu2 Jo vm,Result.andThen]
theorem vE{w:World}{b:Nat}{x y:Value}{t:TypeId}(h:w.heap[b]?=some (.cells #[x,y] t (0,0)))(x' y':Value):((w.setCell ⟨b,0,none⟩ x').setCell ⟨b,1,none⟩ y').heap[b]?=some (.cells #[x',y'] t (0,0)):=by
 rw [heap_setCell_same _ b 1 _ t _ (heap_setCell_same w b 0 _ t _ h)];rfl
theorem b9{B:Nat}{w0 w:World}{b:Nat}{x y:Value}(h:Below B w0 w)(hb:B≤b):Below B w0 ((w.setCell ⟨b,0,none⟩ x).setCell ⟨b,1,none⟩ y):=(h.setCell hb _).setCell hb _
def au(w:World)(b:Nat)(cs:Array Value)(t:TypeId):Prop:=w.heap[b]?=some (.cells cs t (0,0))
theorem au.cell{w:World}{b:Nat}{cs:Array Value}{t:TypeId}(h:au w b cs t)(j:Nat)(hj:j<cs.size):w.cell? ⟨b,j,none⟩=some cs[j]:=by
 rw [cell_of_row _ _ _ _ _ _ h];simp [hj]
theorem au.c0{w:World}{b:Nat}{x y:Value}{t:TypeId}(h:au w b #[x,y] t):w.cell? ⟨b,0,none⟩=some x:=h.cell 0 (by simp)
theorem au.c1{w:World}{b:Nat}{x y:Value}{t:TypeId}(h:au w b #[x,y] t):w.cell? ⟨b,1,none⟩=some y:=h.cell 1 (by simp)
theorem au.free{w:World}{b:Nat}{cs:Array Value}{t:TypeId}(h:au w b cs t)(j:Nat):w.frozen? ⟨b,j,none⟩=false:=frozen_of_row _ _ _ _ _ h
theorem au.lt{w:World}{b:Nat}{cs:Array Value}{t:TypeId}(h:au w b cs t):b<w.heap.size:=by
 rcases a8 b w.heap.size with h' | h'
 ·exact h'
 ·unfold au at h;rw [aY h'] at h;cases h
theorem au.below{w w':World}{b:Nat}{cs:Array Value}{t:TypeId}(h:au w b cs t)(hb:Below w.heap.size w w'):au w' b cs t:=by
 unfold au;rw [hb.block b h.lt];exact h
theorem au.new(w:World)(cs:Array Value)(t:TypeId):au (w.alloc (.cells cs t)) w.heap.size cs t:=heap_alloc_new w _
theorem au.two{w:World}{b:Nat}{x y:Value}{t:TypeId}(h:au w b #[x,y] t)(x' y':Value):au ((w.setCell ⟨b,0,none⟩ x').setCell ⟨b,1,none⟩ y') b #[x',y'] t:=vE h x' y'
theorem au.other{w:World}{b g j:Nat}{cs:Array Value}{t:TypeId}(h:au w b cs t)(dH:b≠g)(u:Value):au (w.setCell ⟨g,j,none⟩ u) b cs t:=by
 unfold au;rw [Below.heap_setCell _ _ _ _ (fun e=>dH e)];exact h
theorem di.cap{w:World}{a:Option Addr}{n c:Nat}{l:List Lk}(h:di w (.slice a n c) l):l.length≤c:=by
 obtain ⟨_,_,he,h,_⟩:=h;cases he;exact h
theorem Jb(p:Lk):∀ (l:List Lk) (k:Nat),((bh l).set (k*2) (.string p.1)).set (k*2+1) (.int .i64 p.2)=bh (l.set k p)
 | [],k=>by simp [bh]
 | q::l,0=>by
  rw [List.set_cons_zero,eE,eE];rfl
 | q::l,k+1=>by
  rw [List.set_cons_succ,eE,eE,← Jb p l k,show (k+1)*2=k*2+1+1 by omega]
  simp only [List.set_cons_succ]
theorem b7.put{w:World}{base g j:Nat}{v:Value}{l:List Lk}(h:b7 w base v l)(hv:v.ownBlock≠some g)(u:Value):b7 (w.setCell ⟨g,j,none⟩ u) base v l:=by
 refine ⟨h.1,?_⟩;rcases h.2 with h' | ⟨g',cap,cur,h',h1,h2,hr⟩
 ·exact .inl h'
 ·refine .inr ⟨g',cap,cur,h',h1,?_,hr⟩;rw [Below.heap_setCell _ _ _ _ (fun e=>hv (by have:g'=g:=e;rw [h',this];rfl))];exact h2
theorem b7.cnt{w:World}{base n cap:Nat}{a:Option Addr}{l:List Lk}(h:b7 w base (.slice a n cap) l):n=l.length:=by
 obtain ⟨a',c',he⟩:=h.form;simp only [Value.slice.injEq] at he;exact he.2.1
theorem b7.wrote{w:World}{base g n cap:Nat}{l:List Lk}(h:b7 w base (.slice (some ⟨g,0,none⟩) n cap) l)(k:Nat)(p:Lk):b7 ((w.setCell ⟨g,k*2,none⟩ (.string p.1)).setCell ⟨g,k*2+1,none⟩ (.int .i64 p.2)) base (.slice (some ⟨g,0,none⟩) n cap) (l.set k p):=by
 obtain rfl:=h.cnt;unfold b7 at h;have:=(World.ownsRow.stored (World.ownsRow.stored h (k*2) (.string p.1)).1 (k*2+1) (.int .i64 p.2)).1;rw [Jb] at this;unfold b7;rw [cx];exact this
theorem b7.spot{w:World}{base g n cap:Nat}{l:List Lk}(h:b7 w base (.slice (some ⟨g,0,none⟩) n cap) l)(k:Nat)(hk:k<l.length):(∃ u,w.cell? ⟨g,k*2,none⟩=some u)∧(∃ u,w.cell? ⟨g,k*2+1,none⟩=some u)∧w.frozen? ⟨g,k*2,none⟩=false∧w.frozen? ⟨g,k*2+1,none⟩=false:=by
 obtain rfl:=h.cnt;unfold b7 at h;have hq:∀ j,j<l.length*2→∃ u,w.cell? ⟨g,j,none⟩=some u:=fun j hj=>by
  rw [World.ownsRow.cellAt h j hj];exact ⟨_,af (by rw [aT];exact hj)⟩
 exact ⟨hq _ (by omega),hq _ (by omega),World.ownsRow.frozenAt h _,World.ownsRow.frozenAt h _⟩
theorem b7.has{w:World}{base:Nat}{v:Value}{l:List Lk}(h:b7 w base v l)(hl:0<l.length):∃ g c,v = .slice (some ⟨g,0,none⟩) l.length c∧base≤g∧g<w.heap.size∧l.length≤c:=by
 rcases h.2 with ⟨_,h0⟩ | ⟨g,cap,cur,rfl,h1,h2,h3,_⟩
 ·omega
 ·exact ⟨g,cap,rfl,h1,(h.dF g rfl).2,h3⟩
theorem di.spot{w:World}{a:Option Addr}{n c:Nat}{l:List Lk}(h:di w (.slice a n c) l)(j:Nat)(hj:j<l.length):∃ g o,a = .some ⟨g,o,none⟩∧w.cell? ⟨g,o+j*2,none⟩ = .some (.string l[j].1)∧w.cell? ⟨g,o+j*2+1,none⟩ = .some (.int .i64 l[j].2):=by
 obtain ⟨a',c',he,_,_,hc⟩:=h;cases he;exact hc j hj
theorem du{a b:World}(h:Below a.drew.heap.size a.drew b):Below a.heap.size a b:=⟨h.os,h.tape,h.output,h.size,h.block⟩
theorem b7.drew{w:World}{base:Nat}{v:Value}{l:List Lk}(h:b7 w base v l):b7 w.drew base v l:=h
theorem di.drew{w:World}{v:Value}{l:List Lk}(h:di w v l):di w.drew v l:=h
theorem au.drew{w:World}{b:Nat}{cs:Array Value}{t:TypeId}(h:au w b cs t):au w.drew b cs t:=h
theorem aK{B:Nat}{a w:World}(h:Below B a w):Below B a w.drew:=⟨h.os,h.tape,h.output,h.size,h.block⟩
theorem b7.xh{w:World}{base g:Nat}{v:Value}{l:List Lk}(h:b7 w base v l)(hg:g<base)(x y:Value):b7 ((w.setCell ⟨g,0,none⟩ x).setCell ⟨g,1,none⟩ y) base v l:=by
 have hv:v.ownBlock≠some g:=fun e=>by have:=(h.dF g e).1;omega
 exact (h.put hv x).put hv y
end B
def pre(l:List Int)(i:Nat):Int:=(l.take i).sum
theorem gS(l:List Int):pre l 0=0:=by simp [pre]
theorem jf(l:List Int)(i:Nat)(h:i<l.length):pre l (i+1)=pre l i+l[i]:=by
 unfold pre;rw [ax h,List.sum_append];simp
def iq(l:List Int):Prop:=∀ i (h:i<l.length),1≤l[i]∧l[i]≤4072
theorem gq{l:List Int}(hf:iq l)(i:Nat):∀ j,i≤j→j≤l.length→pre l i+(j - i:Nat)≤pre l j:=by
 intro j TH;induction j with
 | zero =>
  intro _;have:i=0:=by omega
  subst this;simp
 | succ j ih =>
  intro hj;by_cases h:i=j+1
  ·subst h;simp
  ·have h1:=ih (by omega) (by omega)
   have h2:=jf l j (by omega)
   have h3:=(hf j (by omega)).1
   omega
theorem hO{l:List Int}(hf:iq l):∀ j,j≤l.length→0≤pre l j∧pre l j≤4072*(j:Int):=by
 intro j;induction j with
 | zero=>intro _;rw [gS];omega
 | succ j ih =>
  intro hj;have h1:=ih (by omega)
  have h2:=jf l j (by omega)
  have h3:=hf j (by omega)
  omega
def jr(l:List Int)(i:Nat):Nat:=(pre l i - (pre l l.length - pre l i)).natAbs
def jq(l:List Int)(i:Nat):Nat:=(pre l i - (pre l l.length - pre l (i+1))).natAbs
def dq(f:Nat→Nat)(hi i:Nat):Prop:=(1≤i∧i≤hi)∧∀ j,1≤j→j≤hi→f i≤f j∧(j<i→f i<f j)
theorem uH(p:Nat→Prop)[DecidablePred p] : ∀ n,p n→∃ j,j≤n∧p j∧∀ k,k<j→¬ p k:=by
 intro n;induction n using Nat.strongRecOn with
 | ind n ih =>
  intro hp;by_cases h:∃ k,k<n∧p k
  ·obtain ⟨k,hk,Co⟩:=h;obtain ⟨j,h1,h2,h3⟩:=ih k hk Co;exact ⟨j,by omega,h2,h3⟩
  ·exact ⟨n,aj _,hp,fun k hk Co=>h ⟨k,hk,Co⟩⟩
theorem QF{l:List Int}{m:Int}{i:Nat}(hf:iq l)(h2:2≤l.length)(hm:∀ k (h:k<l.length),l[k]≤m)(hb:dq (jr l) (l.length - 1) i):(jr l i:Int)≤m:=by
 suffices h:∃ j,1≤j∧j≤l.length - 1∧(jr l j:Int)≤m by
  obtain ⟨j,j1,j2,j3⟩:=h;have:=(hb.2 j j1 j2).1;omega
 obtain ⟨j,h1,Qj,h3⟩:=uH (fun j=>pre l l.length≤2*pre l j) l.length (by have:=(hO hf l.length (aj _)).1;show _≤_;omega)
 have T0:=gq hf 0 l.length (by omega) (by omega)
 rw [gS] at T0;have Lp:j≠0:=by rintro rfl;rw [gS] at Qj;omega
 obtain ⟨k,rfl⟩ : ∃ k,j=k+1:=⟨j - 1,by omega⟩
 have h4:=h3 k (by omega)
 have hk:=jf l k (by omega)
 have oG:=hm k (by omega)
 have hp:=(hO hf k (by omega)).1
 have hq:=gq hf (k+1) l.length (by omega) (aj _)
 by_cases ha:k+1=l.length
 ·refine ⟨k,by omega,by omega,?_⟩
  rw [ha] at hk;unfold jr;omega
 ·by_cases hz:k=0
  ·subst hz;rw [gS] at *;exact ⟨0+1,by omega,by omega,by unfold jr;omega⟩
  ·by_cases hc:(jr l (k+1):Int)≤m
   ·exact ⟨k+1,by omega,by omega,hc⟩
   ·refine ⟨k,by omega,by omega,?_⟩
    unfold jr at hc ⊢;omega
theorem Gt{l:List Int}{m:Int}{i:Nat}(hf:iq l)(h2:3≤l.length)(hm:∀ k (h:k<l.length),l[k]≤m)(hb:dq (jq l) (l.length - 2) i):(jq l i:Int)≤m:=by
 suffices h:∃ j,1≤j∧j≤l.length - 2∧(jq l j:Int)≤m by
  obtain ⟨j,j1,j2,j3⟩:=h;have:=(hb.2 j j1 j2).1;omega
 have B:=fun j hj=>(hO hf j hj).1
 obtain ⟨j,h1,Qj,h3⟩:=uH (fun j=>pre l l.length≤pre l j+pre l (j+1)) (l.length - 1) (by
  have:=B (l.length - 1) (by omega);show _≤_;rw [show l.length - 1+1=l.length by omega];omega)
 have Lp:j≠0:=by
  rintro rfl;have:=gq hf (0+1) l.length (by omega) (by omega)
  rw [gS] at Qj;omega
 obtain ⟨k,rfl⟩ : ∃ k,j=k+1:=⟨j - 1,by omega⟩
 have h4:=h3 k (by omega)
 have hk:=jf l k (by omega)
 have jx:=jf l (k+1) (by omega)
 have oG:=hm k (by omega)
 have aiq:=hm (k+1) (by omega)
 have hp:=B k (by omega)
 have hq:=gq hf (k+1+1) l.length (by omega) (aj _)
 by_cases ha:k+1=l.length - 1
 ·refine ⟨k,by omega,by omega,?_⟩
  rw [show k+1+1=l.length by omega] at jx
  unfold jq;omega
 ·by_cases hz:k=0
  ·subst hz;rw [gS] at *;exact ⟨0+1,by omega,by omega,by unfold jq;omega⟩
  ·by_cases hc:(jq l (k+1):Int)≤m
   ·exact ⟨k+1,by omega,by omega,hc⟩
   ·refine ⟨k,by omega,by omega,?_⟩
    unfold jq at hc ⊢;omega
theorem dq.one(f:Nat→Nat):dq f 1 1:=⟨⟨aj _,aj _⟩,fun j h1 h2=>by
 have:j=1:=by omega
 subst this;exact ⟨aj _,fun h=>by omega⟩⟩
theorem dq.IJ{f:Nat→Nat}{k i:Nat}(h:dq f k i)(hf:f (k+1)<f i):dq f (k+1) (k+1) :=
 ⟨⟨by omega,aj _⟩,fun j h1 h2=>by
  by_cases hj:j=k+1
  ·subst hj;exact ⟨aj _,fun h=>by omega⟩
  ·have:=(h.2 j h1 (by omega)).1
   exact ⟨by omega,fun _=>by omega⟩⟩
theorem dq.II{f:Nat→Nat}{k i:Nat}(h:dq f k i)(hf:¬ f (k+1)<f i):dq f (k+1) i :=
 ⟨⟨h.1.1,by have:=h.1.2;omega⟩,fun j h1 h2=>by
  by_cases hj:j=k+1
  ·subst hj;exact ⟨by omega,fun h'=>by have:=h.1.2;omega⟩
  ·exact h.2 j h1 (by omega)⟩
theorem TP{l:List Int}(hf:iq l)(j:Nat)(h1:1≤j)(h2:j+1≤l.length):(jr l j:Int)<pre l l.length:=by
 have a:=gq hf 0 j (by omega) (by omega)
 have b:=gq hf j l.length (by omega) (by omega)
 rw [gS] at a;unfold jr;omega
theorem TO{l:List Int}(hf:iq l)(j:Nat)(h1:1≤j)(h2:j+2≤l.length):(jq l j:Int)<pre l l.length:=by
 have a:=gq hf 0 j (by omega) (by omega)
 have b:=gq hf (j+1) l.length (by omega) (by omega)
 have c:=gq hf j (j+1) (by omega) (by omega)
 rw [gS] at a;unfold jq;omega
open Go.RowKit Go.ChangeShapes
def ON(x:String × List UInt8):String × DataW Unit:=(x.1,.iface "*errors.errorString" (.ptr (.agg [.lit (.string x.2)])))
def ie:DataW Unit→List UInt8
 | .iface _ (.ptr (.agg [.lit (.string t)]))=>t
 | _=>[]
theorem QL:prog.cellsOf 9=1:=by kernel_rfl
theorem QQ:prog.cellsOf 375=1:=by kernel_rfl
theorem star : "*" ++ "errors.errorString" = "*errors.errorString" := by decide
theorem VX(u:TypeId)(h:prog.typeName? 3 u=some "*errors.errorString"):u=360 :=
 typeName_ptr_named (nm := "errors.errorString") (by rw [star];kernel_rfl) (by kernel_rfl) (by decide) u (by rw [star];exact h)
theorem JE:(prog.info? 360).map (·.comparable)=some true:=by kernel_rfl
theorem IK:(prog.info? 375).map (·.size)=some 1:=by kernel_rfl
theorem YP{W:World}:∀ (l:List (String × List UInt8)) (rest:List (String × DataW Unit)) (G:Nat→Nat) (ps:List MemPlace),(∀ i x,l[i]?=some x→prog.globalNamed x.1=some (G i)∧(prog.globals[G i]?).map (·.type)=some 32)→DataW.LaidVars prog W (l.map ON++rest) ps→ps.Nodup→(∀ b off,MemPlace.cell b off ∈ ps→(∃ c t,W.heap[b]?=some (.cells c t (0,0)))∧∀ u v,W.cell? ⟨b,off,none⟩=some (.iface u v)→Value.okWide prog W .any 0 u v)→∃ xs:List Addr,xs.length=l.length∧(∀ i a,xs[i]?=some a→W.cell? ⟨G i,0,none⟩=some (.iface 360 (.pointer (some a)))∧∃ c t,W.heap[a.block]?=some (.cells c t (0,0)))∧xs.Nodup∧(∀ a ∈ xs,MemPlace.cell a.block a.off ∈ ps)∧∃ qs,DataW.LaidVars prog W rest qs∧qs.Nodup∧(∀ x ∈ qs,x ∈ ps):=by
 intro l;induction l with
 | nil =>
  intro rest G ps _ hv jw _;exact ⟨[],rfl,fun i a h=>by simp at h,List.nodup_nil,fun a h=>by simp at h,ps,hv,jw,fun x h=>h⟩
 | cons x r ih =>
  intro rest G ps hg hv jw Ej;obtain ⟨g,t,cs,fuel,p,q,fO,Eg,Tj,hd,hq,rfl⟩:=hv;obtain ⟨k1,k2⟩:=hg 0 x rfl;obtain rfl:=Option.some.inj (k1.symm.trans fO);obtain rfl:=Option.some.inj (k2.symm.trans Eg);obtain ⟨l0⟩:=cs;have ok0:∀ u v,l0=[.iface u v]→Value.okWide prog W .any 0 u v:=fun u v e=>by
   subst e;exact (Ej (G 0) 0 (by simp [MemPlace.row])).2 u v (by simpa using World.var?_cell fO Tj 0)
  obtain ⟨a,s,rfl,hc,hs,hz,rfl⟩:=errorString_of_trod underlying32 VX underlying360 underlying375 rfl rfl underlying9 QQ QL hd ok0;have vi:=jw;rw [ay] at vi;have X0:=(List.nodup_append.1 (List.nodup_append.1 vi).2.1);obtain ⟨xs,h1,h2,h3,h4,qs,h5,h6,h7⟩:=ih rest (fun i=>G (i+1)) q (fun i y hy=>hg (i+1) y (by simpa using hy)) hq X0.2.1 (fun b off hm=>Ej b off (cd _ hm))
  refine ⟨a::xs,by simp [h1],?_,?_,?_,qs,h5,h6,fun y hy=>cd _ (h7 y hy)⟩
  ·intro i b hb;cases i with
   | zero =>
    simp only [List.getElem?_cons_zero,Option.some.injEq] at hb;subst hb;exact ⟨by simpa using World.var?_cell fO Tj 0,(Ej a.block a.off (by simp [MemPlace.row])).1⟩
   | succ i =>
    exact h2 i b (by simpa using hb)
  ·refine List.nodup_cons.2 ⟨fun hm=>?_,h3⟩
   exact X0.2.2 (.cell a.block a.off) (by simp [MemPlace.row]) (.cell a.block a.off) (h4 a hm) rfl
  ·intro b hb;rcases List.mem_cons.1 hb with rfl | hb
   ·simp [MemPlace.row]
   ·exact cd _ (h4 b hb)
def dy(n:Nat)(G:Nat→Nat)(A:Nat→Addr)(w:World):Prop :=
 (∀ i,i<n→w.cell? ⟨G i,0,none⟩=some (.iface 360 (.pointer (some (A i))))∧∃ c t,w.heap[(A i).block]?=some (.cells c t (0,0)))∧(∀ i j,i<n→j<n→A i=A j→i=j)
theorem dy.keep{n:Nat}{G:Nat→Nat}{A:Nat→Addr}{w w':World}(h:dy n G A w)(hb:Below w.heap.size w w'):dy n G A w':=by
 refine ⟨fun i hi=>?_,h.2⟩
 obtain ⟨h1,c,t,h2⟩:=h.1 i hi;have bK:G i<w.heap.size:=World.block_lt_of_cell? w _ h1;have Ty:(A i).block<w.heap.size:=by
  rcases a8 (A i).block w.heap.size with h' | h'
  ·exact h'
  ·rw [aY h'] at h2;cases h2
 exact ⟨(hb.cell (p:=⟨G i,0,none⟩) bK).trans h1,c,t,by rw [hb.block _ Ty];exact h2⟩
theorem TS{W:World}{l:List (String × List UInt8)}{rest:List (String × DataW Unit)}{n:Nat}(G:Nat→Nat)(hl:l.length=n)(hg:∀ i x,l[i]?=some x→prog.globalNamed x.1=some (G i)∧(prog.globals[G i]?).map (·.type)=some 32)(h:laidMet prog (l.map ON++rest) W):∃ A,dy n G A W∧∃ qs,DataW.LaidVars prog W rest qs∧qs.Nodup:=by
 obtain ⟨ps,hv,jw,Ej⟩:=h;obtain ⟨xs,h1,h2,h3,_,qs,h5,h6,_⟩:=YP l rest G ps hg hv jw Ej;refine ⟨fun i=>xs.getD i default,⟨fun i hi=>?_,fun i j hi hj he=>?_⟩,qs,h5,h6⟩
 ·have:xs[i]?=some (xs.getD i default):=by
   rw [List.getD,af (by omega)];rfl
  exact h2 i _ this
 ·have mz:i<xs.length:=by omega
  have lY:j<xs.length:=by omega
  simp only [List.getD,af mz,af lY,jA] at he;have hp:=List.pairwise_iff_getElem.1 h3;rcases Nat.lt_trichotomy i j with h | h | h
  ·exact absurd he (hp i j mz lY h)
  ·exact h
  ·exact absurd he.symm (hp j i lY mz h)
theorem JA(A:Nat→Addr)(i:Nat)(w:World):(binOp .eql 32 (.iface 360 (.pointer (some (A i)))) (.iface 360 (.pointer (some (A i))))).run prog w = .ok (.bool true) w:=by
 obtain ⟨i1,hi,WS⟩:=Option.map_eq_some_iff.1 JE;obtain ⟨j,hj,_⟩:=Option.map_eq_some_iff.1 IK;exact run_eql_iface_ptr_same w _ underlying32 underlying360 hi WS hj
theorem lq{n:Nat}{G:Nat→Nat}(A:Nat→Addr)(i k:Nat)(w:World)(h:dy n G A w)(hi:i<n)(hk:k<n)(dH:i≠k):(binOp .eql 32 (.iface 360 (.pointer (some (A i)))) (.iface 360 (.pointer (some (A k))))).run prog w = .ok (.bool false) w:=by
 obtain ⟨i1,Cs,WS⟩:=Option.map_eq_some_iff.1 JE;obtain ⟨j,hj,hjs⟩:=Option.map_eq_some_iff.1 IK;obtain ⟨_,c,t,hb⟩:=h.1 i hi;obtain ⟨_,c',t',M5⟩:=h.1 k hk;exact run_eql_iface_ptr_other w underlying32 underlying360 Cs WS hj (by rw [hjs];decide) (fun he=>dH (h.2 i k hi hk he)) hb M5
def eV(i:Nat):Nat:=([0,1,2,3,4,5,6,7,8,9,10,11,12] : List Nat).getD i 0
abbrev XP(A:Nat→Addr)(w:World):Prop:=dy 13 eV A w
end Go.Proofs.YtihmgigfkmofnaaGreatDoor
namespace Go.Proofs.YtihmgigfkmofnaaGreatDoor
open Go.RowKit
def Fo(w:World)(v:Value)(l:List Int):Prop:=∃ a cap,v = .slice a l.length cap∧l.length≤cap∧∀ j (h:j<l.length),∃ g o,a=some ⟨g,o,none⟩∧w.cell? ⟨g,o+j,none⟩=some (.int .i64 l[j])
theorem Fo.below{w w':World}{v:Value}{l:List Int}(h:Fo w v l)(hb:Below w.heap.size w w'):Fo w' v l:=by
 obtain ⟨a,cap,rfl,hle,hc⟩:=h;refine ⟨a,cap,rfl,hle,fun j hj=>?_⟩
 obtain ⟨g,o,ha,bm⟩:=hc j hj;exact ⟨g,o,ha,(hb.cell (p:=⟨g,o+j,none⟩) (World.block_lt_of_cell? w _ bm)).trans bm⟩
theorem ES(a b:Int)(w:World)(ha:0≤a∧a≤1152921504606846976)(hb:0≤b∧b≤1152921504606846976):Calls prog 237 #[.int .i64 a,.int .i64 b] w fun e w'=>e = .returned (.int .i64 ((a - b).natAbs:Int))∧w=w':=by
 obtain ⟨a0,a1⟩:=ha;obtain ⟨b0,b1⟩:=hb;go_enter func237,ntmps237;go_wp2
 all_goals
  go_ret;exact ⟨IQ (by omega),rfl⟩
theorem xX(n:Int)(w:World):Calls prog 262 #[.int .i64 n] w fun e w'=>e = .returned (.bool (decide (1≤n∧n≤4072)))∧w=w':=by
 by_cases h1:1≤n
 ·by_cases h2:n≤4072
  ·have e1:decide (1≤n∧n≤4072)=true:=decide_eq_true ⟨h1,h2⟩;rw [e1];go_enter func262,ntmps262;go_wp2;go_ret;exact ⟨rfl,rfl⟩
  ·have e1:decide (1≤n∧n≤4072)=false:=decide_eq_false (fun h=>h2 h.2)
   rw [e1];go_enter func262,ntmps262;go_wp2;go_ret;exact ⟨rfl,rfl⟩
 ·have e1:decide (1≤n∧n≤4072)=false:=decide_eq_false (fun h=>h1 h.1)
  rw [e1];go_enter func262,ntmps262;go_wp2;go_ret;exact ⟨rfl,rfl⟩
theorem oV(x:Int)(h0:0≤x)(h1:x≤2305843009213693952):IntKind.i64.wrap x=x:=by
 rw [IntKind.wrap_i64];omega
theorem IE(a:Option Addr)(cap n:Nat)(l:List Int)(w:World)(hm:n≤17592186044416)(e1:l.length=n)(h1:∀ j (h:j<l.length),∃ g o,a=some ⟨g,o,none⟩∧w.cell? ⟨g,o+j,none⟩=some (.int .i64 l[j])):Calls prog 254 #[.slice a n cap] w fun e w'=>((iq l∧e = .returned (.tuple #[.int .i64 (pre l n),.bool true]))∨(¬ iq l∧e = .returned (.tuple #[.int .i64 0,.bool false])))∧w=w':=by
 have HE:Hid (l.length=n):=e1;have H1:=ab h1;clear e1 h1;have HP:=ab (gS l);go_enter func254,ntmps254;go_wp2;go_loop [4,9] (fun r i=>∃ k:Nat,k≤n∧i = .int .i64 k∧(∀ j (h:j<l.length),j<k→1≤l[j]∧l[j]≤4072)∧(0≤pre l k∧pre l k≤4072*(k:Int))∧r = .int .i64 (pre l k)) (fun _ i=>n - (intOf i).toNat)
 case atStart=>exact ⟨0,aB _,rfl,fun j h h'=>by omega,by rw [HP.out];omega,by rw [HP.out]⟩
 case round =>
  obtain ⟨k,hk,rfl,hf,FH,rfl⟩:=hrel;have HF:=ab hf;clear hf;by_cases bK:k<n
  ·have jx:k<l.length:=by have:=HE.out;omega
   obtain ⟨g,o,rfl,f1⟩:=H1.out k jx;have HS:=ab (jf l k jx);obtain ⟨x,hx⟩ : ∃ x,x=l[k]:=⟨_,rfl⟩;rw [← hx] at f1;have HX:=ab hx;clear hx H1 HP;obtain ⟨p,hp⟩ : ∃ p,p=pre l k:=⟨_,rfl⟩;rw [← hp] at FH ⊢;have HPP:=ab hp;have HB:=ab FH;clear hp FH;by_cases Wi:1≤x∧x≤4072
   ·have HI:Hid (∀ w,Calls prog 262 #[.int .i64 x] w fun e w'=>e = .returned (.bool true)∧w=w'):=fun w=>by
     have h:=xX x w;rw [decide_eq_true Wi] at h;exact h
    have hw:IntKind.i64.wrap (p+x)=p+x:=oV _ (by have:=HB.out;omega) (by have:=HB.out;omega)
    have JM:=ab Wi;clear Wi;go_wp2_with (go_at_call 262;refine (HI.out _).mono ?_;rintro e w' ⟨rfl,rfl⟩)
    go_round
    case rel =>
     refine ⟨k+1,by omega,by go_num,fun j hj hjk=>?_,?_,?_⟩
     ·by_cases hjj:j=k
      ·subst hjj;rw [← HX.out];exact JM.out
      ·exact HF.out j hj (by omega)
     ·have:=HS.out;have:=HPP.out;have:=HX.out;have:=HB.out;have:=JM.out;omega
     ·rw [HS.out,← HPP.out,← HX.out]
    case measure=>simp [intOf];omega
   ·have HI:Hid (∀ w,Calls prog 262 #[.int .i64 x] w fun e w'=>e = .returned (.bool false)∧w=w'):=fun w=>by
     have h:=xX x w;rw [decide_eq_false Wi] at h;exact h
    have Ux:Hid (¬ iq l):=fun hf=>Wi (by have:=hf k jx;rw [← HX.out] at this;exact this)
    clear Wi;go_wp2_with (go_at_call 262;refine (HI.out _).mono ?_;rintro e w' ⟨rfl,rfl⟩)
    go_ret2;exact ⟨.inr ⟨Ux.out,rfl⟩,rfl⟩
  ·have nU:k=n:=by omega
   clear H1;have sm:Hid (iq l):=fun j hj=>HF.out j hj (by have:=HE.out;omega)
   subst nU;obtain ⟨p,hp⟩ : ∃ p,p=pre l k:=⟨_,rfl⟩;rw [← hp] at FH ⊢;have HPP:=ab hp;clear FH HP hp;go_wp2;go_ret2;exact ⟨.inl ⟨sm.out,by rw [← HPP.out];rfl⟩,rfl⟩
theorem QD(p a b:Int)(w:World)(ha:0≤a∧a≤1152921504606846976)(hb:0≤b∧b≤1152921504606846976):Calls prog 236 #[.int .i64 p,.int .i64 a,.int .i64 b] w fun e w'=>e = .returned (.int .i64 ((a - b).natAbs:Int))∧w=w':=by
 have HD:=ab (ES a b w ha hb);clear ha hb;go_enter func236,ntmps236;go_wp2_with (go_at_call 237;refine HD.out.mono ?_;rintro e w' ⟨rfl,rfl⟩)
 go_ret;exact ⟨rfl,rfl⟩
theorem LQ(A:Nat→Addr)(g o cap m n:Nat)(l:List Int)(w:World)(ZW:n≤17592186044416)(fs:1≤m)(hn:n=m+1)(e1:l.length=n)(cT:n≤cap)(hE:dy 4 eV A w)(h1:∀ j (h:j<l.length),w.cell? ⟨g,o+j,none⟩=some (.int .i64 l[j])):Calls prog 235 #[.slice (some ⟨g,o,none⟩) n cap,.int .i64 2,.func (.func 236) #[] #[]] w fun e w'=>((iq l∧∃ i:Nat,e = .returned (.tuple #[.int .i64 (i:Int),.nilIface])∧dq (jr l) m i)∨(¬ iq l∧e = .returned (.tuple #[.int .i64 0,.iface 360 (.pointer (some (A 0)))])))∧Below w.heap.size w w':=by
 have c0:w.cell? ⟨0,0,none⟩=some (.iface 360 (.pointer (some (A 0)))):=(hE.1 0 (by decide)).1
 have HS:=ab (IE (some ⟨g,o,none⟩) cap n l w (by omega) e1 (fun j h=>⟨g,o,rfl,h1 j h⟩))
 have hm:m≤17592186044416:=by omega
 have HE:Hid (l.length=n):=e1;have HN:Hid (n=m+1):=hn;have H1:=ab h1;have Rn:=ab (gS l);have hnI:(n:Int)=(m:Int)+1:=by omega
 have vg:IntKind.i64.wrap ((n:Int) - 2)=(m:Int) - 1:=by rw [IntKind.wrap_i64];omega
 have qC:IntKind.i64.wrap ((m:Int) - 1+1)=(m:Int):=by rw [IntKind.wrap_i64];omega
 have bK:¬ (n:Int)<2:=by omega
 have hmc:(m:Int)≤(cap:Int):=by omega
 have Z0:(0:Int)≤(m:Int):=by omega
 clear e1 hn h1 hE hnI ZW;by_cases hF:iq l
 ·have HT:=ab (hO hF n (by have:=HE.out;omega))
  have HF:=ab hF;have mW:Hid (Calls prog 254 #[.slice (some ⟨g,o,none⟩) n cap] w fun e w'=>e = .returned (.tuple #[.int .i64 (pre l n),.bool true])∧w=w'):=by
   refine HS.out.mono ?_
   rintro e w' ⟨h | h,rfl⟩
   ·exact ⟨h.2,rfl⟩
   ·exact absurd hF h.1
  obtain ⟨T,hT⟩ : ∃ T,T=pre l n:=⟨_,rfl⟩;rw [← hT] at mW HT;have Vw:=ab hT;clear hT HS c0 hF;go_enter func235,ntmps235;go_wp2_with (go_at_call 254;refine mW.out.mono ?_;rintro e w' ⟨rfl,rfl⟩)
  go_loop [8,10,11,12,38] (fun re be le ah i=>∃ (k l7:Nat) (least:Int),k≤m∧i = .int .i64 k∧re = .int .i64 (T - pre l k)∧be = .int .i64 (l7:Int)∧le = .int .i64 least∧ah = .int .i64 (pre l k)∧((k=0∧l7=0∧least=T)∨(1≤k∧dq (jr l) k l7∧least=jr l l7))) (fun _ _ _ _ i=>m - (intOf i).toNat)
  case atStart=>exact ⟨0,0,T,aB _,rfl,by rw [Rn.out,Int.sub_zero],rfl,rfl,by rw [Rn.out],.inl ⟨rfl,rfl,rfl⟩⟩
  case round =>
   obtain ⟨k,l7,least,hk,rfl,rfl,rfl,rfl,rfl,eK⟩:=hrel;have gP:=ab eK;clear eK;by_cases hltk:k<m
   ·have jx:k<l.length:=by have:=HE.out;have:=HN.out;omega
    have f1:=H1.out k jx;have sH:=ab (jf l k jx);have HPB:=ab (hO HF.out k (by omega))
    have Cg:=ab (hO HF.out (k+1) (by omega))
    have Xw:=ab (gq HF.out (k+1) n (by have:=HE.out;have:=HN.out;omega) (by have:=HE.out;omega))
    obtain ⟨x,hx⟩ : ∃ x,x=l[k]:=⟨_,rfl⟩;rw [← hx] at f1 sH;obtain ⟨p,hp⟩ : ∃ p,p=pre l k:=⟨_,rfl⟩;rw [← hp] at HPB sH ⊢;obtain ⟨q,hq⟩ : ∃ q,q=pre l (k+1):=⟨_,rfl⟩;rw [← hq] at Cg sH Xw;rw [← Vw.out] at Xw;have HQ:=ab hq;have Ys:Hid ((k:Int)≤17592186044416∧4072*((k:Int)+1)≤72057594037927936):=⟨by omega,by omega⟩
    have Nh:Hid (0≤q∧q≤1152921504606846976):=⟨Cg.out.1,by have:=Cg.out.2;have:=Ys.out;omega⟩
    have CA:Hid (0≤T - q∧T - q≤1152921504606846976):=⟨by have:=Xw.out;omega,by have:=HT.out.2;have:=Cg.out.1;have:=HN.out;omega⟩
    have vR:IntKind.i64.wrap (p+x)=q:=by rw [← sH.out];exact oV _ Nh.out.1 (by have:=Nh.out;omega)
    have GY:IntKind.i64.wrap (T - p - x)=T - q:=by rw [show T - p - x=T - q by have:=sH.out;omega];exact oV _ CA.out.1 (by have:=CA.out;omega)
    have MV:IntKind.i64.wrap ((k:Int)+1)=((k+1:Nat):Int):=by rw [IntKind.wrap_i64];omega
    have XL:Hid (Calls prog 236 #[.int .i64 ((k+1:Nat):Int),.int .i64 q,.int .i64 (T - q)] w fun e w'=>e = .returned (.int .i64 ((jr l (k+1):Nat):Int))∧w=w'):=by
     have h:=QD ((k+1:Nat):Int) q (T - q) w Nh.out CA.out;have e:jr l (k+1)=(q - (T - q)).natAbs:=by unfold jr;rw [HE.out,← Vw.out,← HQ.out]
     rw [e];exact h
    have XI:=ab (TP HF.out (k+1) (by omega) (by have:=HE.out;have:=HN.out;omega))
    rw [HE.out,← Vw.out] at XI;obtain ⟨gp,WL⟩ : ∃ gp:Nat,gp=jr l (k+1):=⟨_,rfl⟩;rw [← WL] at XL XI;have XH:=ab WL;have dK:(k:Int)<(m:Int):=by omega
    clear hx hp hq WL H1 Rn mW;by_cases hless:(gp:Int)<least
    ·have Xu:Hid (dq (jr l) (k+1) (k+1)):=by
      rcases gP.out with ⟨rfl,_,_⟩ | ⟨_,hb,he⟩
      ·exact dq.one _
      ·exact hb.IJ (by rw [← XH.out];omega)
     clear gP;go_wp2_with (go_at_call 236;refine (XL.out).mono ?_;rintro e w' ⟨rfl,rfl⟩)
     go_round
     case rel=>exact ⟨k+1,k+1,gp,by omega,rfl,by rw [← HQ.out],rfl,rfl,by rw [← HQ.out],.inr ⟨by omega,Xu.out,by rw [XH.out]⟩⟩
     case measure=>simp [intOf];omega
    ·have Ci:Hid (1≤k+1∧dq (jr l) (k+1) l7∧least=jr l l7):=by
      rcases gP.out with ⟨_,_,rfl⟩ | ⟨_,hb,he⟩
      ·exact absurd XI.out hless
      ·exact ⟨by omega,hb.II (by rw [← XH.out];omega),he⟩
     clear gP;go_wp2_with (go_at_call 236;refine (XL.out).mono ?_;rintro e w' ⟨rfl,rfl⟩)
     go_round
     case rel=>exact ⟨k+1,l7,least,by omega,rfl,by rw [← HQ.out],rfl,rfl,by rw [← HQ.out],.inr Ci.out⟩
     case measure=>simp [intOf];omega
   ·have Ln:k=m:=by omega
    have mP:Hid (dq (jr l) m l7):=by
     rcases gP.out with ⟨h0,_,_⟩ | ⟨_,hb,_⟩
     ·omega
     ·rw [← Ln];exact hb
    subst Ln;obtain ⟨p,hp⟩ : ∃ p,p=pre l k:=⟨_,rfl⟩;rw [← hp];clear hp gP H1 mW Rn;go_wp2;go_ret2;exact ⟨.inl ⟨HF.out,l7,rfl,mP.out⟩,Below.refl _ _⟩
 ·have mW:Hid (Calls prog 254 #[.slice (some ⟨g,o,none⟩) n cap] w fun e w'=>e = .returned (.tuple #[.int .i64 0,.bool false])∧w=w'):=by
   refine HS.out.mono ?_
   rintro e w' ⟨h | h,rfl⟩
   ·exact absurd h.1 hF
   ·exact ⟨h.2,rfl⟩
  have HF:=ab hF;clear HS hF H1 Rn;go_enter func235,ntmps235;go_wp2_with (go_at_call 254;refine mW.out.mono ?_;rintro e w' ⟨rfl,rfl⟩)
  go_quiet (fail)
  go_wp2;go_ret2;exact ⟨.inr ⟨HF.out,rfl⟩,aA (Below.refl _ _) _⟩
theorem A0(A:Nat→Addr)(a:Option Addr)(n cap:Nat)(th:Int)(fv:Value)(w:World)(hn:(n:Int)<th)(_hm:n≤17592186044416)(hE:dy 4 eV A w):Calls prog 235 #[.slice a n cap,.int .i64 th,fv] w fun e w'=>e = .returned (.tuple #[.int .i64 0,.iface 360 (.pointer (some (A 3)))])∧Below w.heap.size w w':=by
 have c0:w.cell? ⟨3,0,none⟩=some (.iface 360 (.pointer (some (A 3)))):=(hE.1 3 (by decide)).1
 clear hE;go_enter func235,ntmps235;go_wp2;go_quiet (fail)
 go_wp2;go_ret2;exact ⟨rfl,aA (Below.refl _ _) _⟩
def MQ(A:Nat→Addr)(th:Nat)(f:Nat→Nat)(l:List Int)(e:Ending):Prop :=
 (l.length<th∧e = .returned (.tuple #[.int .i64 0,.iface 360 (.pointer (some (A 3)))]))∨(th≤l.length∧¬ iq l∧e = .returned (.tuple #[.int .i64 0,.iface 360 (.pointer (some (A 0)))])) ∨
  (th≤l.length∧iq l∧∃ i:Nat,e = .returned (.tuple #[.int .i64 (i:Int),.nilIface])∧dq f (l.length - (th - 1)) i)
theorem T2(A:Nat→Addr)(v:Value)(l:List Int)(w:World)(hm:l.length≤17592186044416)(hr:Fo w v l)(hE:dy 4 eV A w):Calls prog 210 #[v] w fun e w'=>MQ A 2 (jr l) l e∧Below w.heap.size w w':=by
 obtain ⟨a,cap,rfl,cT,hc⟩:=hr;have H:Hid (Calls prog 235 #[.slice a l.length cap,.int .i64 2,.func (.func 236) #[] #[]] w fun e w'=>∃ x y,e = .returned (.tuple #[x,y])∧MQ A 2 (jr l) l (.returned (.tuple #[x,y]))∧Below w.heap.size w w'):=by
  by_cases hs:l.length<2
  ·refine (A0 A a l.length cap 2 _ w (by omega) hm hE).mono ?_
   rintro e w' ⟨rfl,hb⟩;exact ⟨_,_,rfl,.inl ⟨hs,rfl⟩,hb⟩
  ·obtain ⟨g,o,rfl,_⟩:=hc 0 (by omega)
   refine (LQ A g o cap (l.length - 1) l.length l w hm (by omega) (by omega) rfl cT hE (fun j h=>by obtain ⟨g',o',he,bm⟩:=hc j h;cases he;exact bm)).mono ?_
   rintro e w' ⟨⟨hf,i,rfl,hi⟩ | ⟨hf,rfl⟩,hb⟩
   ·exact ⟨_,_,rfl,.inr (.inr ⟨by omega,hf,i,rfl,hi⟩),hb⟩
   ·exact ⟨_,_,rfl,.inr (.inl ⟨by omega,hf,rfl⟩),hb⟩
 clear hc hE cT;go_enter func210,ntmps210;go_wp2_with (go_at_call 235;refine H.out.mono ?_;rintro e w' ⟨x,y,rfl,hv,hb⟩;have HV:=ab hv;clear hv)
 go_ret2;exact ⟨HV.out,hb⟩
def It(th:Nat)(f:Nat→Nat)(l:List Int)(i c:Nat):Prop :=
 (l.length<th∧i=0∧c=4)∨(th≤l.length∧¬ iq l∧i=0∧c=1)∨(th≤l.length∧iq l∧dq f (l.length - (th - 1)) i∧c=0)
def yM(A:Nat→Addr)(ev:Value)(c:Nat):Prop :=
 (ev = .nilIface∧c=0)∨(ev = .iface 360 (.pointer (some (A 0)))∧c=1)∨(ev = .iface 360 (.pointer (some (A 1)))∧c=2)∨(ev = .iface 360 (.pointer (some (A 2)))∧c=3)∨(ev = .iface 360 (.pointer (some (A 3)))∧c=4)
theorem MQ.num{A:Nat→Addr}{th:Nat}{f:Nat→Nat}{l:List Int}{e:Ending}(h:MQ A th f l e):∃ (i c:Nat) (ev:Value),e = .returned (.tuple #[.int .i64 (i:Int),ev])∧It th f l i c∧yM A ev c:=by
 rcases h with ⟨h1,rfl⟩ | ⟨h1,hf,rfl⟩ | ⟨h1,hf,i,rfl,hi⟩
 ·exact ⟨0,4,_,rfl,.inl ⟨h1,rfl,rfl⟩,.inr (.inr (.inr (.inr ⟨rfl,rfl⟩)))⟩
 ·exact ⟨0,1,_,rfl,.inr (.inl ⟨h1,hf,rfl,rfl⟩),.inr (.inl ⟨rfl,rfl⟩)⟩
 ·exact ⟨i,0,_,rfl,.inr (.inr ⟨h1,hf,hi,rfl⟩),.inl ⟨rfl,rfl⟩⟩
theorem nG.ints{w:World}{v:Value}{l:List Int}(h:nG w v (ints l)):Fo w v l:=by
 obtain ⟨a,cap,rfl,hle,_,hc⟩:=h;rw [j9] at hle ⊢;exact ⟨a,cap,rfl,hle,fun j hj=>hc j _ (Pp l j hj)⟩
namespace B
theorem uQ(p:Lk)(w:World)(h1:p.1.size≤140737488355328):Calls prog 194 #[.agg #[.string p.1,.int .i64 p.2]] w fun e w'=>e = .returned (.int .i64 (yT p:Int))∧Below w.heap.size w w':=by
 have fi:=ai w (.cells #[.string p.1,.int .i64 p.2] 179);have vR:IntKind.i64.wrap (7+(p.1.size:Int))=(yT p:Int):=by rw [IntKind.wrap_i64];unfold yT;omega
 go_enter func194,ntmps194;go_wp2;go_ret;exact ⟨rfl,fi⟩
def mj(l:List Lk):List Int:=l.map fun p=>(yT p:Int)
theorem qZ(l:List Lk):(mj l).length=l.length:=by simp [mj]
theorem wK(l:List Lk)(k:Nat)(h:k<l.length):mj (l.take (k+1))=mj (l.take k)++[(yT l[k] : Int)]:=by
 unfold mj;rw [ax h,bz];rfl
def od(l:List Lk)(k:Nat):List Value:=ints (mj (l.take k))++List.replicate (l.length - k) (.int .i64 0)
theorem Kj(l:List Lk)(k:Nat)(h:k<l.length):(od l k).set k (.int .i64 (yT l[k] : Int))=od l (k+1):=by
 have hl:(ints (mj (l.take k))).length=k:=by rw [j9,qZ,ag];omega
 unfold od;rw [bW _ _ (by omega),hl,dR,wK l k h,oC,show l.length - k=l.length - (k+1)+1 by omega,List.replicate_succ,List.set_cons_zero,ay]
 rfl
theorem Kk(l:List Lk)(k:Nat)(h:k≤l.length):(od l k).length=l.length:=by
 unfold od;rw [ae,j9,qZ,ag,bA];omega
theorem Ge(l:List Lk):od l 0=List.replicate l.length (.int .i64 0):=by simp [od,ints,mj]
theorem Kl(l:List Lk):od l l.length=ints (mj l):=by simp [od]
theorem iR{w w':World}{base e n:Nat}{v:Value}{xs:List Value}(h:w.ownsRow base e 1 v n xs)(hb:Below w.heap.size w w'):w'.ownsRow base e 1 v n xs:=by
 refine ⟨h.1,?_⟩;rcases h.2 with h' | ⟨g,cap,cur,h',h1,h2,hr⟩
 ·exact .inl h'
 ·refine .inr ⟨g,cap,cur,h',h1,?_,hr⟩;have hg:g<w.heap.size:=by
   rcases a8 g w.heap.size with h' | h'
   ·exact h'
   ·rw [aY h'] at h2;cases h2
  rw [hb.block g hg];exact h2
theorem Hy(v:Value)(l:List Lk)(w:World)(cO:Vu l)(hm:l.length≤5864062014805)(hr:di w v l):Calls prog 214 #[v] w fun e w'=>∃ u,e = .returned u∧Fo w' u (mj l)∧Below w.heap.size w w':=by
 obtain ⟨i0,hi,hz,b8,kP⟩:=info_parts info3;obtain ⟨a,cap,rfl,cT,_,hc⟩:=hr;have HC:=ab hc;have pF:=ab cO;obtain ⟨wm,oG,fV,oH⟩:=run_make_full (P:=prog) w w.heap.size 69 3 i0 _ 1 underlying69 hi hz b8 .i64 .i64 l.length (by rw [kP];omega) (by unfold maxLen;omega) (aj _)
 have mV:(madeCells (Value.int .i64 0).cells (l.length*1)).toList=od l 0:=by
  rw [Ge,Nat.mul_one];exact toList_madeCells_one _ _
 rw [mV] at fV;have Cu:Below w.heap.size w wm:=(Below.refl _ _).grown oH (aj _) (fun j hj=>by cases hj)
 obtain ⟨n,hn⟩ : ∃ n,n=l.length:=⟨_,rfl⟩;obtain ⟨b,hb⟩ : ∃ b,b=w.heap.size:=⟨_,rfl⟩;rw [← hn] at hm oG fV ⊢;rw [← hb] at oG fV;have HN:=ab hn;have HB:=ab hb;have HO:=ab fV;have JS:=ab Cu;clear hc hn cT cO hb fV Cu oH hi hz b8 kP mV;go_enter func214,ntmps214;go_wp2;clear oG;go_loopw [11] (fun i wr=>∃ k:Nat,k≤n∧i = .int .i64 k∧wr.ownsRow b 3 1 (.slice (some ⟨b,0,none⟩) n n) n (od l k)∧Below w.heap.size w wr) (fun i _=>n - (intOf i).toNat)
 case atStart=>exact ⟨0,aB _,rfl,HO.out,JS.out⟩
 case round =>
  obtain ⟨k,hk,rfl,aF,bO⟩:=hrel;clear HO JS;by_cases bK:k<n
  ·have de:k<l.length:=by have:=HN.out;omega
   obtain ⟨g,o,rfl,f1,f2⟩:=HC.out k de;have c1:wr.cell? ⟨g,o+k*2,none⟩=some (.string l[k].1):=(bO.cell (p:=⟨g,o+k*2,none⟩) (World.block_lt_of_cell? w _ f1)).trans f1;have c2:wr.cell? ⟨g,o+k*2+1,none⟩=some (.int .i64 l[k].2):=(bO.cell (p:=⟨g,o+k*2+1,none⟩) (World.block_lt_of_cell? w _ f2)).trans f2;have AQ:=pF.out l[k] (aI _);have iC:=ab (Kj l k de);have fi:=ai wr (.cells #[.string l[k].1,.int .i64 l[k].2] 179);have qV:=ab (iR aF fi);have bN:=ab (Below.next bO fi);have HZ:=ab (fun W=>uQ l[k] W AQ)
   obtain ⟨p,hp⟩ : ∃ p,p=l[k]:=⟨_,rfl⟩;rw [← hp] at c1 c2 iC qV bN HZ;have kQ:=ab (Kk l k (by omega))
   have dK:(k:Int)<(n:Int):=by omega
   have j0:(0:Int)≤(k:Int):=by omega
   clear hp HC f1 f2 bO aF AQ fi;go_wp2_with fail;refine (HZ.out _).mono ?_
   rintro e w1 ⟨rfl,aM⟩;have kI:=iR qV.out aM;have q1:∃ u,w1.cell? ⟨b,k,none⟩=some u:=by
    rw [World.ownsRow.cellAt kI k (by omega)]
    exact ⟨_,af (by rw [kQ.out];exact de)⟩
   obtain ⟨u,q1⟩:=q1;have z1:w1.frozen? ⟨b,k,none⟩=false:=World.ownsRow.frozenAt kI k;obtain ⟨z,hz⟩ : ∃ z,z=yT p:=⟨_,rfl⟩;rw [← hz] at iC ⊢;have eK:=(World.ownsRow.stored kI k (.int .i64 (z:Int))).1;rw [iC.out] at eK;have jE:=ab eK;have bG:Hid (Below w.heap.size w (w1.setCell ⟨b,k,none⟩ (.int .i64 (z:Int)))):=(Below.next bN.out aM).setCell (by rw [HB.out];exact aj _) _
   clear aM bN HZ c1 c2 kI eK hz iC qV;go_wp2;go_roundw
   case rel=>exact ⟨k+1,by omega,by go_num,jE.out,bG.out⟩
   case measure=>simp [intOf];omega
  ·have nU:k=l.length:=by have:=HN.out;omega
   rw [nU,Kl] at aF;have HI:=ab (gd aF).ints;have jW:=ab bO;have dK:¬ (k:Int)<(n:Int):=by have:=HN.out;omega
   have VG:=ab nU;clear HC bO aF nU;go_wp2;go_ret;exact ⟨_,rfl,HI.out,jW.out⟩
theorem oB(ad:Addr)(n cap:Nat)(l:List Lk)(w:World)(hm:l.length≤5864062014805)(hn:l.length=n)(hr:di w (.slice (some ad) n cap) l):Calls prog 209 #[.slice (some ad) n cap] w fun e w'=>∃ u,e = .returned u∧b7 w' w.heap.size u l∧Below w.heap.size w w':=by
 have qD:∀ w,(binOp .eql 148 (.slice (some ad) n cap) (.slice none 0 0)).run prog w = .ok (.bool false) w:=fun w=>by
  have h2:∀ d:Nat,(Op.equalIn (d+1) 148 (.slice (some ad) n cap) (.slice none 0 0)).run prog w = .ok false w:=fun d=>by
   simp [Op.equalIn,run_underlying underlying148]
  simp only [binOp];simp [Op.equal,Op.maxDepth,h2 9999]
 have fi:=ai w (.cells #[] 179);have ho:b7 (w.alloc (.cells #[] 179)) w.heap.size (.slice (some ⟨w.heap.size,0,none⟩) 0 0) []:=World.ownsRow_lit w #[] 0 (aj _) (aB _) rfl;obtain ⟨a1,c1,w1,bq,aF,hg⟩:=fo w.heap.size _ _ [] l _ ho (hr.below fi) (by simp;omega) (by simp)
 rw [List.length_nil,Nat.zero_add,hn] at bq aF;rw [List.nil_append] at aF;have aM:Below w.heap.size w w1:=fi.grown hg (by simp) (fun k hk=>by simp [Value.ownBlock] at hk;omega)
 have HO:=ab aF;have HB:=ab aM;clear hr fi ho aF hg aM;go_enter func209,ntmps209;go_wp2_with (first | (at_builtin;refine wpList_append_run 148 rfl (.tmp 5) (.tmp 6) rfl rfl _ _ rfl rfl _ _ bq ?_))
 clear bq;go_ret;exact ⟨_,rfl,HO.out,HB.out⟩
theorem eU(v:Value)(l:List Lk)(w:World)(hm:l.length≤5864062014805)(hr:di w v l):Calls prog 209 #[v] w fun e w'=>∃ u,e = .returned u∧b7 w' w.heap.size u l∧Below w.heap.size w w':=by
 obtain ⟨a,c,hv⟩:=hr.form;subst hv;cases a with
 | some ad=>exact oB ad l.length c l w hm rfl hr
 | none =>
  have h0:l=[]∧c=0:=by
   obtain ⟨a',c',he,_,hn,hc⟩:=hr;cases he;refine ⟨?_,hn rfl⟩;cases l with
   | nil=>rfl
   | cons p r=>obtain ⟨g,o,he,_⟩:=hc 0 (by simp);cases he
  obtain ⟨rfl,rfl⟩:=h0;have qD:∀ w,(binOp .eql 148 (.slice none 0 0) (.slice none 0 0)).run prog w = .ok (.bool true) w:=fun w=>by
   have h2:∀ d:Nat,(Op.equalIn (d+1) 148 (.slice none 0 0) (.slice none 0 0)).run prog w = .ok true w:=fun d=>by
    simp [Op.equalIn,run_underlying underlying148]
   simp only [binOp];simp [Op.equal,Op.maxDepth,h2 9999]
  clear hr;rw [List.length_nil];go_enter func209,ntmps209;go_wp2;go_ret;exact ⟨_,rfl,b7.nil _ _,Below.refl _ _⟩
end B
end Go.Proofs.YtihmgigfkmofnaaGreatDoor
