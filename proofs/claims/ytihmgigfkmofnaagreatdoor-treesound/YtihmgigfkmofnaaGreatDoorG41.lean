import Derived.Test.YtihmgigfkmofnaaGreatDoorG40
set_option maxRecDepth 100000
open Go.Proofs.Tryz
namespace Go.Proofs.YtihmgigfkmofnaaGreatDoor.Q
open Go.ChangeShapes Go.WideShapes Go.ChangeAt Go.WideMaps Go.WideElems Go.RowKit Go.Joins
variable {W:World} {H:Type} {enc:TypeId × Value→H}
theorem Q4:prog.globalNamed "math/bits.deBruijn64tab" = some 13:=by kernel_rfl
theorem WO:(prog.globals[13]?).map (·.type)=some 266:=by kernel_rfl
theorem IE:prog.cellsOf 5=1:=by kernel_rfl
theorem yP:prog.cellsOf 266=64:=by kernel_rfl
def aaj(x:String × DataW Unit):Bool:=x.1 == "math/bits.deBruijn64tab"
theorem om(h:laidMet prog [("math/bits.deBruijn64tab",Rows.laid_math_bits_deBruijn64tab)] W):uO W:=by
 have e:(Rows.laid_math_bits_deBruijn64tab:DataW Unit)=Lib.tabData .u8 (Lib.deBruijn64tab.map Int.ofNat):=by simp [Rows.laid_math_bits_deBruijn64tab,Lib.tabData,Lib.deBruijn64tab]
 rw [e] at h;have hv:=Lib.tabIs_of_head Q4 WO underlying266 underlying5 IE yP h;have hc:=World.var?_cell Q4 hv;intro j hj;rw [hc j];have hi:j<Lib.deBruijn64tab.length:=hj;simp only [et,List.getElem?_toArray,aG];rw [af hi];simp only [kx,Function.comp];rw [List.getD,af hi];rfl
theorem X7{A:Nat→Addr}(hE:dI 13 fe A W)(hT:uO W):Env W.heap.size A W:=by
 refine ⟨hE,hT,fun i hi=>?_,World.block_lt_of_cell? W _ (hT 0 (by decide)),aj _⟩
 obtain ⟨h1,c,t,h2⟩:=hE.1 i hi;exact ⟨World.block_lt_of_cell? W _ h1,lt_of_heap h2⟩
end Go.Proofs.YtihmgigfkmofnaaGreatDoor.Q
namespace Go.Proofs.YtihmgigfkmofnaaGreatDoor.T
open Go.ChangeShapes Go.WideShapes Go.ChangeAt Go.WideMaps Go.WideElems Go.RowKit Go.Joins
variable {W:World} {H:Type} {enc:TypeId × Value→H}
theorem Pt(fuel:Nat)(v:Value)(x:DataW H × List MemPlace)(h:DataW.trod enc prog W 0 (fun _=>true) true fuel 23 [v]=some x)(hw:∀ z ∈ x.1.weights prog 23,z≤reachBytes):∃ l:List LS,Nt W v l∧l.length≤140737488355328∧∀ s ∈ l,s.key.size≤140737488355328∧s.value.size≤140737488355328∧s.n≤9223372036854775807:=by
 obtain ⟨a,len,cap,hv,hl,hc⟩:=Lx underlying23 UX U0 (by decide) (fun cs=>∃ (k a n:Int) (b1 b2 b3:ByteArray),cs=[.int .i64 k,.int .i64 a,.int .i64 n,.string b1,.string b2,.string b3]∧b1.size≤140737488355328∧b2.size≤140737488355328∧n≤9223372036854775807) fuel v x h hw (by
  intro k cs y hy ry hw;obtain ⟨xs,k',_,T3,_,hxl,hf⟩:=DataW.trod_struct underlying44 hy;match xs,hxl,cs,ry with
  | [y0,y1,y2,y3,y4,y5],_,[v0,v1,v2,v3,v4,v5],_ =>
   have g0:=hf 0 _ rfl;have g1:=hf 1 _ rfl;have g2:=hf 2 _ rfl;have g3:=hf 3 _ rfl;have g4:=hf 4 _ rfl;have g5:=hf 5 _ rfl;simp [RF,Yc] at g0 g1 g2 g3 g4 g5
   obtain ⟨k0,d0,rfl,w0⟩:=DataW.trod_int underlying3 g0;obtain ⟨k1,d1,rfl,w1⟩:=DataW.trod_int underlying3 g1;obtain ⟨k2,d2,rfl,w2⟩:=DataW.trod_int underlying3 g2;obtain ⟨b3,d3,rfl,w3⟩:=DataW.trod_string underlying9 g3;obtain ⟨b4,d4,rfl,w4⟩:=DataW.trod_string underlying9 g4;obtain ⟨b5,d5,rfl,w5⟩:=DataW.trod_string underlying9 g5;simp only [List.cons.injEq,and_true] at d0 d1 d2 d3 d4 d5;subst d0 d1 d2 d3 d4 d5;rw [T3] at hw;have h3:b3.size≤reachBytes:=hw b3.size (by simp [DataW.weights,underlying44,DataW.weightsEach])
   have h4:b4.size≤reachBytes:=hw b4.size (by simp [DataW.weights,underlying44,DataW.weightsEach])
   rw [AE] at h3 h4;exact ⟨k0,k1,k2,b3,b4,b5,rfl,by omega,by omega,(bounds_i64 w2).2⟩)
 obtain ⟨l,Ba,hp⟩:=JT (α:=LS) (P:=fun i x=>(∃ g o,a=some ⟨g,o,none⟩∧W.cell? ⟨g,o+i*6,none⟩=some (.int .i64 x.kind)∧W.cell? ⟨g,o+i*6+1,none⟩=some (.int .i64 x.at')∧W.cell? ⟨g,o+i*6+2,none⟩=some (.int .i64 x.n)∧W.cell? ⟨g,o+i*6+3,none⟩=some (.string x.key)∧W.cell? ⟨g,o+i*6+4,none⟩=some (.string x.value)∧W.cell? ⟨g,o+i*6+5,none⟩=some (.string x.iO))∧x.key.size≤140737488355328∧x.value.size≤140737488355328∧x.n≤9223372036854775807) len (fun i hi=>by
  obtain ⟨g,off,cs,ha,_,⟨k,at1,n,b1,b2,b3,rfl,h1,h2,h3⟩,_,bq⟩:=hc i hi;exact ⟨⟨k,at1,n,b1,b2,b3⟩,⟨g,off,ha,bq 0 (by omega),bq 1 (by omega),bq 2 (by omega),bq 3 (by omega),bq 4 (by omega),bq 5 (by omega)⟩,h1,h2,h3⟩)
 refine ⟨l,⟨a,cap,by rw [hv,Ba],fun j hj=>(hp j hj).1⟩,?_,fun s hs=>?_⟩
 ·rw [AE] at hl;omega
 ·obtain ⟨j,hj,rfl⟩:=aK hs;exact (hp j hj).2
theorem Ry:prog.cellsOf 37=2:=by kernel_rfl
theorem Ps{r:Reach}{b0:Nat}{v:Value}{d:DataW H}{p:List MemPlace}(hv:Value.okWide prog W r b0 37 v)(h:DataW.Trod enc prog W 0 (fun _=>true) true 37 v d p)(hw:∀ z ∈ d.weights prog 37,z≤reachBytes):∃ rT sv ks,v = .agg #[.int .i64 rT,sv]∧Nt W sv ks∧ks.length≤140737488355328∧∀ s ∈ ks,s.key.size≤140737488355328∧s.value.size≤140737488355328∧s.n≤9223372036854775807:=by
 obtain ⟨cs,rfl,b8⟩:=okWide_struct underlying37 hv;rw [Ry] at b8;obtain ⟨fuel,NV⟩:=h;obtain ⟨xs,k',_,T3,ry,hxl,hf⟩:=DataW.trod_struct underlying37 NV;obtain ⟨cl⟩:=cs;simp only [Value.cells] at hf;simp only [Prod.mk.injEq] at T3;match xs,hxl,cl,b8 with
 | [y0,y1],_,[v0,v1],_ =>
  have g0:=hf 0 _ rfl;have g1:=hf 1 _ rfl;simp [RF,RC] at g0 g1
  obtain ⟨k0,d0,rfl,w0⟩:=DataW.trod_int underlying3 g0;simp only [List.cons.injEq,and_true] at d0;rw [T3.1] at hw;obtain ⟨ks,iV,qk,Mf⟩:=Pt k' v1 y1 g1 (fun z hz=>hw z (by
   simp only [DataW.weights,underlying37,List.map_cons,List.map_nil,DataW.weightsEach];simp [hz]))
  exact ⟨k0,v1,ks,by rw [d0],iV,qk,Mf⟩
end Go.Proofs.YtihmgigfkmofnaaGreatDoor.T
namespace Go.Proofs.YtihmgigfkmofnaaGreatDoor
namespace T
open Go.ChangeShapes Go.WideShapes Go.ChangeAt Go.WideMaps Go.WideElems Go.RowKit Go.Joins
theorem xl{W:World}(h:laidMetH prog Rows.treeSoundRow.laid W):∃ A,S.Env W.heap.size A W∧dI 13 fe A W∧(∀ i,i<13→fe i<W.heap.size∧(A i).block<W.heap.size)∧Q.Env W.heap.size A W:=by
 rw [MakeChecks.laidMetH_plain _ _ _ (by kernel_rfl)] at h
 obtain ⟨A,hA⟩:=Aa (h.filter TY);have hT:=S.om (h.filter Xh);have hL:=S.Ev (h.filter aak);have hQ:=Q.X7 hA (Q.om (h.filter Q.aaj));refine ⟨A,⟨⟨(hA.1 0 (by decide)).1,(hA.1 2 (by decide)).1,(hA.1 7 (by decide)).1,⟨World.block_lt_of_cell? W _ (hA.1 0 (by decide)).1,World.block_lt_of_cell? W _ (hA.1 2 (by decide)).1,World.block_lt_of_cell? W _ (hA.1 7 (by decide)).1⟩,aj _⟩,(hA.1 1 (by decide)).1,⟨World.block_lt_of_cell? W _ (hA.1 1 (by decide)).1,hL.1,hT.2⟩,hL,hT⟩,hA,fun i hi=>?_,hQ⟩
 obtain ⟨h1,c,t,h2⟩:=hA.1 i hi;exact ⟨World.block_lt_of_cell? W _ h1,(Array.getElem?_eq_some_iff.1 h2).1⟩
end T
end Go.Proofs.YtihmgigfkmofnaaGreatDoor
