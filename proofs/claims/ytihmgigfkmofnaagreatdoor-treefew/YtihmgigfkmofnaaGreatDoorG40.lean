import Derived.Test.YtihmgigfkmofnaaGreatDoorRows
import Derived.ProofKit
import Derived.LaidMore
import Derived.LaidSub
import Derived.Lay
import Derived.OpenShut
import Derived.Stop.Joined
import Derived.Lib.LaidTab
import Derived.Lib.SmallJoins
import Derived.SizedLaws
import Derived.ChangeMaps5
import Derived.Deep.Slices
import Derived.Test.YtihmgigfkmofnaaGreatDoorTFew
set_option maxRecDepth 100000
open Go.Proofs.Tryz
namespace Go.Proofs.YtihmgigfkmofnaaGreatDoor.S
open Go.ChangeShapes Go.WideShapes Go.ChangeAt Go.WideMaps Go.WideElems Go.RowKit
theorem PI:prog.globalNamed "copse/codec.halfByteSteps" = some 15:=by kernel_rfl
theorem UP:(prog.globals[15]?).map (·.type)=some 330:=by kernel_rfl
theorem Zy:prog.globalNamed "copse/sheet.layout" = some 14:=by kernel_rfl
theorem abn:(prog.globals[14]?).map (·.type)=some 327:=by kernel_rfl
theorem Te:prog.cellsOf 225=1:=by kernel_rfl
theorem yy:prog.cellsOf 330=16:=by kernel_rfl
theorem EV:prog.cellsOf 3=1:=by kernel_rfl
theorem Qb:prog.cellsOf 327=10:=by kernel_rfl
theorem P9:prog.cellsOf 326=2:=by kernel_rfl
theorem nV{W:World}(h:laidMet prog [("copse/codec.halfByteSteps",Rows.laid_copse_codec_halfByteSteps)] W):E7 W:=by
 have e:(Rows.laid_copse_codec_halfByteSteps:DataW Unit)=Lib.tabData .u32 (J2.map Int.ofNat):=by simp [Rows.laid_copse_codec_halfByteSteps,Lib.tabData,J2]
 rw [e] at h;have hv:=Lib.tabIs_of_head PI UP underlying330 underlying225 Te yy h;have hc:=World.var?_cell PI hv;have h16:∀ j,j<16→W.cell? ⟨15,j,none⟩=some (.int .u32 (tab j:Nat)):=by
  intro j hj;have h1:=hc j;rw [h1];have:∀ i:Fin 16,((J2.map Int.ofNat).map fun z=>Value.int .u32 z).toArray[i.1]?=some (.int .u32 ((tab i.1:Nat):Int)):=by
   intro i;simp only [eG,List.getElem?_toArray,aL];have hi:i.1<J2.length:=i.2;rw [af hi];simp only [jU,Function.comp];unfold tab;rw [List.getD,af hi];rfl
  exact this ⟨j,hj⟩
 refine ⟨h16,?_⟩;exact World.block_lt_of_cell? W _ (h16 0 (by decide))
theorem ja{W:World}{m:Nat}{a b:Value}{y:DataW Unit × List MemPlace}{p q:Int}(h:DataW.trod (fun _=>()) prog W 0 (fun _=>true) false m 326 [a,b]=some y)(hy:y.1 = .agg [.lit (.int .i64 p),.lit (.int .i64 q)]):a = .int .i64 p∧b = .int .i64 q:=by
 obtain ⟨y0,y1,n,rfl,_,h0,h1⟩:=trod_struct2 underlying326 h;have PC:DataW.trod (fun _=>()) prog W 0 (fun _=>true) false n 3 [a]=some y0:=by simpa [EV] using h0
 have Jm:DataW.trod (fun _=>()) prog W 0 (fun _=>true) false n 3 [b]=some y1:=by simpa [EV] using h1
 obtain ⟨k0,e0,rfl,_⟩:=DataW.trod_int underlying3 PC;obtain ⟨k1,e1,rfl,_⟩:=DataW.trod_int underlying3 Jm;simp only [List.cons.injEq,and_true] at e0 e1;subst e0 e1;simp only [DataW.agg.injEq,List.cons.injEq,DataW.lit.injEq,Lit.int.injEq,true_and,and_true] at hy;obtain ⟨rfl,rfl⟩:=hy;exact ⟨rfl,rfl⟩
theorem DY{W:World}(h:laidMet prog [("copse/sheet.layout",Rows.laid_copse_sheet_layout)] W):Lay W:=by
 obtain ⟨ps,⟨g,t,cs,fuel,p,q,hg,ht,Sm,hd,_,_⟩,_,_⟩:=h;obtain rfl:=Option.some.inj (Zy.symm.trans hg);obtain rfl:=Option.some.inj (abn.symm.trans ht);have hc:=World.var?_cell Zy Sm;obtain ⟨xs,m,_,hx,zg,X4,hf⟩:=DataW.trod_array underlying327 hd;rw [Qb] at zg;obtain ⟨cl⟩:=cs;match xs,X4,cl,zg with
 | [y0,y1,y2,y3,y4],_,[v0,v1,v2,v3,v4,v5,v6,v7,v8,v9],_ =>
  have g0:=hf 0 (by decide)
  have g1:=hf 1 (by decide)
  have g2:=hf 2 (by decide)
  have g3:=hf 3 (by decide)
  have g4:=hf 4 (by decide)
  simp [P9] at g0 g1 g2 g3 g4
  have sM:=congrArg Prod.fst hx;simp only [Rows.laid_copse_sheet_layout,List.map_cons,List.map_nil,DataW.agg.injEq,List.cons.injEq,and_true] at sM;obtain ⟨x0,x1,x2,x3,x4⟩:=sM;obtain ⟨rfl,rfl⟩:=ja g0 x0.symm;obtain ⟨rfl,rfl⟩:=ja g1 x1.symm;obtain ⟨rfl,rfl⟩:=ja g2 x2.symm;obtain ⟨rfl,rfl⟩:=ja g3 x3.symm;obtain ⟨rfl,rfl⟩:=ja g4 x4.symm;have k0:=hc 0;have k1:=hc 1;have k2:=hc 2;have k3:=hc 3;have k4:=hc 4;have k5:=hc 5;have k6:=hc 6;have k7:=hc 7;have k8:=hc 8;have k9:=hc 9;simp at k0 k1 k2 k3 k4 k5 k6 k7 k8 k9
  exact ⟨World.block_lt_of_cell? W _ k0,k0,k1,k2,k3,k4,k5,k6,k7,k8,k9⟩
end Go.Proofs.YtihmgigfkmofnaaGreatDoor.S
namespace Go.Proofs.YtihmgigfkmofnaaGreatDoor
open Go.ChangeShapes Go.WideShapes Go.ChangeAt Go.WideMaps Go.WideElems Go.RowKit Go.Joins
theorem own:ownKnob prog.godebug=none:=by kernel_rfl
theorem laidOut:laidOutB prog=true:=by kernel_rfl
def B1:List (String × List UInt8):=[("copse/api.ErrArg",ie Rows.laid_copse_api_ErrArg),("copse/api.ErrText",ie Rows.laid_copse_api_ErrText),("copse/api.ErrMany",ie Rows.laid_copse_api_ErrMany),("copse/api.ErrShort",ie Rows.laid_copse_api_ErrShort),("copse/api.ErrTwice",ie Rows.laid_copse_api_ErrTwice),("copse/api.ErrLost",ie Rows.laid_copse_api_ErrLost),("copse/api.ErrFull",ie Rows.laid_copse_api_ErrFull),("copse/api.ErrDead",ie Rows.laid_copse_api_ErrDead),("copse/api.ErrCorrupt",ie Rows.laid_copse_api_ErrCorrupt),("copse/api.ErrStatus",ie Rows.laid_copse_api_ErrStatus),("copse/api.ErrTxid",ie Rows.laid_copse_api_ErrTxid),("copse/api.ErrOrder",ie Rows.laid_copse_api_ErrOrder),("copse/api.ErrKind",ie Rows.laid_copse_api_ErrKind)]
theorem Ln:B1.map N7++[]=[("copse/api.ErrArg",Rows.laid_copse_api_ErrArg),("copse/api.ErrText",Rows.laid_copse_api_ErrText),("copse/api.ErrMany",Rows.laid_copse_api_ErrMany),("copse/api.ErrShort",Rows.laid_copse_api_ErrShort),("copse/api.ErrTwice",Rows.laid_copse_api_ErrTwice),("copse/api.ErrLost",Rows.laid_copse_api_ErrLost),("copse/api.ErrFull",Rows.laid_copse_api_ErrFull),("copse/api.ErrDead",Rows.laid_copse_api_ErrDead),("copse/api.ErrCorrupt",Rows.laid_copse_api_ErrCorrupt),("copse/api.ErrStatus",Rows.laid_copse_api_ErrStatus),("copse/api.ErrTxid",Rows.laid_copse_api_ErrTxid),("copse/api.ErrOrder",Rows.laid_copse_api_ErrOrder),("copse/api.ErrKind",Rows.laid_copse_api_ErrKind)]:=rfl
theorem Hd:((List.range 13).all fun i=>match B1[i]? with
  | some x=>(prog.globalNamed x.1 == some (fl i)) && ((prog.globals[fl i]?).map (·.type) == some 32)
  | none=>false)=true:=by kernel_rfl
theorem EG:∀ i x,B1[i]?=some x→prog.globalNamed x.1=some (fl i)∧(prog.globals[fl i]?).map (·.type)=some 32:=by
 intro i x hx;have hi:i<13:=by
  rcases aZ i 13 with h | h
  ·exact h
  ·rw [bB (by exact h)] at hx;cases hx
 have h:=List.all_eq_true.1 Hd i (List.mem_range.2 hi);rw [hx] at h;simpa using h
def Se(x:String × DataW Unit):Bool:=x.1 == "copse/api.ErrArg" || x.1 == "copse/api.ErrText" || x.1 == "copse/api.ErrMany" || x.1 == "copse/api.ErrShort" || x.1 == "copse/api.ErrTwice" || x.1 == "copse/api.ErrLost" || x.1 == "copse/api.ErrFull" || x.1 == "copse/api.ErrDead" || x.1 == "copse/api.ErrCorrupt" || x.1 == "copse/api.ErrStatus" || x.1 == "copse/api.ErrTxid" || x.1 == "copse/api.ErrOrder" || x.1 == "copse/api.ErrKind"
theorem zN{W:World}(h:laidMet prog [("copse/api.ErrArg",Rows.laid_copse_api_ErrArg),("copse/api.ErrText",Rows.laid_copse_api_ErrText),("copse/api.ErrMany",Rows.laid_copse_api_ErrMany),("copse/api.ErrShort",Rows.laid_copse_api_ErrShort),("copse/api.ErrTwice",Rows.laid_copse_api_ErrTwice),("copse/api.ErrLost",Rows.laid_copse_api_ErrLost),("copse/api.ErrFull",Rows.laid_copse_api_ErrFull),("copse/api.ErrDead",Rows.laid_copse_api_ErrDead),("copse/api.ErrCorrupt",Rows.laid_copse_api_ErrCorrupt),("copse/api.ErrStatus",Rows.laid_copse_api_ErrStatus),("copse/api.ErrTxid",Rows.laid_copse_api_ErrTxid),("copse/api.ErrOrder",Rows.laid_copse_api_ErrOrder),("copse/api.ErrKind",Rows.laid_copse_api_ErrKind)] W):∃ A,dk 13 fl A W:=by
 obtain ⟨A,hA,_⟩:=SX (rest:=[]) fl (show B1.length=13 from rfl) EG (by rw [Ln];exact h)
 exact ⟨A,hA⟩
namespace T
def U7(x:String × DataW Unit):Bool:=x.1 == "copse/codec.halfByteSteps"
def XZ(x:String × DataW Unit):Bool:=x.1 == "copse/sheet.layout"
end T
end Go.Proofs.YtihmgigfkmofnaaGreatDoor
namespace Go.Proofs.YtihmgigfkmofnaaGreatDoor
namespace T
open Go.ChangeShapes Go.WideShapes Go.ChangeAt Go.WideMaps Go.WideElems Go.RowKit Go.Joins
theorem nT{H:Type}{P:Program}{e:TypeId}:∀ {l:List (DataW H)} {d:DataW H},d ∈ l→∀ n ∈ d.weights P e,n ∈ DataW.weightsAll P e l
 | d'::r,d,hd,n,hn=>by
  simp only [DataW.weightsAll,cN];rcases List.mem_cons.1 hd with rfl | h
  ·exact Or.inl hn
  ·exact Or.inr (nT h n hn)
theorem J8{W:World}{a:Addr}{v:Value}(h:W.cell? a=some v):a=⟨a.block,a.off,none⟩:=by
 have Fv:a.spot=none:=by
  unfold World.cell? at h;split at h
  ·split at h
   ·cases h
   ·rename_i hs;simpa using hs
  ·cases h
 cases a;simp at Fv;rw [Fv]
theorem add_plain(b o c:Nat):(⟨b,o,none⟩ : Addr).add c=⟨b,o+c,none⟩:=by
 unfold Addr.add;split
 ·rename_i h;rw [h,Nat.add_zero]
 ·rfl
theorem Kv{H:Type}{enc:TypeId × Value→H}{W:World}{t e:TypeId}{size bs:Nat}(hu:prog.underlying t=some (.slice e))(hc:prog.cellsOf e=size)(hy:prog.bytesOf e=bs)(hp:0<size)(R:List Value→Prop)(fuel:Nat)(v:Value)(x:DataW H × List MemPlace)(h:DataW.trod enc prog W 0 (fun _=>true) true fuel t [v]=some x)(hw:∀ z ∈ x.1.weights prog t,z≤reachBytes)(each:∀ k cs y,DataW.trod enc prog W 0 (fun _=>true) true k e cs=some y→cs.length=size→(∀ z ∈ y.1.weights prog e,z≤reachBytes)→R cs):∃ (a:Option Addr) (len cap:Nat),v = .slice a len cap∧len*bs≤reachBytes∧∀ i,i<len→∃ g off cs,a=some ⟨g,off,none⟩∧g<W.heap.size∧R cs∧cs.length=size∧∀ j,j<size→W.cell? ⟨g,off+i*size+j,none⟩=cs[j]?:=by
 rcases DataW.trod_slice hu h with ⟨h0,_⟩ | ⟨a,len,cap,elems,rest,n,hn,hv,hx,_,hl,hm,hlen,hel,_⟩
 ·simp only [List.cons.injEq,and_true] at h0;subst h0;exact ⟨none,0,0,rfl,by rw [Nat.zero_mul];exact aC _,fun i h=>absurd h (by simp)⟩
 ·simp only [List.cons.injEq,and_true] at hv;subst hv hx hn;have hwt:(elems.length+rest.length)*bs≤reachBytes:=hw _ (by
   simp only [DataW.weights,hu,hy,az];exact dh)
  have hlB:len*bs≤reachBytes:=aq (Nat.mul_le_mul_right bs (by omega)) hwt
  have Ur:∀ i,i<len→∃ cs,R cs∧cs.length=size∧∀ j,j<size→W.cell? ((a.add (i*size)).add j)=cs[j]?:=by
   intro i hi;have h1:=hel i hi;rw [hc,af (by omega)] at h1
   obtain ⟨ZD,h2,h3⟩:=Option.bind_eq_some_iff.1 h1;obtain ⟨_,zg,bE⟩:=World.cells?_some h2;refine ⟨ZD,each n ZD _ h3 zg (fun z hz=>hw z ?_),zg,fun j hj=>bE j (by omega)⟩
   simp only [DataW.weights,hu];exact dP _ (dQ _ (nT (List.mem_map.2 ⟨elems[i],aH (by omega),rfl⟩) z hz))
  refine ⟨some a,len,cap,rfl,hlB,fun i hi=>?_⟩
  obtain ⟨cs0,_,QZ,yi⟩:=Ur 0 (by omega)
  have h00:=yi 0 hp;rw [Nat.zero_mul,af (by omega)] at h00
  have ea:=J8 (a:=a) h00;obtain ⟨cs,hr,Vx,AP⟩:=Ur i hi;refine ⟨a.block,a.off,cs,congrArg some ea,World.block_lt_of_cell? W a h00,hr,Vx,fun j hj=>?_⟩
  have:=AP j hj;rw [ea,add_plain,add_plain] at this;exact this
theorem I4{α:Type}{P:Nat→α→Prop}:∀ (n:Nat),(∀ i,i<n→∃ x,P i x)→∃ l:List α,l.length=n∧∀ i (h:i<l.length),P i l[i]
 | 0,_=>⟨[],rfl,fun i h=>by simp at h⟩
 | n+1,h=>by
  obtain ⟨l,hl,hp⟩:=I4 n fun i hi=>h i (by omega)
  obtain ⟨x,hx⟩:=h n (by omega)
  refine ⟨l++[x],by simp [hl],fun i hi=>?_⟩
  by_cases bX:i<l.length
  ·rw [aM bX];exact hp i bX
  ·have:i=l.length:=by simp at hi;omega
   subst this;rw [bt (aj _)];simp [hl] at hx ⊢
   exact hx
theorem Qd:prog.cellsOf 3=1:=by kernel_rfl
theorem V4:prog.cellsOf 9=1:=by kernel_rfl
theorem Td:prog.cellsOf 44=6:=by kernel_rfl
theorem Tg:prog.bytesOf 44=72:=by kernel_rfl
theorem Qa:prog.cellsOf 23=1:=by kernel_rfl
theorem Ag:reachBytes=140737488351232:=rfl
end T
end Go.Proofs.YtihmgigfkmofnaaGreatDoor
namespace Go.Proofs.YtihmgigfkmofnaaGreatDoor.Q
open Go.ChangeShapes Go.WideShapes Go.ChangeAt Go.WideMaps Go.WideElems Go.RowKit Go.Joins
theorem PI:prog.globalNamed "math/bits.deBruijn64tab" = some 13:=by kernel_rfl
theorem UP:(prog.globals[13]?).map (·.type)=some 266:=by kernel_rfl
theorem Hk:prog.cellsOf 5=1:=by kernel_rfl
theorem yy:prog.cellsOf 266=64:=by kernel_rfl
def XY(x:String × DataW Unit):Bool:=x.1 == "math/bits.deBruijn64tab"
theorem nV{W:World}(h:laidMet prog [("math/bits.deBruijn64tab",Rows.laid_math_bits_deBruijn64tab)] W):ue W:=by
 have e:(Rows.laid_math_bits_deBruijn64tab:DataW Unit)=Lib.tabData .u8 (Lib.deBruijn64tab.map Int.ofNat):=by simp [Rows.laid_math_bits_deBruijn64tab,Lib.tabData,Lib.deBruijn64tab]
 rw [e] at h;have hv:=Lib.tabIs_of_head PI UP underlying266 underlying5 Hk yy h;have hc:=World.var?_cell PI hv;intro j hj;rw [hc j];have hi:j<Lib.deBruijn64tab.length:=hj;simp only [eG,List.getElem?_toArray,aL];rw [af hi];simp only [jU,Function.comp];rw [List.getD,af hi];rfl
theorem V1{W:World}{A:Nat→Addr}(hE:dk 13 fl A W)(hT:ue W):Env W.heap.size A W:=by
 refine ⟨hE,hT,fun i hi=>?_,World.block_lt_of_cell? W _ (hT 0 (by decide)),aj _⟩
 obtain ⟨h1,c,t,h2⟩:=hE.1 i hi;exact ⟨World.block_lt_of_cell? W _ h1,lt_of_heap h2⟩
end Go.Proofs.YtihmgigfkmofnaaGreatDoor.Q
namespace Go.Proofs.YtihmgigfkmofnaaGreatDoor.T
open Go.ChangeShapes Go.WideShapes Go.ChangeAt Go.WideMaps Go.WideElems Go.RowKit Go.Joins
theorem NV{H:Type}{enc:TypeId × Value→H}{W:World}(fuel:Nat)(v:Value)(x:DataW H × List MemPlace)(h:DataW.trod enc prog W 0 (fun _=>true) true fuel 23 [v]=some x)(hw:∀ z ∈ x.1.weights prog 23,z≤reachBytes):∃ l:List LS,L5 W v l∧l.length≤140737488355328∧∀ s ∈ l,s.key.size≤140737488355328∧s.value.size≤140737488355328∧s.n≤9223372036854775807:=by
 obtain ⟨a,len,cap,hv,hl,hc⟩:=Kv underlying23 Td Tg (by decide) (fun cs=>∃ (k a n:Int) (b1 b2 b3:ByteArray),cs=[.int .i64 k,.int .i64 a,.int .i64 n,.string b1,.string b2,.string b3]∧b1.size≤140737488355328∧b2.size≤140737488355328∧n≤9223372036854775807) fuel v x h hw (by
  intro k cs y hy zg hw;obtain ⟨xs,k',_,hxy,_,X4,hf⟩:=DataW.trod_struct underlying44 hy;match xs,X4,cs,zg with
  | [y0,y1,y2,y3,y4,y5],_,[v0,v1,v2,v3,v4,v5],_ =>
   have g0:=hf 0 _ rfl;have g1:=hf 1 _ rfl;have g2:=hf 2 _ rfl;have g3:=hf 3 _ rfl;have g4:=hf 4 _ rfl;have g5:=hf 5 _ rfl;simp [Qd,V4] at g0 g1 g2 g3 g4 g5
   obtain ⟨k0,d0,rfl,w0⟩:=DataW.trod_int underlying3 g0;obtain ⟨k1,d1,rfl,w1⟩:=DataW.trod_int underlying3 g1;obtain ⟨k2,d2,rfl,w2⟩:=DataW.trod_int underlying3 g2;obtain ⟨b3,d3,rfl,w3⟩:=DataW.trod_string underlying9 g3;obtain ⟨b4,d4,rfl,w4⟩:=DataW.trod_string underlying9 g4;obtain ⟨b5,d5,rfl,w5⟩:=DataW.trod_string underlying9 g5;simp only [List.cons.injEq,and_true] at d0 d1 d2 d3 d4 d5;subst d0 d1 d2 d3 d4 d5;rw [hxy] at hw;have h3:b3.size≤reachBytes:=hw b3.size (by simp [DataW.weights,underlying44,DataW.weightsEach])
   have h4:b4.size≤reachBytes:=hw b4.size (by simp [DataW.weights,underlying44,DataW.weightsEach])
   rw [Ag] at h3 h4;exact ⟨k0,k1,k2,b3,b4,b5,rfl,by omega,by omega,(bounds_i64 w2).2⟩)
 obtain ⟨l,Je,hp⟩:=I4 (α:=LS) (P:=fun i x=>(∃ g o,a=some ⟨g,o,none⟩∧W.cell? ⟨g,o+i*6,none⟩=some (.int .i64 x.kind)∧W.cell? ⟨g,o+i*6+1,none⟩=some (.int .i64 x.at')∧W.cell? ⟨g,o+i*6+2,none⟩=some (.int .i64 x.n)∧W.cell? ⟨g,o+i*6+3,none⟩=some (.string x.key)∧W.cell? ⟨g,o+i*6+4,none⟩=some (.string x.value)∧W.cell? ⟨g,o+i*6+5,none⟩=some (.string x.vg))∧x.key.size≤140737488355328∧x.value.size≤140737488355328∧x.n≤9223372036854775807) len (fun i hi=>by
  obtain ⟨g,off,cs,ha,_,⟨k,at1,n,b1,b2,b3,rfl,h1,h2,h3⟩,_,bE⟩:=hc i hi;exact ⟨⟨k,at1,n,b1,b2,b3⟩,⟨g,off,ha,bE 0 (by omega),bE 1 (by omega),bE 2 (by omega),bE 3 (by omega),bE 4 (by omega),bE 5 (by omega)⟩,h1,h2,h3⟩)
 refine ⟨l,⟨a,cap,by rw [hv,Je],fun j hj=>(hp j hj).1⟩,?_,fun s hs=>?_⟩
 ·rw [Ag] at hl;omega
 ·obtain ⟨j,hj,rfl⟩:=aI hs;exact (hp j hj).2
theorem P8:prog.cellsOf 37=2:=by kernel_rfl
theorem NU{H:Type}{enc:TypeId × Value→H}{W:World}{r:Reach}{b0:Nat}{v:Value}{d:DataW H}{p:List MemPlace}(hv:Value.okWide prog W r b0 37 v)(h:DataW.Trod enc prog W 0 (fun _=>true) true 37 v d p)(hw:∀ z ∈ d.weights prog 37,z≤reachBytes):∃ rN sv ks,v = .agg #[.int .i64 rN,sv]∧L5 W sv ks∧ks.length≤140737488355328∧∀ s ∈ ks,s.key.size≤140737488355328∧s.value.size≤140737488355328∧s.n≤9223372036854775807:=by
 obtain ⟨cs,rfl,cp⟩:=okWide_struct underlying37 hv;rw [P8] at cp;obtain ⟨fuel,SG⟩:=h;obtain ⟨xs,k',_,hxy,zg,X4,hf⟩:=DataW.trod_struct underlying37 SG;obtain ⟨cl⟩:=cs;simp only [Value.cells] at hf;simp only [Prod.mk.injEq] at hxy;match xs,X4,cl,cp with
 | [y0,y1],_,[v0,v1],_ =>
  have g0:=hf 0 _ rfl;have g1:=hf 1 _ rfl;simp [Qd,Qa] at g0 g1
  obtain ⟨k0,d0,rfl,w0⟩:=DataW.trod_int underlying3 g0;simp only [List.cons.injEq,and_true] at d0;rw [hxy.1] at hw;obtain ⟨ks,jm,pC,Vz⟩:=NV k' v1 y1 g1 (fun z hz=>hw z (by
   simp only [DataW.weights,underlying37,List.map_cons,List.map_nil,DataW.weightsEach];simp [hz]))
  exact ⟨k0,v1,ks,by rw [d0],jm,pC,Vz⟩
end Go.Proofs.YtihmgigfkmofnaaGreatDoor.T
namespace Go.Proofs.YtihmgigfkmofnaaGreatDoor
namespace T
open Go.ChangeShapes Go.WideShapes Go.ChangeAt Go.WideMaps Go.WideElems Go.RowKit Go.Joins
theorem Bg{W:World}(h:laidMetH prog Rows.treeFewRow.laid W):∃ A,S.Env W.heap.size A W∧dk 13 fl A W∧(∀ i,i<13→fl i<W.heap.size∧(A i).block<W.heap.size)∧Q.Env W.heap.size A W:=by
 rw [MakeChecks.laidMetH_plain _ _ _ (by kernel_rfl)] at h
 obtain ⟨A,hA⟩:=zN (h.filter Se);have hT:=S.nV (h.filter U7);have hL:=S.DY (h.filter XZ);have hQ:=Q.V1 hA (Q.nV (h.filter Q.XY));refine ⟨A,⟨⟨(hA.1 0 (by decide)).1,(hA.1 2 (by decide)).1,(hA.1 7 (by decide)).1,⟨World.block_lt_of_cell? W _ (hA.1 0 (by decide)).1,World.block_lt_of_cell? W _ (hA.1 2 (by decide)).1,World.block_lt_of_cell? W _ (hA.1 7 (by decide)).1⟩,aj _⟩,(hA.1 1 (by decide)).1,⟨World.block_lt_of_cell? W _ (hA.1 1 (by decide)).1,hL.1,hT.2⟩,hL,hT⟩,hA,fun i hi=>?_,hQ⟩
 obtain ⟨h1,c,t,h2⟩:=hA.1 i hi;exact ⟨World.block_lt_of_cell? W _ h1,(Array.getElem?_eq_some_iff.1 h2).1⟩
end T
end Go.Proofs.YtihmgigfkmofnaaGreatDoor
