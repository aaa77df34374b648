import Derived.Test.YtihmgigfkmofnaaGreatDoorG01
import Derived.RangeFuncNested
import Derived.RangeFuncBound
import Derived.RangeFuncCalls
import Derived.RangeFuncLeaves
import Derived.Shelf.Abstract
import Derived.Shelf.RegionOpen
import Derived.OwnWalkIn
import Derived.TacticsInMore
import Derived.LoopNIn
import Derived.LoopIn
set_option maxHeartbeats 1000000
set_option maxRecDepth 100000
open Go.Proofs.Tryz
namespace Go.Proofs.YtihmgigfkmofnaaGreatDoor
namespace B
open Go.RowKit Go.Shelf
attribute [local go_sem] Oper.semAt_some
def jy(ls:List Lk)(k:Nat):List (Nat × Lk):=(List.range k).map fun j=>(ls.length - 1 - j,ls.getD (ls.length - 1 - j) (⟨#[]⟩,0))
theorem Me(ls:List Lk)(k:Nat):(jy ls k).length=k:=by simp [jy]
theorem yi(ls:List Lk)(k:Nat):jy ls (k+1)=jy ls k++[(ls.length - 1 - k,ls.getD (ls.length - 1 - k) (⟨#[]⟩,0))]:=by simp [jy,List.range_succ]
def Ti(x:Nat × Lk):Array Value:=#[.int .i64 (x.1:Int),.agg #[.string x.2.1,.int .i64 x.2.2]]
theorem Qv(F:Fence)(n:Nat)(hB:F.fn 202)(Xo:F.round=none)(hn:1≤n)(l Bs:Nat)(v:Value)(ls:List Lk)(w0:World)(hm:ls.length≤5864062014805)(hr:di w0 v ls)(hc:w0.cell? ⟨Bs,0,none⟩=some v)(J Jx:List (Nat × Lk)→World→Prop)(hY:∀ pre x W,J pre W→pre.length<ls.length→YieldAt F (n - 1) prog l (Ti x) W fun e W'=>(e = .returned (.bool true)∧J (pre++[x]) W'∧Below w0.heap.size W W')∨(e = .returned (.bool false)∧Jx (pre++[x]) W'))(W:World)(hW:Below w0.heap.size w0 W)(h0:J [] W):CallsIn F n prog 202 #[.func (.yield l) #[] #[],.pointer (some ⟨Bs,0,none⟩)] W fun e W'=>(∃ v,e = .returned v)∧((∃ ys,ys=jy ls ls.length∧J ys W')∨(∃ pre,(∃ k,k<ls.length∧pre=jy ls (k+1))∧Jx pre W')):=by
 obtain ⟨a,cap,hv,_,_,fH⟩:=hr;subst hv;obtain ⟨q,hq⟩ : ∃ q,q=ls.length:=⟨_,rfl⟩;rw [← hq] at hm hc;have HQ:=ab hq;have Fv:=ab fH;have HY:=ab hY;have HW:=ab hW;have HC:=ab hc;have T3:=ab (World.block_lt_of_cell? w0 _ hc);have hcW:W.cell? ⟨Bs,0,none⟩=some (.slice a q cap):=(hW.cell (p:=⟨Bs,0,none⟩) (World.block_lt_of_cell? w0 _ hc)).trans hc;have hwq:IntKind.i64.wrap ((q:Int) - 1)=(q:Int) - 1:=by rw [IntKind.wrap_i64];omega
 clear fH hY hW hc hq;refine callsIn_of_wp func202 rfl hB ?_ Xo;simp only [ntmps202,List.size_toArray,List.length_cons,List.length_nil,Nat.reduceAdd,Nat.reduceSub,Array.replicate_succ,Array.replicate_zero,List.push_toArray,List.append_toArray,List.nil_append,List.cons_append];gi_wp2
 gi_loopw [3] (fun i wr=>∃ k:Nat,k≤q∧i = .int .i64 ((q:Int) - 1 - (k:Int))∧J (jy ls k) wr∧Below w0.heap.size w0 wr)
  (fun i _=>(intOf i+1).toNat)
 case atStart=>exact ⟨0,aD _,by simp,h0,HW.out⟩
 case round =>
  obtain ⟨k,hk,rfl,hJs,Y8⟩:=hrel;have hcx:wr.cell? ⟨Bs,0,none⟩=some (.slice a q cap):=(Y8.cell (p:=⟨Bs,0,none⟩) T3.out).trans HC.out;by_cases bN:k<q
  ·obtain ⟨j,hj⟩ : ∃ j:Nat,(q:Int) - 1 - (k:Int)=(j:Int):=⟨q - 1 - k,by omega⟩
   have Zz:j<ls.length:=by have:=HQ.out;omega
   have hjk:ls.length - 1 - k=j:=by have:=HQ.out;omega
   obtain ⟨g,o,ha,f1,f2⟩:=Fv.out j Zz;subst ha;have c1:wr.cell? ⟨g,o+j*2,none⟩=some (.string ls[j].1):=(Y8.cell (p:=⟨g,o+j*2,none⟩) (World.block_lt_of_cell? w0 _ f1)).trans f1;have c2:wr.cell? ⟨g,o+j*2+1,none⟩=some (.int .i64 ls[j].2):=(Y8.cell (p:=⟨g,o+j*2+1,none⟩) (World.block_lt_of_cell? w0 _ f2)).trans f2;have HS:Hid (jy ls (k+1)=jy ls k++[(j,ls[j])]):=by
    show _=_
    rw [yi,hjk,aJ,af Zz];rfl
   obtain ⟨fn,tmps,assign,body,hy,hR⟩:=HY.out _ (j,ls[j]) wr hJs (by rw [Me,← HQ.out];exact bN)
   dsimp only [Ti] at hy;obtain ⟨p,hp⟩ : ∃ p,p=ls[j]:=⟨_,rfl⟩;rw [← hp] at c1 c2 HS hy hR;have HN:=ab Y8;have HJ:=ab hj;have hjq:(j:Int)<(q:Int):=by omega
   have K7:(0:Int)≤(j:Int):=by omega
   have vw:IntKind.i64.wrap ((j:Int) - 1)=(j:Int) - 1:=by rw [IntKind.wrap_i64];omega
   rw [hj];clear hp f1 f2 Y8 hJs hj Zz hjk;gi_wp2
   refine hR.mono ?_
   rintro e W3 (⟨rfl,hJ3,hk3⟩ | ⟨rfl,hJx3⟩)
   ·gi_wp2
    go_roundw
    case rel=>exact ⟨k+1,by omega,by have:=HJ.out;congr 1;omega,by rw [HS.out];exact hJ3,HN.out.trans hk3⟩
    case measure=>simp [intOf]
   ·gi_wp2
    refine bodyPost_ret (results_none rfl _ _ _) rfl ?_
    exact ⟨⟨_,rfl⟩,.inr ⟨_,⟨k,by rw [← HQ.out];exact bN,HS.out.symm⟩,hJx3⟩⟩
  ·have Zw:k=q:=by omega
   subst Zw;have GO:¬ (0:Int)≤(k:Int) - 1 - (k:Int):=by omega
   gi_wp2
   go_end0
   exact ⟨⟨_,rfl⟩,.inl (by rw [← HQ.out];exact hJs)⟩
attribute [local go_sem] Oper.semAt_some
def DD(a b:ByteArray):Bool:=Op.bytesLess a.toList b.toList || a.toList == b.toList
theorem Kk(x:Lk)(B:Nat)(key:ByteArray)(W:World)(hc:W.cell? ⟨B,0,none⟩=some (.string key)):Calls prog 122 #[.agg #[.string x.1,.int .i64 x.2],.pointer (some ⟨B,0,none⟩)] W fun e W'=>e = .returned (.bool (DD x.1 key))∧W'=W.alloc (.cells #[.string x.1,.int .i64 x.2] 179):=by
 have S4:(W.alloc (.cells #[.string x.1,.int .i64 x.2] 179)).cell? ⟨B,0,none⟩=some (.string key):=((ai W _).cell (p:=⟨B,0,none⟩) (World.block_lt_of_cell? W _ hc)).trans hc;go_enter func122,ntmps122;go_wp2;go_ret;exact ⟨by simp [DD],rfl⟩
theorem OP(n:Nat)(v:Value)(hv:∃ a l c,v = .slice a l c)(w:World):CallsIn Fence.wide n prog 162 #[v] w fun e w'=>e = .returned (.func (.func 202) #[] #[.pointer (some ⟨w.heap.size,0,none⟩)])∧w'=w.alloc (.cells #[v] 148):=by
 obtain ⟨a,len,cap,rfl⟩:=hv;refine callsIn_of_wp func162 rfl trivial ?_ rfl;simp only [ntmps162,List.size_toArray,List.length_cons,List.length_nil,Nat.reduceAdd,Nat.reduceSub,Array.replicate_succ,Array.replicate_zero,List.push_toArray,List.append_toArray,List.nil_append,List.cons_append];gi_wp2
 go_ret;exact ⟨rfl,rfl⟩
theorem Hk(n:Nat)(hn:1≤n)(Bs:Nat)(v:Value)(ls:List Lk)(w0:World)(hm:ls.length≤5864062014805)(hr:di w0 v ls)(hc:w0.cell? ⟨Bs,0,none⟩=some v):SeqStopsK Fence.wide n prog 202 #[.pointer (some ⟨Bs,0,none⟩)] Ti (Below w0.heap.size) (fun ys=>ys=jy ls ls.length) (fun pre=>∃ k,k<ls.length∧pre=jy ls (k+1)) ls.length w0 :=
 fun l J Jx W hW _ _ hY h0=>Qv Fence.wide n trivial rfl hn l Bs v ls w0 hm hr hc J Jx hY W hW h0
theorem Gx(v:Value)(ls:List Lk)(B:Nat)(key:ByteArray)(w:World)(hm:ls.length≤5864062014805)(hr:di w v ls)(hk:w.cell? ⟨B,0,none⟩=some (.string key)):Calls prog 121 #[v,.func (.func 122) #[] #[.pointer (some ⟨B,0,none⟩)]] w fun e W'=>((e = .returned (.int .i64 (-1))∧∀ x ∈ jy ls ls.length,DD x.2.1 key=false)∨(∃ k:Nat,k<ls.length∧e = .returned (.int .i64 ((ls.length - 1 - k:Nat):Int))∧DD (ls.getD (ls.length - 1 - k) (⟨#[]⟩,0)).1 key=true∧∀ x ∈ jy ls k,DD x.2.1 key=false))∧Below w.heap.size w W':=by
 refine (callsIn_wide (n:=6)).1 ?_
 refine callsIn_of_wp_marks func121 rfl trivial ?_ rfl;simp only [ntmps121,List.size_toArray,List.length_cons,List.length_nil,Nat.reduceAdd,Nat.reduceSub,Array.replicate_succ,Array.replicate_zero,List.push_toArray,List.append_toArray,List.nil_append,List.cons_append];have HK:=ab (fun n w=>OP n v (by obtain ⟨a,c,h⟩:=hr.form;exact ⟨_,_,_,h⟩) w)
 gi_wp2_with (refine ⟨trivial,?_⟩;gi_at_call 162;refine (HK.out _ _).mono ?_;rintro e w' ⟨rfl,rfl⟩)
 have q1:=ai w (.cells #[.func (.func 122) #[] #[.pointer (some ⟨B,0,none⟩)]] 198);have bC:=((Go.Boxed.new w 198 (.func (.func 122) #[] #[.pointer (some ⟨B,0,none⟩)])).alloc (.cells #[.int .i64 0] 3)).alloc (.cells #[v] 148);have bR:=(Go.Boxed.new (w.alloc (.cells #[.func (.func 122) #[] #[.pointer (some ⟨B,0,none⟩)]] 198)) 3 (.int .i64 0)).alloc (.cells #[v] 148);have bS:=Go.Boxed.new ((w.alloc (.cells #[.func (.func 122) #[] #[.pointer (some ⟨B,0,none⟩)]] 198)).alloc (.cells #[.int .i64 0] 3)) 148 v;simp only [World.size_alloc] at bR bS;have hB0:Below w.heap.size w (((w.alloc (.cells #[.func (.func 122) #[] #[.pointer (some ⟨B,0,none⟩)]] 198)).alloc (.cells #[.int .i64 0] 3)).alloc (.cells #[v] 148)):=(((Below.refl _ w).alloc (aj _) _).alloc (by simp) _).alloc (by simp;omega) _
 have b7:(((w.alloc (.cells #[.func (.func 122) #[] #[.pointer (some ⟨B,0,none⟩)]] 198)).alloc (.cells #[.int .i64 0] 3)).alloc (.cells #[v] 148)).heap.size=w.heap.size+3:=by simp
 obtain ⟨W0,Cc⟩ : ∃ W0,((w.alloc (.cells #[.func (.func 122) #[] #[.pointer (some ⟨B,0,none⟩)]] 198)).alloc (.cells #[.int .i64 0] 3)).alloc (.cells #[v] 148)=W0:=⟨_,rfl⟩;rw [Cc] at bC bR bS hB0 b7 ⊢;clear Cc HK q1;have hkB:∀ W,Below w.heap.size w W→W.cell? ⟨B,0,none⟩=some (.string key):=fun W h=>(h.cell (p:=⟨B,0,none⟩) (World.block_lt_of_cell? w _ hk)).trans hk
 refine wpIn_rangeFunc_ownH rfl (by decide) (gf:=202) (lb:=#[.pointer (some ⟨w.heap.size+1+1,0,none⟩)]) rfl trivial (enters_of func202 (by kernel_rfl) rfl)
  (Hk 5 (by decide) (w.heap.size+1+1) v ls W0 hm (hr.below hB0) bS.cell) belowK_t (belowK_b (aj _)) (Below.refl _ _) (fun _=>rfl)
  (fun pre W=>((Go.Boxed W w.heap.size 198 (.func (.func 122) #[] #[.pointer (some ⟨B,0,none⟩)])∧Go.Boxed W (w.heap.size+1) 3 (.int .i64 0))∧Below w.heap.size w W)∧((∀ x ∈ pre,DD x.2.1 key=false)∧W0.heap.size≤W.heap.size))
  (fun c pre W=>(c = .ret∧∃ Yt last,pre=Yt++[last]∧(∀ x ∈ Yt,DD x.2.1 key=false)∧DD last.2.1 key=true∧W.cell? ⟨w.heap.size+1,0,none⟩=some (.int .i64 (last.1:Int)))∧Below w.heap.size w W)
  ?hI ?hIx ?h0
  (fun x a' W=>∃ Bx,w.heap.size+2<Bx∧W.cell? ⟨Bx,0,none⟩=some (.string x.2.1)∧W.cell? ⟨Bx,1,none⟩=some (.int .i64 x.2.2)∧a'={ tmps:=#[v,.func (.func 122) #[] #[.pointer (some ⟨B,0,none⟩)],undef,.pointer (some ⟨w.heap.size,0,none⟩),.pointer (some ⟨w.heap.size+1,0,none⟩),.int .i64 (x.1:Int),.pointer (some ⟨Bx,0,none⟩),v,.func (.func 202) #[] #[.pointer (some ⟨w.heap.size+1+1,0,none⟩)],.int .i64 (x.1:Int),.agg #[.string x.2.1,.int .i64 x.2.2],undef,undef,undef,undef],defers:=[] })
  ?hAx ?assign ?body ?done ?stop
 case hI=>exact OwnFrom.and (OwnFrom.and (OwnFrom.and (Own.from (boxed_own _ _ _) _) (Own.from (boxed_own _ _ _) _)) (ownFrom_below (aj _) (by omega))) (Own.from (fun _ _ _ _ hs hg _=>⟨hs.1,ar hs.2 hg.size⟩) _)
 case hIx=>exact fun c=>OwnFrom.and (Own.from (fun s A B row hs hg hr=>by obtain ⟨hc,Yt,last,e1,e2,e3,e4⟩:=hs;exact ⟨hc,Yt,last,e1,e2,e3,cell_kept e4 hg hr⟩) _) (ownFrom_below (aj _) (by omega))
 case h0=>exact ⟨⟨⟨bC,bR⟩,hB0⟩,by simp,aj _⟩
 case hAx=>exact fun x a' _ X Y row hs hg hr=>by obtain ⟨Bx,h1,h2,h3,h4⟩:=hs;exact ⟨Bx,h1,cell_kept h2 hg (fun r e=>(hr r e).2),cell_kept h3 hg (fun r e=>(hr r e).2),h4⟩
 case assign =>
  rintro l pre x W K hi hK;obtain ⟨⟨⟨b1,b2⟩,hb⟩,hp,hs⟩:=hi;simp only [Ti];gi_wp2
  exact hK _ _ ((KeepsOthers.alloc _ _).from _) ((Below.refl _ W).alloc hs _) ⟨⟨⟨b1.alloc _,b2.alloc _⟩,hb.alloc hb.size _⟩,hp,ar hs (by simp)⟩ ⟨W.heap.size,by omega,au.c0 (au.new W _ 179),au.c1 (au.new W _ 179),rfl⟩
 case body =>
  rintro l pre x a' W hl ⟨r,hr'⟩ ⟨⟨⟨b1,b2⟩,hb⟩,hp,hs⟩ ⟨Bx,hBx,c1,c2,rfl⟩ bN;have k1:=b1.cell;have k2:=(b2.alloc (.cells #[.string x.2.1,.int .i64 x.2.2] 179)).cell;have kf:=(b2.alloc (.cells #[.string x.2.1,.int .i64 x.2.2] 179)).frozen;have hkW:=hkB W hb;gi_wp2_with (refine ⟨trivial,?_⟩;gi_at_call 122;refine (CallsIn.inRound l (callsIn_wide.2 (Kk _ _ key _ hkW))).mono ?_;rintro e w' ⟨rfl,rfl⟩)
  ·have hx:DD x.2.1 key=true:=by assumption
   exact ⟨((KeepsOthers.alloc _ _).from _).trans ((KeepsOthers.setCell _ _ _).from _),⟨rfl,pre,x,rfl,hp,hx,World.cell?_setCell_same' _ _ _ (by rw [k2];rfl)⟩,(hb.alloc hb.size _).setCell (p:=⟨w.heap.size+1,0,none⟩) (by simp) _⟩
  ·have hx:DD x.2.1 key=false:=by assumption
   exact ⟨(KeepsOthers.alloc _ _).from _,(Below.refl _ W).alloc hs _,⟨⟨b1.alloc _,b2.alloc _⟩,hb.alloc hb.size _⟩,fun p GM=>(List.mem_append.1 GM).elim (hp p) (fun e=>by simp at e;subst e;exact hx),ar hs (by simp)⟩
 case done =>
  rintro D ys W hD rfl ⟨⟨⟨b1,b2⟩,hb⟩,hp,_⟩ hK;have k2:=b2.cell;have kf:=b2.frozen;gi_wp2
  have hK':=(KeepsOthers.setCell W ⟨w.heap.size+1,0,none⟩ (.int .i64 (-1))).same D _ hK rfl;refine ⟨by simp,.inl ⟨_,_,rfl,run_takeDeferred hK',?_⟩⟩
  have hc5:=cell_kept (World.cell?_setCell_same' W ⟨w.heap.size+1,0,none⟩ (.int .i64 (-1)) (by rw [k2];rfl)) (grownBy_putObj' _ D (.deferred none)) (fun r e=>by cases e;exact ⟨_,hK',rfl⟩)
  refine ⟨.int .i64 (-1),?_,.inl ⟨rfl,hp⟩,(hb.setCell (p:=⟨w.heap.size+1,0,none⟩) (by simp) _).trans (belowK_b (w:=w) (aj _) _ D _ _ (by omega) hK' rfl rfl)⟩
  simp [results,Tryz.f121,go_sem,hc5]
 case stop =>
  rintro D c pre W hD ⟨k,hk,rfl⟩ ⟨⟨rfl,Yt,last,e1,e2,e3,hcr⟩,hB⟩ hK;gi_wp2
  refine ⟨by simp,.inl ⟨_,_,rfl,run_takeDeferred hK,?_⟩⟩
  have hc5:=cell_kept hcr (grownBy_putObj' _ D (.deferred none)) (fun r e=>by cases e;exact ⟨_,hK,rfl⟩)
  rw [yi] at e1;obtain ⟨rfl,e5⟩:=List.append_inj' e1 rfl;obtain rfl:_=last:=List.singleton_inj.1 e5;refine ⟨_,?_,.inr ⟨k,hk,rfl,e3,e2⟩,hB.trans (belowK_b (w:=w) (aj _) W D _ _ (by omega) hK rfl rfl)⟩
  simp [results,Tryz.f121,go_sem,hc5]
end B
end Go.Proofs.YtihmgigfkmofnaaGreatDoor
namespace Go.Proofs.YtihmgigfkmofnaaGreatDoor
namespace B
open Go.RowKit
def fE(ls:List Lk)(key:ByteArray)(p:Nat):Prop :=
 p≤ls.length∧(∀ j (h:j<ls.length),p≤j→DD ls[j].1 key=false)∧∀ j (h:j<ls.length),p=j+1→DD ls[j].1 key=true
theorem AJ(ls:List Lk)(k j:Nat)(h:j<ls.length)(hk:ls.length≤j+k):(j,ls[j]) ∈ jy ls k:=by
 simp only [jy,List.mem_map,List.mem_range];refine ⟨ls.length - 1 - j,by omega,?_⟩
 rw [show ls.length - 1 - (ls.length - 1 - j)=j by omega,aJ,af h];rfl
theorem C4{ls:List Lk}{key:ByteArray}(h:∀ x ∈ jy ls ls.length,DD x.2.1 key=false):fE ls key 0 :=
 ⟨aD _,fun j hj _=>h _ (AJ ls ls.length j hj (by omega)),fun j _ e=>by omega⟩
theorem C3{ls:List Lk}{key:ByteArray}{k:Nat}(hk:k<ls.length)(h1:DD (ls.getD (ls.length - 1 - k) (⟨#[]⟩,0)).1 key=true)(h:∀ x ∈ jy ls k,DD x.2.1 key=false):fE ls key (ls.length - k) :=
 ⟨Nat.sub_le _ _,fun j hj hp=>h _ (AJ ls k j hj (by omega)),fun j hj e=>by
  rw [show ls.length - 1 - k=j by omega,aJ,af hj] at h1
  exact h1⟩
theorem AH(f:Int)(v:Value)(ls:List Lk)(key:ByteArray)(w:World)(hm:ls.length≤5864062014805)(hr:di w v ls):Calls prog 81 #[.agg #[.int .i64 f,v],.string key] w fun e w'=>(∃ p:Nat,e = .returned (.int .i64 (p:Int))∧fE ls key p)∧Below w.heap.size w w':=by
 obtain ⟨a,cap,hv⟩:=hr.form;subst hv;obtain ⟨n,hn⟩ : ∃ n,n=ls.length:=⟨_,rfl⟩;rw [← hn] at hr ⊢;have q1:=ai w (.cells #[.int .i64 f,.slice a n cap] 150);have x1:=au.new w #[.int .i64 f,.slice a n cap] 150;have s1:(w.alloc (.cells #[.int .i64 f,.slice a n cap] 150)).heap.size=w.heap.size+1:=by simp
 generalize gF:w.alloc (.cells #[.int .i64 f,.slice a n cap] 150)=W1 at *;have q2:=ai W1 (.cells #[.string key] 9);have x2:=(Go.Boxed.new W1 9 (.string key)).cell;rw [s1] at x2;generalize Lh:W1.alloc (.cells #[.string key] 9)=W2 at *;have hq:=Below.next q1 q2;have x3:=x1.below q2;have p1:=x3.c1;have HL:=ab (Gx (.slice a n cap) ls (w.heap.size+1) key W2 hm (hr.below hq) x2);have HQ:=ab hq;have HN:=ab hn;have HM:=ab hm;clear q1 q2 x1 x2 x3 hr hq hn hm;go_enter func81,ntmps81;go_wp2_with fail;refine HL.out.mono ?_
 rintro e w1 ⟨he,aL⟩;have HB:=ab (Below.next HQ.out aL);rcases he with ⟨rfl,fJ⟩ | ⟨k,hk,rfl,h1,h2⟩
 ·have HP:=ab (C4 fJ);clear fJ aL HL p1;go_wp2;go_ret;exact ⟨⟨0,rfl,HP.out⟩,HB.out⟩
 ·have HP:=ab (C3 hk h1 h2);obtain ⟨j,hj⟩ : ∃ j,j=ls.length - 1 - k:=⟨_,rfl⟩;have HJ:Hid (ls.length - k=j+1):=by show _=_;omega
  rw [← hj];have hw:IntKind.i64.wrap ((j:Int)+1)=(j:Int)+1:=by have:=HM.out;rw [IntKind.wrap_i64];omega
  clear h1 h2 aL HL p1 hk hj;go_wp2;go_ret;exact ⟨⟨j+1,by go_num,by rw [← HJ.out];exact HP.out⟩,HB.out⟩
end B
end Go.Proofs.YtihmgigfkmofnaaGreatDoor
