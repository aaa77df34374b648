import Derived.Test.YtihmgigfkmofnaaGreatDoorG04
import Derived.Deep.RegionLaw
set_option maxHeartbeats 8000000
set_option maxRecDepth 1000000
open Go.Proofs.Tryz
namespace Go.Proofs.YtihmgigfkmofnaaGreatDoor
namespace B
open Go.RowKit Go.Lib
theorem iX(g:Nat)(t:TypeId):∀ (vs:List Value) (o:Nat) (cur:Array Value) (w:World),w.heap[g]?=some (.cells cur t (0,0))→o+vs.length≤cur.size →
  w.setCells g o vs=w.setRow g (cur.toList.take o++vs++cur.toList.drop (o+vs.length)).toArray
 | [],o,cur,w,hg,_=>by
  simp only [World.setCells,List.append_nil,List.length_nil,Nat.add_zero,aE,Array.toArray_toList];rw [setRow_self w g cur t (0,0) hg]
 | v::r,o,cur,w,hg,hl=>by
  have ho:o<cur.size:=by simp at hl;omega
  rw [World.setCells,setCell_eq_setRow w g o cur t (0,0) v hg,iX g t r (o+1) (cur.setIfInBounds o v) _ (setRow_heap w g cur _ t _ hg) (by simp at hl ⊢;omega),setRow_setRow]
  congr 1
  have e:=list_seg_step cur.toList o v r (by simp at hl ⊢;omega)
  simpa [Array.toList_setIfInBounds,Nat.add_assoc] using e
theorem xL(g c:Nat)(l:List Lk)(i m:Nat)(w:World)(cur:Array Value)(hl:l.length=m+1)(hi:i≤m)(Ct:l.length≤c)(hg:w.heap[g]?=some (.cells cur 179 (0,0)))(cp:cur.size=c*2)(ht:cur.toList.take (l.length*2)=bg l):Calls prog 208 #[.slice (some ⟨g,0,none⟩) (m+1) c,.int .i64 (i:Int),.int .i64 ((i:Int)+1)] w fun e w'=>e = .returned (.slice (some ⟨g,0,none⟩) m c)∧∃ fK:Array Value,w'=w.drew.setRow g fK∧fK.size=c*2∧fK.toList.take (m*2)=bg (cB l i):=by
 obtain ⟨i0,AM,nP,GM,OI⟩:=info_parts lV;have jq:(bg (l.drop (i+1))).length=(m - i)*2:=by rw [a7,ao,hl];omega
 have l1:(bg (l.take i)).length=i*2:=by rw [a7,ag];omega
 obtain ⟨A,hA,GS⟩ : ∃ A:Addr,(if c=i+1 then some (⟨g,0,none⟩ : Addr) else some ⟨g,(i+1)*2,none⟩)=some A∧Hid (∀ t u,(bg (l.drop (i+1)))[t]?=some u→w.drew.cell? (A.add t)=some u):=by
  by_cases h:c=i+1
  ·refine ⟨⟨g,0,none⟩,by simp [h],fun t u hu=>?_⟩
   have h0:(bg (l.drop (i+1))).length=0:=by rw [jq];omega
   rw [List.length_eq_zero_iff.1 h0] at hu;simp at hu
  ·refine ⟨⟨g,(i+1)*2,none⟩,by simp [h],fun t u hu=>?_⟩
   rw [bA];exact hJ hg ht (i+1) t u hu
 obtain ⟨C1,qM⟩ : ∃ C:Array Value,C=(cur.toList.take (i*2)++bg (l.drop (i+1))++cur.toList.drop (i*2+(bg (l.drop (i+1))).length)).toArray:=⟨_,rfl⟩;have mB:C1.size=c*2:=by rw [qM];simp [jq,cp];omega
 have lf:w.drew.setCells g (0+i*2) (bg (l.drop (i+1)))=w.drew.setRow g C1:=by
  rw [Nat.zero_add,qM];exact iX g 179 _ _ cur w.drew hg (by rw [jq,cp];omega)
 have fJ:(w.drew.setRow g C1).heap[g]?=some (.cells C1 179 (0,0)):=setRow_heap w.drew g cur C1 179 (0,0) hg;obtain ⟨C2,sr⟩ : ∃ C:Array Value,C=(C1.toList.take (m*2)++[Value.string ⟨#[]⟩,Value.int .i64 0]++C1.toList.drop (m*2+2)).toArray:=⟨_,rfl⟩;have pB:C2.size=c*2:=by rw [sr];simp [mB];omega
 have zg:∀ ty cc,(Builtin.clear_ #[148] ty #[.slice (some ⟨g,m*2,none⟩) 1 cc]).run prog (w.drew.setRow g C1) = .ok (.tuple #[]) (w.drew.setRow g C2):=fun ty cc=>by
  rw [kF (w.drew.setRow g C1) 148 179 ty _ _ underlying148 zeroValue179 rfl rfl g (m*2) cc C1 179 fJ (by omega),sr,setRow_setRow]
 have ic:C2.toList.take (m*2)=bg (cB l i):=by
  have e1:cur.toList.take (i*2)=bg (l.take i):=by
   rw [rU,← ht,gV,a8 (by omega)]
  rw [sr,List.toList_toArray,ax,aF (by simp [mB];omega),gV,Nat.min_self,qM,List.toList_toArray,e1,cB,dt,aF (by simp only [ae,jq,l1];omega),ar (by simp only [ae,jq,l1];omega)]
 have s1:Hid ((bg (l.drop (i+1))).length=(m - i)*2):=jq;have s2:Hid (∀ u ∈ bg (l.drop (i+1)),u.oneCell'=true):=fT _;have s3:Hid (∀ t,t<(bg (l.drop (i+1))).length→(w.drew.cell? ⟨g,0+i*2+t,none⟩).isSome=true∧w.drew.frozen? ⟨g,0+i*2+t,none⟩=false):=by
  intro t zF;rw [jq] at zF;refine ⟨?_,by show World.frozen? w _=false;simp [World.frozen?,hg]⟩
  show (World.cell? w _).isSome=true
  simp only [World.cell?,hg];rw [Array.getElem?_eq_getElem (by omega)]
  rfl
 have HW:Hid (w.drew.setCells g (0+i*2) (bg (l.drop (i+1)))=w.drew.setRow g C1):=lf;have HF:=ab ic;have HZ:=ab pB;have mixed:prog.follows Departure.mixedOrders=true:=by kernel_rfl
 have hq:¬ ((i:Int)=(i:Int)+1):=by omega
 have T7:(0:Int)≤(i:Int)+1:=by omega
 have Su:(i:Int)≤(i:Int)+1:=by omega
 have hq2:(i:Int)+1≤(m:Int)+1:=by omega
 have hq3:(m:Int)+1≤(c:Int):=by omega
 have WU:((i:Int)+1).toNat=i+1:=by omega
 have hic:i≤c:=by omega
 have aci:(i:Int)≤(c:Int):=by omega
 have him:(i:Int)≤(m:Int):=by omega
 have KQ:i+(m - i)=m:=by omega
 have hmc:¬ c=m:=by omega
 rw [hl] at Ct;clear qM sr ic pB mB fJ ht cp hg jq l1 lf hl nP OI;go_enter func208,ntmps208;go_wp2_with fail;go_region_law_o (refine step_append_room rfl (.tmp 22) (.tmp 25) 148 rfl 179 i0 2 underlying148 AM GM g 0 i c (by simp [Act.eval,Act.put]) A (m - i) (c - (i+1)) (bg (l.drop (i+1))) (by simp [Act.eval,Act.put]) s1.out GS.out s2.out (by omega) s3.out ?_;rw [HW.out,KQ])
 go_wp2_with (simp only [zg])
 go_ret;exact ⟨rfl,C2,rfl,HZ.out,HF.out⟩
theorem wW(l:List Lk)(i:Nat)(h:i<l.length):(cB l i).length+1=l.length:=by
 unfold cB;rw [ae,ag,ao];omega
theorem ou(base:Nat)(v:Value)(l:List Lk)(i:Nat)(w:World)(hi:i<l.length)(ho:bQ w base v l):Calls prog 208 #[v,.int .i64 (i:Int),.int .i64 ((i:Int)+1)] w fun e w'=>∃ u,e = .returned u∧bQ w' base u (cB l i)∧Below base w w':=by
 have WX:=wW l i hi;rcases ho.2 with ⟨_,h0⟩ | ⟨g,c,cur,rfl,hb,hg,Cs,sO,fG,mC⟩
 ·omega
 ·have h:=xL g c l i (cB l i).length w cur (by omega) (by omega) Cs hg fG mC
  rw [WX] at h;refine h.mono ?_
  rintro e w' ⟨rfl,fK,rfl,h2,h3⟩;exact ⟨_,rfl,bQ.row (l:=cB l i) hb (setRow_heap w.drew g cur fK 179 (0,0) hg) (by omega) sO h2 h3,below_setRow (aR (Below.refl _ _)) hb fK⟩
end B
open Go.RowKit
def jG(A:Nat→Addr)(w:World):Prop:=dk 4 fl A w∧w.cell? ⟨11,0,none⟩=some (.iface 360 (.pointer (some (A 11))))
theorem jG.below{A:Nat→Addr}{w w':World}(h:jG A w)(hb:Below w.heap.size w w'):jG A w' :=
 ⟨h.1.keep hb,(hb.cell (p:=⟨11,0,none⟩) (World.block_lt_of_cell? w _ h.2)).trans h.2⟩
theorem dk.JQ{n m:Nat}{G:Nat→Nat}{A:Nat→Addr}{w:World}(h:dk n G A w)(hm:m≤n):dk m G A w :=
 ⟨fun i hi=>h.1 i (by omega),fun i j hi hj he=>h.2 i j (by omega) (by omega) he⟩
theorem fe(p:Option Addr)(w:World):(binOp .neq 32 (.iface 360 (.pointer p)) .nilIface).run prog w = .ok (.bool true) w:=by
 have h2:∀ d:Nat,(Op.equalIn (d+1) 32 (.iface 360 (.pointer p)) .nilIface).run prog w = .ok false w:=fun d=>by
  simp [Op.equalIn,run_underlying underlying32]
 simp only [binOp];simp [Op.equal,Op.maxDepth,h2 9999]
def im(A:Nat→Addr):Option Nat→Value
 | none=>.nilIface
 | some k=>.iface 360 (.pointer (some (A k)))
namespace B
def Mj(A:Nat→Addr)(w:World):Prop:=w.cell? ⟨0,0,none⟩=some (.iface 360 (.pointer (some (A 0))))
theorem Mj.below{A:Nat→Addr}{w w':World}(h:Mj A w)(hb:Below w.heap.size w w'):Mj A w':=(hb.cell (p:=⟨0,0,none⟩) (World.block_lt_of_cell? w _ h)).trans h
theorem _root_.Go.Proofs.YtihmgigfkmofnaaGreatDoor.jG.a{A:Nat→Addr}{w:World}(h:jG A w):Mj A w:=(h.1.1 0 (by decide)).1
def zL(l:List Lk)(i:Int):Bool:=decide (0≤i) && decide (i≤(l.length:Int))
theorem LW(f i:Int)(v:Value)(l:List Lk)(w:World)(hr:dm w v l):Calls prog 160 #[.agg #[.int .i64 f,v],.int .i64 i] w fun e w'=>e = .returned (.bool (zL l i))∧Below w.heap.size w w':=by
 obtain ⟨a,c,hv⟩:=hr.form;subst hv;obtain ⟨n,hn⟩ : ∃ n,n=l.length:=⟨_,rfl⟩;have HG:Hid (zL l i=(decide (0≤i) && decide (i≤(n:Int)))):=by show _=_;rw [hn];rfl
 rw [← hn];have HB:=ab (ai w (.cells #[.int .i64 f,.slice a n c] 150));clear hr hn;by_cases h0:0≤i
 ·by_cases h1:i≤(n:Int)
  ·go_enter func160,ntmps160;go_wp2;go_ret;exact ⟨by rw [HG.out];simp [h0,h1],HB.out⟩
  ·go_enter func160,ntmps160;go_wp2;go_ret;exact ⟨by rw [HG.out];simp [h0,h1],HB.out⟩
 ·have HF:Hid (zL l i=false):=by show _=_;rw [HG.out];simp [h0]
  clear HG;go_enter func160,ntmps160;go_wp2;go_ret;exact ⟨by rw [HF.out];rfl,HB.out⟩
def p8(l:List Lk)(i:Int):Bool:=decide (0≤i) && decide (i<(l.length:Int))
theorem LV(f i:Int)(v:Value)(l:List Lk)(w:World)(hr:dm w v l):Calls prog 207 #[.agg #[.int .i64 f,v],.int .i64 i] w fun e w'=>e = .returned (.bool (p8 l i))∧Below w.heap.size w w':=by
 obtain ⟨a,c,hv⟩:=hr.form;subst hv;obtain ⟨n,hn⟩ : ∃ n,n=l.length:=⟨_,rfl⟩;have HG:Hid (p8 l i=(decide (0≤i) && decide (i<(n:Int)))):=by show _=_;rw [hn];rfl
 rw [← hn];have HB:=ab (ai w (.cells #[.int .i64 f,.slice a n c] 150));clear hr hn;by_cases h0:0≤i
 ·by_cases h1:i<(n:Int)
  ·go_enter func207,ntmps207;go_wp2;go_ret;exact ⟨by rw [HG.out];simp [h0,h1],HB.out⟩
  ·go_enter func207,ntmps207;go_wp2;go_ret;exact ⟨by rw [HG.out];simp [h0,h1],HB.out⟩
 ·have HF:Hid (p8 l i=false):=by show _=_;rw [HG.out];simp [h0]
  clear HG;go_enter func207,ntmps207;go_wp2;go_ret;exact ⟨by rw [HF.out];rfl,HB.out⟩
theorem au.one{w:World}{b:Nat}{x y:Value}{t:TypeId}(h:au w b #[x,y] t)(y':Value):au (w.setCell ⟨b,1,none⟩ y') b #[x,y'] t:=by
 have:=vE h x y';have e:w.setCell ⟨b,0,none⟩ x=w:=by
  unfold au at h;rw [setCell_eq_setRow w b 0 #[x,y] t (0,0) x h];exact setRow_self w b #[x,y] t (0,0) h
 rwa [e] at this
theorem LO(A:Nat→Addr)(f i:Int)(v:Value)(l:List Lk)(w:World)(hm:l.length≤5864062014800)(hr:dm w v l)(hE:Mj A w):Calls prog 167 #[.agg #[.int .i64 f,v],.int .i64 i] w fun e w'=>((p8 l i=true∧∃ u,e = .returned (.tuple #[.agg #[.int .i64 f,u],.nilIface])∧bQ w' w.heap.size u (cB l i.toNat))∨(p8 l i=false∧e = .returned (.tuple #[.agg #[.int .i64 0,.slice none 0 0],.iface 360 (.pointer (some (A 0)))])))∧Below w.heap.size w w':=by
 obtain ⟨a,cap,hv⟩:=hr.form;subst hv;obtain ⟨n,hn⟩ : ∃ n,n=l.length:=⟨_,rfl⟩;rw [← hn] at hm hr ⊢;have q0:=ai w (.cells #[.int .i64 f,.slice a n cap] 150);have x0:=au.new w #[.int .i64 f,.slice a n cap] 150;have s0:(w.alloc (.cells #[.int .i64 f,.slice a n cap] 150)).heap.size=w.heap.size+1:=by simp
 generalize Cy:w.alloc (.cells #[.int .i64 f,.slice a n cap] 150)=W0 at *;have q1:=ai W0 (.cells #[.int .i64 0,.slice none 0 0] 150);have x1:=au.new W0 #[.int .i64 0,.slice none 0 0] 150;have s1:(W0.alloc (.cells #[.int .i64 0,.slice none 0 0] 150)).heap.size=W0.heap.size+1:=by simp
 generalize lf:W0.alloc (.cells #[.int .i64 0,.slice none 0 0] 150)=W1 at *;have Cf:=ab (x0.below q1);have zj:=ab x1;have HQ:=ab (Below.next q0 q1);have HR:=ab (hr.below (Below.next q0 q1));have HE:=ab (hE.below (Below.next q0 q1));have HS:Hid (W0.heap.size=w.heap.size+1∧W1.heap.size=w.heap.size+2):=⟨s0,by rw [s1,s0]⟩
 have b1:¬ w.heap.size=W0.heap.size:=by omega
 have b2:¬ W0.heap.size=w.heap.size:=by omega
 have pZ:0<w.heap.size:=World.block_lt_of_cell? w _ hE;have b3:¬ 0=W0.heap.size:=by omega
 have b4:¬ W0.heap.size=0:=by omega
 have HN:=ab hn;have HH:=ab (LV f i _ l W1 HR.out);have p0:=Cf.out.c0;have p1:=Cf.out.c1;clear q0 x0 q1 x1 hr hE hn s0 s1 pZ;go_enter func167,ntmps167;go_wp2_with fail;refine HH.out.mono ?_
 rintro e w1 ⟨rfl,aN⟩;have bN:=ab aN;clear aN HH p0 p1;by_cases hg:p8 l i=true
 ·rw [hg];have HG:=ab hg;simp only [p8,cA,decide_eq_true_eq] at hg;obtain ⟨k,hk⟩ : ∃ k:Nat,i=(k:Int):=⟨i.toNat,by omega⟩
  subst hk;have ep:k<l.length:=by omega
  have HK:=ab ep;have p0:=(Cf.out.below bN.out).c0;have p1:=(Cf.out.below bN.out).c1;have zl:=ab (eM (.slice a n cap) l w1 (by have:=HN.out;omega) (HR.out.below bN.out))
  clear ep;go_wp2_with fail;refine zl.out.mono ?_
  rintro e w2 ⟨u2,rfl,dW,aY⟩;have HD:=ab (ou w1.heap.size u2 l k w2 HK.out dW);have vT:IntKind.i64.wrap ((k:Int)+1)=(k:Int)+1:=by have:=HK.out;have:=HN.out;rw [IntKind.wrap_i64];omega
  have bH:=ab aY;clear aY dW zl p0 p1;go_wp2_with fail;refine HD.out.mono ?_
  rintro e w3 ⟨u,rfl,fX,b6⟩;have HBw:Hid (Below W1.heap.size W1 w3):=Below.next bN.out (bH.out.trans b6);obtain ⟨ua,uc,hu⟩:=fX.form;obtain ⟨un,zE⟩ : ∃ n,n=(cB l k).length:=⟨_,rfl⟩;rw [← zE] at hu;subst hu;have HO:=ab fX;clear zE;have qe:=ab bN.out.size;have x0:=Cf.out.below HBw.out;have x1:=zj.out.below HBw.out;have p0:=x0.c0;have p1:=x0.c1;have p2:=x0.free 1;have p3:=x1.c0;have p4:=x1.c1;have p5:=x1.free 0;have p6:=x1.free 1;have ahN:=ab x0;have yM:=ab x1;clear b6 fX x0 x1 bH HD;go_wp2_with fail;have hx:=yM.out.other (j:=1) b2 (.slice ua un uc);have ho:=HO.out.put (g:=w.heap.size) (j:=1) (fun h=>by have:=(HO.out.dy _ h).1;have:=qe.out;have:=HS.out;omega) (.slice ua un uc)
  have dW:=(ho.ti (g:=W0.heap.size) (by have:=qe.out;have:=HS.out;omega) (.int .i64 f) (.slice ua un uc)).mono (b2:=w.heap.size) (by have:=qe.out;have:=HS.out;omega)
  have bL:=bP (b:=W0.heap.size) (x:=.int .i64 f) (y:=.slice ua un uc) ((HQ.out.trans (HBw.out.mono (by have:=HS.out;omega))).setCell (p:=⟨w.heap.size,1,none⟩) (aj _) (.slice ua un uc)) (by have:=HS.out;omega)
  exact bodyPost_ret (aK rfl _ _ W0.heap.size 150 _ (0,0) _ rfl (hx.two _ _) underlying150 rfl (by kernel_rfl)) rfl ⟨.inl ⟨HG.out,_,rfl,dW⟩,bL⟩
 ·rw [Bool.not_eq_true] at hg;rw [hg];have HG:=ab hg;have x1:=zj.out.below bN.out;have e0:w1.cell? ⟨0,0,none⟩=some (.iface 360 (.pointer (some (A 0)))):=HE.out.below bN.out;have p3:=x1.c0;have p4:=x1.c1;have p5:=x1.free 0;have p6:=x1.free 1;have yM:=ab x1;clear x1;go_wp2_with fail;go_region_held3 (fun w'=>w'.cell? ⟨0,0,none⟩=some (.iface 360 (.pointer (some (A 0))))) (go_keep) (fail)
  all_goals
   go_wp2_with fail;exact bodyPost_ret (aK rfl _ _ W0.heap.size 150 _ (0,0) _ rfl (yM.out.two _ _).drew underlying150 rfl (by kernel_rfl)) rfl ⟨.inr ⟨HG.out,rfl⟩,aR (bP (Below.next HQ.out bN.out) (by have:=HS.out;omega))⟩
theorem Qh(A:Nat→Addr)(f i:Int)(v:Value)(l:List Lk)(w:World)(hm:l.length≤5864062014800)(hr:dm w v l)(hE:jG A w) :
  Calls prog 167 #[.agg #[.int .i64 f,v],.int .i64 i] w fun e w' =>
   ((p8 l i=true∧∃ u,e = .returned (.tuple #[.agg #[.int .i64 f,u],.nilIface])∧bQ w' w.heap.size u (cB l i.toNat))∨(p8 l i=false∧e = .returned (.tuple #[.agg #[.int .i64 0,.slice none 0 0],.iface 360 (.pointer (some (A 0)))])))∧Below w.heap.size w w':=LO A f i v l w hm hr hE.a
theorem LU(A:Nat→Addr)(f i:Int)(v:Value)(l:List Lk)(key:ByteArray)(c:Int)(w:World)(hm:l.length≤5864062014800)(hr:dm w v l)(hE:Mj A w):Calls prog 203 #[.agg #[.int .i64 f,v],.int .i64 i,.agg #[.string key,.int .i64 c]] w fun e w'=>((zL l i=true∧∃ u,e = .returned (.tuple #[.agg #[.int .i64 f,u],.nilIface])∧bQ w' w.heap.size u (dD l i.toNat (key,c)))∨(zL l i=false∧e = .returned (.tuple #[.agg #[.int .i64 0,.slice none 0 0],.iface 360 (.pointer (some (A 0)))])))∧Below w.heap.size w w':=by
 obtain ⟨a,cap,hv⟩:=hr.form;subst hv;obtain ⟨n,hn⟩ : ∃ n,n=l.length:=⟨_,rfl⟩;rw [← hn] at hm hr ⊢;have q0:=ai w (.cells #[.int .i64 f,.slice a n cap] 150);have x0:=au.new w #[.int .i64 f,.slice a n cap] 150;have s0:(w.alloc (.cells #[.int .i64 f,.slice a n cap] 150)).heap.size=w.heap.size+1:=by simp
 generalize hWa:w.alloc (.cells #[.int .i64 f,.slice a n cap] 150)=Wa at *;have qa:=ai Wa (.cells #[.string key,.int .i64 c] 179);have xa:=au.new Wa #[.string key,.int .i64 c] 179;have sa:(Wa.alloc (.cells #[.string key,.int .i64 c] 179)).heap.size=Wa.heap.size+1:=by simp
 generalize Cy:Wa.alloc (.cells #[.string key,.int .i64 c] 179)=W0 at *;have q1:=ai W0 (.cells #[.int .i64 0,.slice none 0 0] 150);have x1:=au.new W0 #[.int .i64 0,.slice none 0 0] 150;have s1:(W0.alloc (.cells #[.int .i64 0,.slice none 0 0] 150)).heap.size=W0.heap.size+1:=by simp
 generalize lf:W0.alloc (.cells #[.int .i64 0,.slice none 0 0] 150)=W1 at *;have Cf:=ab (x0.below (Below.next qa q1));have pS:=ab (xa.below q1);have zj:=ab x1;have hq:=Below.next (Below.next q0 qa) q1;have HQ:=ab hq;have HR:=ab (hr.below hq);have HE:=ab (hE.below hq);have HS:Hid (Wa.heap.size=w.heap.size+1∧W0.heap.size=w.heap.size+2∧W1.heap.size=w.heap.size+3):=⟨s0,by rw [sa,s0],by rw [s1,sa,s0]⟩
 have b1:¬ w.heap.size=W0.heap.size:=by omega
 have b2:¬ W0.heap.size=w.heap.size:=by omega
 have pZ:0<w.heap.size:=World.block_lt_of_cell? w _ hE;have b3:¬ 0=W0.heap.size:=by omega
 have b4:¬ W0.heap.size=0:=by omega
 have HN:=ab hn;have HH:=ab (LW f i _ l W1 HR.out);have zl:Hid (∀ W,Below W1.heap.size W1 W→Calls prog 209 #[.slice a n cap] W fun e w'=>∃ ua uc,e = .returned (.slice ua n uc)∧bQ w' W.heap.size (.slice ua n uc) l∧Below W.heap.size W w'):=fun W h=>by
  refine (eM (.slice a n cap) l W (by have:=HN.out;omega) (HR.out.below h)).mono ?_
  rintro e w' ⟨u,rfl,ho,hb⟩;obtain ⟨ua,uc,hu⟩:=ho.form;rw [← HN.out] at hu;subst hu;exact ⟨ua,uc,rfl,ho,hb⟩
 have HIN:Hid (∀ (k:Nat) (W:World) (ua:Option Addr) (uc base vb:Nat),k≤n→W1.heap.size≤base→base≤W.heap.size→bQ W base (.slice ua n uc) l→au W vb #[.string key,.int .i64 c] 179→(Value.slice ua n uc).ownBlock≠some vb→Below W1.heap.size W1 W→Calls prog 231 #[.slice ua n uc,.int .i64 (k:Int),.slice (some ⟨vb,0,none⟩) 1 1] W fun e w'=>∃ va vc,e = .returned (.slice va (n+1) vc)∧bQ w' W1.heap.size (.slice va (n+1) vc) (dD l k (key,c))∧Below W1.heap.size W1 w'):=fun k W ua uc base vb hk aN aY ho bV ey h=>by
  refine (ot base (.slice ua n uc) l k vb (key,c) W (by have:=HN.out;omega) (by have:=HN.out;omega) ho aY bV ey).mono ?_
  rintro e w' ⟨u,rfl,ho,hb⟩;obtain ⟨va,vc,hu⟩:=ho.form;rw [fc l k _ (by have:=HN.out;omega),← HN.out] at hu
  subst hu;exact ⟨va,vc,rfl,ho.mono aN,h.trans (hb.mono aN)⟩
 have p0:=Cf.out.c0;have p1:=Cf.out.c1;clear q0 x0 qa xa q1 x1 hr hE hn s0 s1 sa pZ hq;go_enter func203,ntmps203;go_wp2_with fail;refine HH.out.mono ?_
 rintro e w1 ⟨rfl,aN⟩;have bN:=ab aN;clear aN HH p0 p1;by_cases hg:zL l i=true
 ·rw [hg];have HG:=ab hg;simp only [zL,cA,decide_eq_true_eq] at hg;obtain ⟨k,hk⟩ : ∃ k:Nat,i=(k:Int):=⟨i.toNat,by omega⟩
  subst hk;have HK:Hid (k≤n):=by have:=HN.out;show k≤n;omega
  have WI:=ab bN.out.size;have p0:=(Cf.out.below bN.out).c0;have p1:=(Cf.out.below bN.out).c1;have p2:=(pS.out.below bN.out).c0;have p3:=(pS.out.below bN.out).c1;have p4:=World.new_ne w1 _ p1;clear hg;go_wp2_with fail;refine wp_region_held_drew (S:=(fun w'=>w'.cell? ⟨Wa.heap.size,0,none⟩=some (.string key)∧w'.cell? ⟨Wa.heap.size,1,none⟩=some (.int .i64 c))) (by kernel_rfl) ⟨p2,p3⟩ (fun eh=>?_)
  refine wpAnyH_take (i:=0) (oi:={ dst:=some 14,op:=Op.fieldAddr 150 (Operand.tmp 3) 1,type:=0,pos := "branch.go:226",after:=#[],guard:=none }) (v:=?_) rfl (by kernel_rfl) (by kernel_rfl) (by kernel_rfl) (fun _ _ _ h=>h) (Or.inl ⟨by rfl,?_⟩) (by assumption) ?_
  rotate_left
  ·(intro w' tJ;(try dsimp only at tJ);go_simp;try with_reducible rfl)
  simp only [Act.put,aA,List.set_cons_zero,List.set_cons_succ];refine wpAnyH_take (i:=3) (oi:={ dst:=some 17,op:=Op.move (Operand.tmp 1),type:=3,pos := "branch.go:226",after:=#[],guard:=none }) (v:=?_) rfl (by kernel_rfl) (by kernel_rfl) (by kernel_rfl) (fun _ _ _ h=>h) (Or.inl ⟨by rfl,?_⟩) (by assumption) ?_
  rotate_left
  ·(intro w' tJ;(try dsimp only at tJ);go_simp;try with_reducible rfl)
  simp only [Act.put,aA,List.set_cons_zero,List.set_cons_succ];refine wpAnyH_take (i:=4) (oi:={ dst:=some 18,op:=Op.load 179 (Operand.tmp 5),type:=179,pos := "branch.go:226",after:=#[],guard:=none }) (v:=?_) rfl (by kernel_rfl) (by kernel_rfl) (by kernel_rfl) (fun _ _ _ h=>h) (Or.inl ⟨by rfl,?_⟩) (by assumption) ?_
  rotate_left
  ·(intro w' tJ;(try dsimp only at tJ);go_simp;try with_reducible rfl)
  simp only [Act.put,aA,List.set_cons_zero,List.set_cons_succ];refine wpAnyH_ready (rs:=[1,5]) (by kernel_rfl) (by simp) ?_
  refine AllReadyH.cons (o:={ dst:=some 15,op:=Op.load 148 (Operand.tmp 14),type:=148,pos := "branch.go:226",after:=#[{ on:=0,ground:=Ground.data }],guard:=none }) rfl (fun K hK=>?_) (AllReadyH.cons (o:={ dst:=some 19,op:=Op.buildSlice 148 1 #[(0,Operand.tmp 18)],type:=148,pos := "branch.go:226",after:=#[{ on:=4,ground:=Ground.data }],guard:=none }) rfl (fun K hK=>?_) AllReadyH.nil)
  ·clear eh;go_simp
   refine hK.out _ _ ⟨p2,p3⟩ (fun eh=>?_)
   clear hK K;refine wpAnyH_ready (rs:=[2,5]) (by kernel_rfl) (by simp) ?_
   refine AllReadyH.cons (o:={ dst:=some 16,op:=Op.call { callee:=Callee.value (Operand.func 209),args:=#[Operand.tmp 15],argTypes:=#[148] },type:=148,pos := "branch.go:226",after:=#[{ on:=1,ground:=Ground.data }],guard:=none }) rfl (fun K hK=>?_) (AllReadyH.cons (o:={ dst:=some 19,op:=Op.buildSlice 148 1 #[(0,Operand.tmp 18)],type:=148,pos := "branch.go:226",after:=#[{ on:=4,ground:=Ground.data }],guard:=none }) rfl (fun K hK=>?_) AllReadyH.nil)
   ·clear eh;go_simp
    refine (zl.out _ bN.out.drew).mono ?_
    rintro e w2 ⟨ua,uc,rfl,dW,aY⟩;have bH:=ab (Below.next bN.out (dL aY));have gX:=ab dW;have nJ:=ab (show w1.heap.size≤w2.heap.size from aY.size)
    have d2:=(pS.out.below bH.out).c0;have d3:=(pS.out.below bH.out).c1;clear dW aY;refine hK.out _ _ ⟨d2,d3⟩ (fun eh=>?_)
    clear hK K;refine wpAnyH_ready (rs:=[5]) (by kernel_rfl) (by simp) ?_
    refine AllReadyH.cons (o:={ dst:=some 19,op:=Op.buildSlice 148 1 #[(0,Operand.tmp 18)],type:=148,pos := "branch.go:226",after:=#[{ on:=4,ground:=Ground.data }],guard:=none }) rfl (fun K hK=>?_) AllReadyH.nil
    clear eh;go_simp
    have q5:=ai w2 (.cells #[.string key,.int .i64 c] 179);have x5:=au.new w2 #[.string key,.int .i64 c] 179;have gu:=ab (Below.next bH.out q5);have Z0:=ab (gX.out.below q5);have Ei:(Value.slice ua n uc).ownBlock≠some w2.heap.size:=fun h=>by have:=(gX.out.dy _ h).2;omega
    have Z9:=ab (HIN.out k (w2.alloc (.cells #[.string key,.int .i64 c] 179)) ua uc w1.heap.size w2.heap.size HK.out WI.out (aq nJ.out q5.size) Z0.out x5 Ei gu.out);have d2:=(pS.out.below gu.out).c0;have d3:=(pS.out.below gu.out).c1;generalize w2.alloc (.cells #[.string key,.int .i64 c] 179)=W5 at *;clear q5 x5 Ei;refine hK.out _ _ ⟨d2,d3⟩ (fun eh=>?_)
    clear hK K;refine wpAnyH_ready (rs:=[6]) (by kernel_rfl) (by simp) ?_
    refine AllReadyH.cons (o:={ dst:=some 20,op:=Op.call { callee:=Callee.value (Operand.func 231),args:=#[Operand.tmp 16,Operand.tmp 17,Operand.tmp 19],argTypes:=#[148,3,148] },type:=148,pos := "branch.go:226",after:=#[{ on:=2,ground:=Ground.data },{ on:=3,ground:=Ground.data },{ on:=5,ground:=Ground.data },{ on:=2,ground:=Ground.chain }],guard:=none }) rfl (fun K hK=>?_) AllReadyH.nil
    clear eh;go_simp
    refine Z9.out.mono ?_
    rintro e w3 ⟨va,vc,rfl,fX,b6⟩;have dH:=ab b6;have nL:=ab fX;have x0:=Cf.out.below b6;have e1:=x0.c1;have e2:=x0.free 1;have d2:=(pS.out.below dH.out).c0;have d3:=(pS.out.below dH.out).c1;clear fX b6 x0;refine hK.out _ _ ⟨d2,d3⟩ (fun eh=>?_)
    clear hK K;clear d2 d3;refine wpAnyH_take (i:=7) (oi:={ dst:=some 21,op:=Op.fieldAddr 150 (Operand.tmp 3) 1,type:=0,pos := "branch.go:226",after:=#[{ on:=0,ground:=Ground.phase },{ on:=1,ground:=Ground.phase },{ on:=2,ground:=Ground.phase },{ on:=3,ground:=Ground.phase },{ on:=4,ground:=Ground.phase },{ on:=5,ground:=Ground.phase },{ on:=6,ground:=Ground.phase }],guard:=none }) (v:=?_) rfl (by kernel_rfl) (by kernel_rfl) (by kernel_rfl) (fun _ _ _ h=>h) (Or.inl ⟨by rfl,?_⟩) (by assumption) ?_
    rotate_left
    ·(intro w' tJ;(try dsimp only at tJ);go_simp;try with_reducible rfl)
    simp only [Act.put,aA,List.set_cons_zero,List.set_cons_succ];refine wpAnyH_ready (rs:=[8]) (by kernel_rfl) (by simp) ?_
    refine AllReadyH.cons (o:={ dst:=none,op:=Op.store 148 (Operand.tmp 21) (Operand.tmp 20),type:=0,pos := "branch.go:226",after:=#[{ on:=7,ground:=Ground.data },{ on:=6,ground:=Ground.data },{ on:=6,ground:=Ground.chain },{ on:=0,ground:=Ground.phase },{ on:=1,ground:=Ground.phase },{ on:=2,ground:=Ground.phase },{ on:=3,ground:=Ground.phase },{ on:=4,ground:=Ground.phase },{ on:=5,ground:=Ground.phase },{ on:=6,ground:=Ground.phase }],guard:=none }) rfl (fun K hK=>?_) AllReadyH.nil
    clear eh;go_simp
    refine hK.out _ _ ⟨?_,?_⟩ (fun eh=>?_)
    ·rw [World.cell?_setCell_far _ _ _ _ (by have:=HS.out;show w.heap.size≠Wa.heap.size;omega)];exact (pS.out.below dH.out).c0
    ·rw [World.cell?_setCell_far _ _ _ _ (by have:=HS.out;show w.heap.size≠Wa.heap.size;omega)];exact (pS.out.below dH.out).c1
    clear hK K;refine wpAnyH_done (by kernel_rfl) ?_ _
    clear eh;have x0:=Cf.out.below dH.out;have x1:=zj.out.below dH.out;have y0:=x0.c0;have y3:=x1.c0;have y4:=x1.c1;have y5:=x1.free 0;have y6:=x1.free 1;have yM:=ab x1;clear x0 x1;go_wp2_with fail;have hx:=yM.out.other (j:=1) b2 (.slice va (n+1) vc);have ho:=nL.out.put (g:=w.heap.size) (j:=1) (fun h=>by have:=(nL.out.dy _ h).1;have:=HS.out;omega) (.slice va (n+1) vc)
    have dW:=(ho.ti (g:=W0.heap.size) (by have:=HS.out;omega) (.int .i64 f) (.slice va (n+1) vc)).mono (b2:=w.heap.size) (by have:=HS.out;omega)
    have bL:=bP (b:=W0.heap.size) (x:=.int .i64 f) (y:=.slice va (n+1) vc) ((HQ.out.trans (dH.out.mono (by have:=HS.out;omega))).setCell (p:=⟨w.heap.size,1,none⟩) (aj _) (.slice va (n+1) vc)) (by have:=HS.out;omega)
    exact bodyPost_ret (aK rfl _ _ W0.heap.size 150 _ (0,0) _ rfl (hx.two _ _) underlying150 rfl (by kernel_rfl)) rfl ⟨.inl ⟨HG.out,_,rfl,dW⟩,bL⟩
   ·clear eh;go_simp
    have q5:=ai w1 (.cells #[.string key,.int .i64 c] 179);have x5:=au.new w1 #[.string key,.int .i64 c] 179;have s5:(w1.alloc (.cells #[.string key,.int .i64 c] 179)).heap.size=w1.heap.size+1:=by simp
    have gu:=ab (Below.next bN.out q5);have zS:=ab x5.drew;have sU:Hid ((w1.alloc (.cells #[.string key,.int .i64 c] 179)).heap.size=w1.heap.size+1):=s5;have d2:=(pS.out.below gu.out).c0;have d3:=(pS.out.below gu.out).c1;have d1:=(Cf.out.below gu.out).c1;clear q5 x5 s5;refine hK.out _ _ ⟨d2,d3⟩ (fun eh=>?_)
    clear hK K;refine wpAnyH_ready (rs:=[2]) (by kernel_rfl) (by simp) ?_
    refine AllReadyH.cons (o:={ dst:=some 16,op:=Op.call { callee:=Callee.value (Operand.func 209),args:=#[Operand.tmp 15],argTypes:=#[148] },type:=148,pos := "branch.go:226",after:=#[{ on:=1,ground:=Ground.data }],guard:=none }) rfl (fun K hK=>?_) AllReadyH.nil
    clear eh;go_simp
    refine (zl.out _ gu.out.drew).mono ?_
    rintro e w2 ⟨ua,uc,rfl,dW,aY⟩;have bH:=ab (Below.next gu.out (dL aY));have gX:=ab dW;have HXV:=ab (zS.out.below aY);have Ei:(Value.slice ua n uc).ownBlock≠some w1.heap.size:=fun h=>by have:=(dW.dy _ h).1;have:=sU.out;have e:(w1.alloc (.cells #[.string key,.int .i64 c] 179)).drew.heap.size=(w1.alloc (.cells #[.string key,.int .i64 c] 179)).heap.size:=rfl;omega
    have Z9:=ab (HIN.out k w2 ua uc _ w1.heap.size HK.out (aq WI.out (by have:=sU.out;show w1.heap.size≤(w1.alloc (.cells #[.string key,.int .i64 c] 179)).heap.size;omega)) aY.size gX.out HXV.out Ei bH.out)
    have d2:=(pS.out.below bH.out).c0;have d3:=(pS.out.below bH.out).c1;clear dW aY Ei;refine hK.out _ _ ⟨d2,d3⟩ (fun eh=>?_)
    clear hK K;refine wpAnyH_ready (rs:=[6]) (by kernel_rfl) (by simp) ?_
    refine AllReadyH.cons (o:={ dst:=some 20,op:=Op.call { callee:=Callee.value (Operand.func 231),args:=#[Operand.tmp 16,Operand.tmp 17,Operand.tmp 19],argTypes:=#[148,3,148] },type:=148,pos := "branch.go:226",after:=#[{ on:=2,ground:=Ground.data },{ on:=3,ground:=Ground.data },{ on:=5,ground:=Ground.data },{ on:=2,ground:=Ground.chain }],guard:=none }) rfl (fun K hK=>?_) AllReadyH.nil
    clear eh;go_simp
    refine Z9.out.mono ?_
    rintro e w3 ⟨va,vc,rfl,fX,b6⟩;have dH:=ab b6;have nL:=ab fX;have x0:=Cf.out.below b6;have e1:=x0.c1;have e2:=x0.free 1;have d2:=(pS.out.below dH.out).c0;have d3:=(pS.out.below dH.out).c1;clear fX b6 x0;refine hK.out _ _ ⟨d2,d3⟩ (fun eh=>?_)
    clear hK K;clear d2 d3;refine wpAnyH_take (i:=7) (oi:={ dst:=some 21,op:=Op.fieldAddr 150 (Operand.tmp 3) 1,type:=0,pos := "branch.go:226",after:=#[{ on:=0,ground:=Ground.phase },{ on:=1,ground:=Ground.phase },{ on:=2,ground:=Ground.phase },{ on:=3,ground:=Ground.phase },{ on:=4,ground:=Ground.phase },{ on:=5,ground:=Ground.phase },{ on:=6,ground:=Ground.phase }],guard:=none }) (v:=?_) rfl (by kernel_rfl) (by kernel_rfl) (by kernel_rfl) (fun _ _ _ h=>h) (Or.inl ⟨by rfl,?_⟩) (by assumption) ?_
    rotate_left
    ·(intro w' tJ;(try dsimp only at tJ);go_simp;try with_reducible rfl)
    simp only [Act.put,aA,List.set_cons_zero,List.set_cons_succ];refine wpAnyH_ready (rs:=[8]) (by kernel_rfl) (by simp) ?_
    refine AllReadyH.cons (o:={ dst:=none,op:=Op.store 148 (Operand.tmp 21) (Operand.tmp 20),type:=0,pos := "branch.go:226",after:=#[{ on:=7,ground:=Ground.data },{ on:=6,ground:=Ground.data },{ on:=6,ground:=Ground.chain },{ on:=0,ground:=Ground.phase },{ on:=1,ground:=Ground.phase },{ on:=2,ground:=Ground.phase },{ on:=3,ground:=Ground.phase },{ on:=4,ground:=Ground.phase },{ on:=5,ground:=Ground.phase },{ on:=6,ground:=Ground.phase }],guard:=none }) rfl (fun K hK=>?_) AllReadyH.nil
    clear eh;go_simp
    refine hK.out _ _ ⟨?_,?_⟩ (fun eh=>?_)
    ·rw [World.cell?_setCell_far _ _ _ _ (by have:=HS.out;show w.heap.size≠Wa.heap.size;omega)];exact (pS.out.below dH.out).c0
    ·rw [World.cell?_setCell_far _ _ _ _ (by have:=HS.out;show w.heap.size≠Wa.heap.size;omega)];exact (pS.out.below dH.out).c1
    clear hK K;refine wpAnyH_done (by kernel_rfl) ?_ _
    clear eh;have x0:=Cf.out.below dH.out;have x1:=zj.out.below dH.out;have y0:=x0.c0;have y3:=x1.c0;have y4:=x1.c1;have y5:=x1.free 0;have y6:=x1.free 1;have yM:=ab x1;clear x0 x1;go_wp2_with fail;have hx:=yM.out.other (j:=1) b2 (.slice va (n+1) vc);have ho:=nL.out.put (g:=w.heap.size) (j:=1) (fun h=>by have:=(nL.out.dy _ h).1;have:=HS.out;omega) (.slice va (n+1) vc)
    have dW:=(ho.ti (g:=W0.heap.size) (by have:=HS.out;omega) (.int .i64 f) (.slice va (n+1) vc)).mono (b2:=w.heap.size) (by have:=HS.out;omega)
    have bL:=bP (b:=W0.heap.size) (x:=.int .i64 f) (y:=.slice va (n+1) vc) ((HQ.out.trans (dH.out.mono (by have:=HS.out;omega))).setCell (p:=⟨w.heap.size,1,none⟩) (aj _) (.slice va (n+1) vc)) (by have:=HS.out;omega)
    exact bodyPost_ret (aK rfl _ _ W0.heap.size 150 _ (0,0) _ rfl (hx.two _ _) underlying150 rfl (by kernel_rfl)) rfl ⟨.inl ⟨HG.out,_,rfl,dW⟩,bL⟩
  ·clear eh;go_simp
   have q5:=ai w1 (.cells #[.string key,.int .i64 c] 179);have x5:=au.new w1 #[.string key,.int .i64 c] 179;have s5:(w1.alloc (.cells #[.string key,.int .i64 c] 179)).heap.size=w1.heap.size+1:=by simp
   have gu:=ab (Below.next bN.out q5);have zS:=ab x5.drew;have sU:Hid ((w1.alloc (.cells #[.string key,.int .i64 c] 179)).heap.size=w1.heap.size+1):=s5;have d2:=(pS.out.below gu.out).c0;have d3:=(pS.out.below gu.out).c1;have d1:=(Cf.out.below gu.out).c1;clear q5 x5 s5;refine hK.out _ _ ⟨d2,d3⟩ (fun eh=>?_)
   clear hK K;refine wpAnyH_ready (rs:=[1]) (by kernel_rfl) (by simp) ?_
   refine AllReadyH.cons (o:={ dst:=some 15,op:=Op.load 148 (Operand.tmp 14),type:=148,pos := "branch.go:226",after:=#[{ on:=0,ground:=Ground.data }],guard:=none }) rfl (fun K hK=>?_) AllReadyH.nil
   clear eh;go_simp
   refine hK.out _ _ ⟨d2,d3⟩ (fun eh=>?_)
   clear hK K;refine wpAnyH_ready (rs:=[2]) (by kernel_rfl) (by simp) ?_
   refine AllReadyH.cons (o:={ dst:=some 16,op:=Op.call { callee:=Callee.value (Operand.func 209),args:=#[Operand.tmp 15],argTypes:=#[148] },type:=148,pos := "branch.go:226",after:=#[{ on:=1,ground:=Ground.data }],guard:=none }) rfl (fun K hK=>?_) AllReadyH.nil
   clear eh;go_simp
   refine (zl.out _ gu.out.drew).mono ?_
   rintro e w2 ⟨ua,uc,rfl,dW,aY⟩;have bH:=ab (Below.next gu.out (dL aY));have gX:=ab dW;have HXV:=ab (zS.out.below aY);have Ei:(Value.slice ua n uc).ownBlock≠some w1.heap.size:=fun h=>by have:=(dW.dy _ h).1;have:=sU.out;have e:(w1.alloc (.cells #[.string key,.int .i64 c] 179)).drew.heap.size=(w1.alloc (.cells #[.string key,.int .i64 c] 179)).heap.size:=rfl;omega
   have Z9:=ab (HIN.out k w2 ua uc _ w1.heap.size HK.out (aq WI.out (by have:=sU.out;show w1.heap.size≤(w1.alloc (.cells #[.string key,.int .i64 c] 179)).heap.size;omega)) aY.size gX.out HXV.out Ei bH.out)
   have d2:=(pS.out.below bH.out).c0;have d3:=(pS.out.below bH.out).c1;clear dW aY Ei;refine hK.out _ _ ⟨d2,d3⟩ (fun eh=>?_)
   clear hK K;refine wpAnyH_ready (rs:=[6]) (by kernel_rfl) (by simp) ?_
   refine AllReadyH.cons (o:={ dst:=some 20,op:=Op.call { callee:=Callee.value (Operand.func 231),args:=#[Operand.tmp 16,Operand.tmp 17,Operand.tmp 19],argTypes:=#[148,3,148] },type:=148,pos := "branch.go:226",after:=#[{ on:=2,ground:=Ground.data },{ on:=3,ground:=Ground.data },{ on:=5,ground:=Ground.data },{ on:=2,ground:=Ground.chain }],guard:=none }) rfl (fun K hK=>?_) AllReadyH.nil
   clear eh;go_simp
   refine Z9.out.mono ?_
   rintro e w3 ⟨va,vc,rfl,fX,b6⟩;have dH:=ab b6;have nL:=ab fX;have x0:=Cf.out.below b6;have e1:=x0.c1;have e2:=x0.free 1;have d2:=(pS.out.below dH.out).c0;have d3:=(pS.out.below dH.out).c1;clear fX b6 x0;refine hK.out _ _ ⟨d2,d3⟩ (fun eh=>?_)
   clear hK K;clear d2 d3;refine wpAnyH_take (i:=7) (oi:={ dst:=some 21,op:=Op.fieldAddr 150 (Operand.tmp 3) 1,type:=0,pos := "branch.go:226",after:=#[{ on:=0,ground:=Ground.phase },{ on:=1,ground:=Ground.phase },{ on:=2,ground:=Ground.phase },{ on:=3,ground:=Ground.phase },{ on:=4,ground:=Ground.phase },{ on:=5,ground:=Ground.phase },{ on:=6,ground:=Ground.phase }],guard:=none }) (v:=?_) rfl (by kernel_rfl) (by kernel_rfl) (by kernel_rfl) (fun _ _ _ h=>h) (Or.inl ⟨by rfl,?_⟩) (by assumption) ?_
   rotate_left
   ·(intro w' tJ;(try dsimp only at tJ);go_simp;try with_reducible rfl)
   simp only [Act.put,aA,List.set_cons_zero,List.set_cons_succ];refine wpAnyH_ready (rs:=[8]) (by kernel_rfl) (by simp) ?_
   refine AllReadyH.cons (o:={ dst:=none,op:=Op.store 148 (Operand.tmp 21) (Operand.tmp 20),type:=0,pos := "branch.go:226",after:=#[{ on:=7,ground:=Ground.data },{ on:=6,ground:=Ground.data },{ on:=6,ground:=Ground.chain },{ on:=0,ground:=Ground.phase },{ on:=1,ground:=Ground.phase },{ on:=2,ground:=Ground.phase },{ on:=3,ground:=Ground.phase },{ on:=4,ground:=Ground.phase },{ on:=5,ground:=Ground.phase },{ on:=6,ground:=Ground.phase }],guard:=none }) rfl (fun K hK=>?_) AllReadyH.nil
   clear eh;go_simp
   refine hK.out _ _ ⟨?_,?_⟩ (fun eh=>?_)
   ·rw [World.cell?_setCell_far _ _ _ _ (by have:=HS.out;show w.heap.size≠Wa.heap.size;omega)];exact (pS.out.below dH.out).c0
   ·rw [World.cell?_setCell_far _ _ _ _ (by have:=HS.out;show w.heap.size≠Wa.heap.size;omega)];exact (pS.out.below dH.out).c1
   clear hK K;refine wpAnyH_done (by kernel_rfl) ?_ _
   clear eh;have x0:=Cf.out.below dH.out;have x1:=zj.out.below dH.out;have y0:=x0.c0;have y3:=x1.c0;have y4:=x1.c1;have y5:=x1.free 0;have y6:=x1.free 1;have yM:=ab x1;clear x0 x1;go_wp2_with fail;have hx:=yM.out.other (j:=1) b2 (.slice va (n+1) vc);have ho:=nL.out.put (g:=w.heap.size) (j:=1) (fun h=>by have:=(nL.out.dy _ h).1;have:=HS.out;omega) (.slice va (n+1) vc)
   have dW:=(ho.ti (g:=W0.heap.size) (by have:=HS.out;omega) (.int .i64 f) (.slice va (n+1) vc)).mono (b2:=w.heap.size) (by have:=HS.out;omega)
   have bL:=bP (b:=W0.heap.size) (x:=.int .i64 f) (y:=.slice va (n+1) vc) ((HQ.out.trans (dH.out.mono (by have:=HS.out;omega))).setCell (p:=⟨w.heap.size,1,none⟩) (aj _) (.slice va (n+1) vc)) (by have:=HS.out;omega)
   exact bodyPost_ret (aK rfl _ _ W0.heap.size 150 _ (0,0) _ rfl (hx.two _ _) underlying150 rfl (by kernel_rfl)) rfl ⟨.inl ⟨HG.out,_,rfl,dW⟩,bL⟩
 ·rw [Bool.not_eq_true] at hg;rw [hg];have HG:=ab hg;have x1:=zj.out.below bN.out;have e0:w1.cell? ⟨0,0,none⟩=some (.iface 360 (.pointer (some (A 0)))):=HE.out.below bN.out;have p3:=x1.c0;have p4:=x1.c1;have p5:=x1.free 0;have p6:=x1.free 1;have yM:=ab x1;clear x1;go_wp2_with fail;go_region_held3 (fun w'=>w'.cell? ⟨0,0,none⟩=some (.iface 360 (.pointer (some (A 0))))) (go_keep) (fail)
  all_goals
   go_wp2_with fail;exact bodyPost_ret (aK rfl _ _ W0.heap.size 150 _ (0,0) _ rfl (yM.out.two _ _).drew underlying150 rfl (by kernel_rfl)) rfl ⟨.inr ⟨HG.out,rfl⟩,aR (bP (Below.next HQ.out bN.out) (by have:=HS.out;omega))⟩
theorem Qj(A:Nat→Addr)(f i:Int)(v:Value)(l:List Lk)(key:ByteArray)(c:Int)(w:World)(hm:l.length≤5864062014800)(hr:dm w v l)(hE:jG A w) :
  Calls prog 203 #[.agg #[.int .i64 f,v],.int .i64 i,.agg #[.string key,.int .i64 c]] w fun e w' =>
   ((zL l i=true∧∃ u,e = .returned (.tuple #[.agg #[.int .i64 f,u],.nilIface])∧bQ w' w.heap.size u (dD l i.toNat (key,c)))∨(zL l i=false∧e = .returned (.tuple #[.agg #[.int .i64 0,.slice none 0 0],.iface 360 (.pointer (some (A 0)))])))∧Below w.heap.size w w':=LU A f i v l key c w hm hr hE.a
end B
namespace T
theorem wA(A:Nat→Addr)(b:Nat)(n:SN)(pv lv cv:Value)(i:Nat)(w:World)(h:dM w b n pv lv cv)(hi:i<n.lk.length)(hlen:n.us.length=n.lk.length+1)(hE:jG A w):Calls prog 127 #[.pointer (some ⟨b,0,none⟩),.int .i64 (i:Int)] w fun e w'=>Ra w ⟨[],n.f,B.cB n.lk i,C.cB n.us (i+1)⟩ e w':=by
 have hf:=h.fine;have ZS:Hid (Calls prog 167 #[.agg #[.int .i64 n.f,lv],.int .i64 (i:Int)] w fun e w'=>∃ (ua:Option Addr) (um uc:Nat),e = .returned (.tuple #[.agg #[.int .i64 n.f,.slice ua um uc],.nilIface])∧B.bQ w' w.heap.size (.slice ua um uc) (B.cB n.lk i)∧Below w.heap.size w w'):=by
  refine (B.Qh A n.f (i:Int) lv n.lk w (by omega) h.bg hE).mono fun e w' ⟨hv,hb⟩=>?_
  rcases hv with ⟨_,u,he,ho⟩ | ⟨hg,_⟩
  ·obtain ⟨ua,uc,hu⟩:=ho.form;subst hu;exact ⟨_,_,_,he,ho,hb⟩
  ·exfalso
   simp only [B.p8,Bool.and_eq_false_iff,decide_eq_false_iff_not] at hg;omega
 have p1:=h.c1;have p2:=h.c2;have HH:=ab h;have bL:b<w.heap.size:=h.row.lt;obtain ⟨j,hj⟩ : ∃ j,j=i+1:=⟨_,rfl⟩;have vT:IntKind.i64.wrap ((i:Int)+1)=(j:Int):=by rw [IntKind.wrap_i64];omega
 have QU:IntKind.i64.wrap ((i:Int)+2)=(j:Int)+1:=by rw [IntKind.wrap_i64];omega
 have HJ:Hid (j<n.us.length∧n.us.length≤4001):=⟨by omega,by omega⟩
 have HF:=ab hf;have HI:=ab hi;rw [← hj];clear h hf hE hi hlen hj;go_enter func127,ntmps127;go_wp2_with fail;refine ZS.out.mono ?_
 rintro e w1 ⟨ua,um,uc,rfl,ho,aN⟩;have q2:=ai w1 (.cells #[.int .i64 n.f,.slice ua um uc] 150);have x2:=B.au.new w1 #[.int .i64 n.f,.slice ua um uc] 150;have HO:=ab (ho.below q2);have bH:=ab (Below.next aN q2);have vf:=ab x2;have fh:¬ b=w1.heap.size:=by have:=aN.size;omega
 clear ZS p1 p2 ho aN q2 x2;go_wp2_with fail;generalize w1.alloc (.cells #[.int .i64 n.f,.slice ua um uc] 150)=W2 at *;generalize w1.heap.size=k2 at *;have k0:=vf.out.c0;have k1:=vf.out.c1;have k3:=(HH.out.below bH.out).c3;obtain ⟨ca,cc,yh⟩:=HH.out.kids.form;have zl:Hid (∀ W,Below W2.heap.size W2 W→Calls prog 164 #[cv] W fun e w'=>∃ (g c:Nat),e = .returned (.slice (some ⟨g,0,none⟩) n.us.length c)∧C.bQ w' W.heap.size (.slice (some ⟨g,0,none⟩) n.us.length c) n.us∧Below W.heap.size W w'):=fun W hW=>by
  refine (C.eM cv n.us W (by have:=HJ.out;omega) ((HH.out.below (Below.next bH.out hW)).kids)).mono fun e w' ⟨u,h1,h2,h3⟩=>?_
  obtain ⟨g,c,hu,_,_⟩:=sq h2 (by have:=HJ.out;omega)
  subst hu;exact ⟨g,c,h1,h2,h3⟩
 subst yh;have Xr:Hid (k2<W2.heap.size∧b<W2.heap.size):=⟨vf.out.lt,by have:=bH.out.size;omega⟩
 have Cg:Hid ((C.cB n.us j).length≤4001∧(B.cB n.lk i).length≤4000∧∀ p ∈ B.cB n.lk i,cQ p.1):=by
  have h1:=HJ.out;have h2:=HF.out;refine ⟨by unfold C.cB;rw [ae,ag,ao];omega,by unfold B.cB;rw [ae,ag,ao];omega,fun p hp=>?_⟩
  unfold B.cB at hp;rcases List.mem_append.1 hp with h | h
  ·exact h2.2.2.1 p (bF h)
  ·exact h2.2.2.1 p (bG h)
 go_region_held3 (fun w'=>w'.cell? ⟨k2,0,none⟩=some (.int .i64 n.f)∧w'.cell? ⟨k2,1,none⟩=some (.slice ua um uc)∧w'.cell? ⟨b,3,none⟩=some (.slice ca n.us.length cc)) (go_keep)
  (first
   | (go_at_call 164;refine (zl.out _ (Below.refl _ _).drew).mono ?_;rintro e w3 ⟨g,c,rfl,fX,b6⟩;have nL:=ab fX;have dH:=ab (B.dL b6);have m0:=(vf.out.below dH.out).c0;have m1:=(vf.out.below dH.out).c1;have m3:=(HH.out.below (Below.next bH.out dH.out)).c3;clear fX b6)
   | (go_at_call 168;refine (C.ou _ _ n.us j _ HJ.out.1 nL.out).mono ?_;rintro e w4 ⟨u4,rfl,nH,gH⟩;obtain ⟨a4,c4,hu4⟩:=nH.form;subst hu4;have wj:=ab nH;have gY:Hid (Below W2.heap.size W2 w4):=dH.out.trans gH;have m0:=(vf.out.below gY.out).c0;have m1:=(vf.out.below gY.out).c1;have m3:=(HH.out.below (Below.next bH.out gY.out)).c3;clear nH gH))
 all_goals (
  have q:=ai w4 (.cells #[.slice none 0 0,.int .i64 n.f,.slice ua um uc,.slice a4 (C.cB n.us j).length c4] 155);have xr:=B.au.new w4 #[.slice none 0 0,.int .i64 n.f,.slice ua um uc,.slice a4 (C.cB n.us j).length c4] 155;have HR:Hid (dM (w4.alloc (.cells #[.slice none 0 0,.int .i64 n.f,.slice ua um uc,.slice a4 (C.cB n.us j).length c4] 155)) w4.heap.size ⟨[],n.f,B.cB n.lk i,C.cB n.us j⟩ (.slice none 0 0) (.slice ua um uc) (.slice a4 (C.cB n.us j).length c4)):=⟨xr,gZ.nil _,((HO.out.below gY.out).below q).at,(wj.out.below q).at,(fun p hp=>by simp at hp),by simp,Cg.out.2.2,Cg.out.2.1,Cg.out.1⟩
  have rm:=ab (Below.next (Below.next bH.out gY.out) q);clear q xr;go_wp2;go_ret;exact ⟨_,_,_,_,rfl,HR.out,rm.out⟩)
end T
end Go.Proofs.YtihmgigfkmofnaaGreatDoor
