import Derived.Test.YtihmgigfkmofnaaGreatDoorG03
import Derived.Lib.SlicesDelete
set_option maxHeartbeats 4000000
set_option maxRecDepth 1000000
open Go.Proofs.Tryz
namespace Go.Proofs.YtihmgigfkmofnaaGreatDoor
namespace C
open Go.RowKit Go.Lib
theorem iY(g:Nat)(t:TypeId):∀ (vs:List Value) (o:Nat) (cur:Array Value) (w:World),w.heap[g]?=some (.cells cur t (0,0))→o+vs.length≤cur.size →
  w.setCells g o vs=w.setRow g (cur.toList.take o++vs++cur.toList.drop (o+vs.length)).toArray
 | [],o,cur,w,hg,_=>by
  simp only [World.setCells,List.append_nil,List.length_nil,Nat.add_zero,aH,Array.toArray_toList];rw [setRow_self w g cur t (0,0) hg]
 | v::r,o,cur,w,hg,hl=>by
  have ho:o<cur.size:=by simp at hl;omega
  rw [World.setCells,setCell_eq_setRow w g o cur t (0,0) v hg,iY g t r (o+1) (cur.setIfInBounds o v) _ (setRow_heap w g cur _ t _ hg) (by simp at hl ⊢;omega),setRow_setRow]
  congr 1
  have e:=list_seg_step cur.toList o v r (by simp at hl ⊢;omega)
  simpa [Array.toList_setIfInBounds,Nat.add_assoc] using e
theorem xq(g c:Nat)(l:List Lk)(i m:Nat)(w:World)(cur:Array Value)(hl:l.length=m+1)(hi:i≤m)(B6:l.length≤c)(hg:w.heap[g]?=some (.cells cur 97 (0,0)))(b7:cur.size=c)(ht:cur.toList.take (l.length)=a8 l):Calls prog 168 #[.slice (some ⟨g,0,none⟩) (m+1) c,.int .i64 (i:Int),.int .i64 ((i:Int)+1)] w fun e w'=>e = .returned (.slice (some ⟨g,0,none⟩) m c)∧∃ fL:Array Value,w'=w.drew.setRow g fL∧fL.size=c∧fL.toList.take (m)=a8 (cA l i):=by
 obtain ⟨i0,yy,nK,GA,OU⟩:=info_parts lB;have jw:(a8 (l.drop (i+1))).length=(m - i):=by rw [eb,ao,hl];omega
 have l1:(a8 (l.take i)).length=i:=by rw [eb,ag];omega
 obtain ⟨A,hA,GJ⟩ : ∃ A:Addr,(if c=i+1 then some (⟨g,0,none⟩ : Addr) else some ⟨g,(i+1),none⟩)=some A∧Hid (∀ t u,(a8 (l.drop (i+1)))[t]?=some u→w.drew.cell? (A.add t)=some u):=by
  by_cases h:c=i+1
  ·refine ⟨⟨g,0,none⟩,by simp [h],fun t u hu=>?_⟩
   have h0:(a8 (l.drop (i+1))).length=0:=by rw [jw];omega
   rw [List.length_eq_zero_iff.1 h0] at hu;simp at hu
  ·refine ⟨⟨g,(i+1),none⟩,by simp [h],fun t u hu=>?_⟩
   rw [bz];exact gT hg ht (i+1) t u hu
 obtain ⟨C1,qv⟩ : ∃ C:Array Value,C=(cur.toList.take (i)++a8 (l.drop (i+1))++cur.toList.drop (i+(a8 (l.drop (i+1))).length)).toArray:=⟨_,rfl⟩;have mG:C1.size=c:=by rw [qv];simp [jw,b7];omega
 have gF:w.drew.setCells g (0+i) (a8 (l.drop (i+1)))=w.drew.setRow g C1:=by
  rw [Nat.zero_add,qv];exact iY g 97 _ _ cur w.drew hg (by rw [jw,b7];omega)
 have fG:(w.drew.setRow g C1).heap[g]?=some (.cells C1 97 (0,0)):=setRow_heap w.drew g cur C1 97 (0,0) hg;obtain ⟨C2,rJ⟩ : ∃ C:Array Value,C=(C1.toList.take (m)++[Value.nilIface]++C1.toList.drop (m+1)).toArray:=⟨_,rfl⟩;have o7:C2.size=c:=by rw [rJ];simp [mG];omega
 have qN:∀ ty cc,(Builtin.clear_ #[153] ty #[.slice (some ⟨g,m,none⟩) 1 cc]).run prog (w.drew.setRow g C1) = .ok (.tuple #[]) (w.drew.setRow g C2):=fun ty cc=>by
  rw [kS (w.drew.setRow g C1) 153 97 ty _ underlying153 zeroValue97 rfl rfl g (m) cc C1 97 fG (by omega),rJ,setRow_setRow]
 have gY:C2.toList.take (m)=a8 (cA l i):=by
  have e1:cur.toList.take (i)=a8 (l.take i):=by
   rw [Bg,← ht,gQ,a7 (by omega)]
  rw [rJ,List.toList_toArray,ax,aF (by simp [mG];omega),gQ,Nat.min_self,qv,List.toList_toArray,e1,cA,cZ,aF (by simp only [ae,jw,l1];omega),al (by simp only [ae,jw,l1];omega)]
 have s1:Hid ((a8 (l.drop (i+1))).length=(m - i)*1):=by show _=_;rw [Nat.mul_one];exact jw
 have s2:Hid (∀ u ∈ a8 (l.drop (i+1)),u.oneCell'=true):=fU _;have s3:Hid (∀ t,t<(a8 (l.drop (i+1))).length→(w.drew.cell? ⟨g,0+i*1+t,none⟩).isSome=true∧w.drew.frozen? ⟨g,0+i*1+t,none⟩=false):=by
  intro t yT;rw [jw] at yT;refine ⟨?_,by show World.frozen? w _=false;simp [World.frozen?,hg]⟩
  show (World.cell? w _).isSome=true
  simp only [World.cell?,hg];rw [Array.getElem?_eq_getElem (by omega)]
  rfl
 have HW:Hid (w.drew.setCells g (0+i*1) (a8 (l.drop (i+1)))=w.drew.setRow g C1):=by show _=_;rw [Nat.mul_one];exact gF
 have HF:=ab gY;have HZ:=ab o7;have mixed:prog.follows Departure.mixedOrders=true:=by kernel_rfl
 have hq:¬ ((i:Int)=(i:Int)+1):=by omega
 have Q8:(0:Int)≤(i:Int)+1:=by omega
 have O5:(i:Int)≤(i:Int)+1:=by omega
 have Xq:(i:Int)+1≤(m:Int)+1:=by omega
 have hq3:(m:Int)+1≤(c:Int):=by omega
 have Xn:((i:Int)+1).toNat=i+1:=by omega
 have hic:i≤c:=by omega
 have ac9:(i:Int)≤(c:Int):=by omega
 have him:(i:Int)≤(m:Int):=by omega
 have KV:i+(m - i)=m:=by omega
 have hmc:¬ c=m:=by omega
 rw [hl] at B6;clear qv rJ gY o7 mG fG ht b7 hg jw l1 gF hl nK OU;go_enter func168,ntmps168;go_wp2_with fail;go_region_law_o (refine step_append_room rfl (.tmp 22) (.tmp 25) 153 rfl 97 i0 1 underlying153 yy GA g 0 i c (by simp [Act.eval,Act.put]) A (m - i) (c - (i+1)) (a8 (l.drop (i+1))) (by simp [Act.eval,Act.put]) s1.out GJ.out s2.out (by omega) s3.out ?_;rw [HW.out,KV])
 go_wp2_with (simp only [qN])
 go_ret;exact ⟨rfl,C2,rfl,HZ.out,HF.out⟩
theorem wC(l:List Lk)(i:Nat)(h:i<l.length):(cA l i).length+1=l.length:=by
 unfold cA;rw [ae,ag,ao];omega
theorem ou(base:Nat)(v:Value)(l:List Lk)(i:Nat)(w:World)(hi:i<l.length)(ho:b6 w base v l):Calls prog 168 #[v,.int .i64 (i:Int),.int .i64 ((i:Int)+1)] w fun e w'=>∃ u,e = .returned u∧b6 w' base u (cA l i)∧Below base w w':=by
 have Xp:=wC l i hi;rcases ho.2 with ⟨_,h0⟩ | ⟨g,c,cur,rfl,hb,hg,B4,sf,fH,mH⟩
 ·omega
 ·have h:=xq g c l i (cA l i).length w cur (by omega) (by omega) B4 hg (by rw [fH,Nat.mul_one]) (by rw [Nat.mul_one] at mH;exact mH)
  rw [Xp] at h;refine h.mono ?_
  rintro e w' ⟨rfl,fL,rfl,h2,h3⟩;exact ⟨_,rfl,b6.row (l:=cA l i) hb (setRow_heap w.drew g cur fL 97 (0,0) hg) (by omega) sf h2 h3,below_setRow (B.aO (Below.refl _ _)) hb fL⟩
end C
namespace T
open Go.RowKit
structure SN where
 ps:List Pr
 f:Int
 lk:List B.Lk
 us:List C.Ch
structure dH(w:World)(b:Nat)(n:SN)(pv lv cv:Value):Prop where
 row:B.au w b #[pv,.int .i64 n.f,lv,cv] 155
 iy:gG w pv n.ps
 a8:B.di w lv n.lk
 kids:C.di w cv n.us
 fine:(∀ p ∈ n.ps,cO p=true)∧n.ps.length≤4000∧(∀ p ∈ n.lk,cQ p.1)∧n.lk.length≤4000∧n.us.length≤4001
theorem dH.below{w w':World}{b:Nat}{n:SN}{pv lv cv:Value}(h:dH w b n pv lv cv)(hb:Below w.heap.size w w'):dH w' b n pv lv cv :=
 ⟨h.row.below hb,h.iy.below hb,h.a8.below hb,h.kids.below hb,h.fine⟩
theorem dH.c0{w:World}{b:Nat}{n:SN}{pv lv cv:Value}(h:dH w b n pv lv cv):w.cell? ⟨b,0,none⟩=some pv:=h.row.cell 0 (by simp)
theorem dH.c1{w:World}{b:Nat}{n:SN}{pv lv cv:Value}(h:dH w b n pv lv cv):w.cell? ⟨b,1,none⟩=some (.int .i64 n.f):=h.row.cell 1 (by simp)
theorem dH.c2{w:World}{b:Nat}{n:SN}{pv lv cv:Value}(h:dH w b n pv lv cv):w.cell? ⟨b,2,none⟩=some lv:=h.row.cell 2 (by simp)
theorem dH.c3{w:World}{b:Nat}{n:SN}{pv lv cv:Value}(h:dH w b n pv lv cv):w.cell? ⟨b,3,none⟩=some cv:=h.row.cell 3 (by simp)
theorem cB(b:Nat)(n:SN)(pv lv cv:Value)(w:World)(h:dH w b n pv lv cv):Calls prog 93 #[.pointer (some ⟨b,0,none⟩)] w fun e w'=>e = .returned (.bool (decide (n.us.length=0)))∧w=w':=by
 obtain ⟨a,c,xJ⟩:=h.kids.form;subst xJ;have p3:=h.c3;obtain ⟨m,hm⟩ : ∃ m,m=n.us.length:=⟨_,rfl⟩;rw [← hm] at p3 ⊢;clear h hm;by_cases h0:m=0
 ·subst h0;go_enter func93,ntmps93;go_wp2;go_ret;exact ⟨rfl,rfl⟩
 ·have hd:decide (m=0)=false:=by simp [h0]
  rw [hd];have h1:((m:Int) == 0)=false:=by simp;omega
  clear hd;go_enter func93,ntmps93;go_wp2;go_ret;exact ⟨rfl,rfl⟩
def SN.sz(n:SN):Nat:=if n.us.length=0 then fR n.ps else B.jM n.lk
theorem Np{l:List B.Lk}(h:∀ p ∈ l,cQ p.1):B.jM l≤262*l.length+6:=by
 induction l with
 | nil=>simp [B.jM]
 | cons p l ih =>
  have a:=ih fun q hq=>h q (dQ _ hq)
  have b:=(h p dj).2;rw [B.nX,List.length_cons];unfold B.yu;omega
theorem dH.okL{w:World}{b:Nat}{n:SN}{pv lv cv:Value}(h:dH w b n pv lv cv):TL n.ps:=fun p hp=>by
 have:=eL (h.fine.1 p hp);omega
theorem dH.tQ{w:World}{b:Nat}{n:SN}{pv lv cv:Value}(h:dH w b n pv lv cv):B.UX n.lk:=fun p hp=>by
 have:=(h.fine.2.2.1 p hp).2;omega
theorem dH.Ug{w:World}{b:Nat}{n:SN}{pv lv cv:Value}(h:dH w b n pv lv cv):Calls prog 161 #[pv] w fun e w'=>e = .returned (.int .i64 (fR n.ps:Int))∧Below w.heap.size w w':=by
 refine (z7 pv n.ps w h.okL (by have:=h.fine.2.1;omega) h.iy).mono fun e w' ⟨h1,h2⟩=>⟨?_,h2⟩
 rw [h1,kI (by have:=ve h.fine.1;have:=h.fine.2.1;omega)]
theorem dH.bsize{w:World}{b:Nat}{n:SN}{pv lv cv:Value}(h:dH w b n pv lv cv):Calls prog 156 #[.agg #[.int .i64 n.f,lv]] w fun e w'=>e = .returned (.int .i64 (B.jM n.lk:Int))∧Below w.heap.size w w':=by
 refine (B.AG n.f lv n.lk w h.tQ (by have:=h.fine.2.2.2.1;omega) h.a8).mono fun e w' ⟨h1,h2⟩=>⟨?_,h2⟩
 rw [h1,B.kI (by have:=Np h.fine.2.2.1;have:=h.fine.2.2.2.1;omega)]
theorem Cv(b:Nat)(n:SN)(pv lv cv:Value)(w:World)(h:dH w b n pv lv cv)(h0:n.us.length=0):Calls prog 128 #[.pointer (some ⟨b,0,none⟩)] w fun e w'=>e = .returned (.bool (decide (4072<fR n.ps)))∧Below w.heap.size w w':=by
 have HL:=ab (cB b n pv lv cv w h);rw [show decide (n.us.length=0)=true by simp [h0]] at HL
 have HS:=ab h.Ug;have p0:=h.c0;have p1:=h.c1;have p2:=h.c2;obtain ⟨x,hx⟩ : ∃ x,x=fR n.ps:=⟨_,rfl⟩;rw [← hx] at HS ⊢;clear h h0 hx;by_cases hb:4072<x
 ·rw [show decide (4072<x)=true by simp [hb]]
  have PE:(4072:Int)<(x:Int):=by omega
  go_enter func128,ntmps128;go_wp2_with fail;refine HL.out.mono ?_
  rintro e w1 ⟨rfl,rfl⟩;go_wp2_with fail;refine HS.out.mono ?_
  rintro e w2 ⟨rfl,aU⟩;have HB:=ab aU;clear aU p0 p1 p2;go_wp2;go_ret;exact ⟨rfl,HB.out⟩
 ·rw [show decide (4072<x)=false by simp [hb]]
  have PE:¬ (4072:Int)<(x:Int):=by omega
  have Wc:decide ((4072:Int)<(x:Int))=false:=decide_eq_false PE;go_enter func128,ntmps128;go_wp2_with fail;refine HL.out.mono ?_
  rintro e w1 ⟨rfl,rfl⟩;go_wp2_with fail;refine HS.out.mono ?_
  rintro e w2 ⟨rfl,aU⟩;have HB:=ab aU;clear aU p0 p1 p2;go_wp2;go_ret;exact ⟨by first | rfl | (show Ending.returned (Value.bool _)=_;rw [Wc]),HB.out⟩
theorem JW(b:Nat)(n:SN)(pv lv cv:Value)(w:World)(h:dH w b n pv lv cv)(h0:¬ n.us.length=0):Calls prog 128 #[.pointer (some ⟨b,0,none⟩)] w fun e w'=>e = .returned (.bool (decide (4072<B.jM n.lk)))∧Below w.heap.size w w':=by
 have HL:=ab (cB b n pv lv cv w h);rw [show decide (n.us.length=0)=false by simp [h0]] at HL
 have HS:=ab h.bsize;have p0:=h.c0;have p1:=h.c1;have p2:=h.c2;obtain ⟨x,hx⟩ : ∃ x,x=B.jM n.lk:=⟨_,rfl⟩;rw [← hx] at HS ⊢;clear h h0 hx;by_cases hb:4072<x
 ·rw [show decide (4072<x)=true by simp [hb]]
  have PE:(4072:Int)<(x:Int):=by omega
  go_enter func128,ntmps128;go_wp2_with fail;refine HL.out.mono ?_
  rintro e w1 ⟨rfl,rfl⟩;go_wp2_with fail;refine HS.out.mono ?_
  rintro e w2 ⟨rfl,aU⟩;have HB:=ab aU;clear aU p0 p1 p2;go_wp2;go_ret;exact ⟨rfl,HB.out⟩
 ·rw [show decide (4072<x)=false by simp [hb]]
  have PE:¬ (4072:Int)<(x:Int):=by omega
  have Wc:decide ((4072:Int)<(x:Int))=false:=decide_eq_false PE;go_enter func128,ntmps128;go_wp2_with fail;refine HL.out.mono ?_
  rintro e w1 ⟨rfl,rfl⟩;go_wp2_with fail;refine HS.out.mono ?_
  rintro e w2 ⟨rfl,aU⟩;have HB:=ab aU;clear aU p0 p1 p2;go_wp2;go_ret;exact ⟨by first | rfl | (show Ending.returned (Value.bool _)=_;rw [Wc]),HB.out⟩
theorem yG(b:Nat)(n:SN)(pv lv cv:Value)(w:World)(h:dH w b n pv lv cv)(h0:n.us.length=0):Calls prog 123 #[.pointer (some ⟨b,0,none⟩)] w fun e w'=>e = .returned (.bool (decide (fR n.ps<1556)))∧Below w.heap.size w w':=by
 have HL:=ab (cB b n pv lv cv w h);rw [show decide (n.us.length=0)=true by simp [h0]] at HL
 have HS:=ab h.Ug;have p0:=h.c0;have p1:=h.c1;have p2:=h.c2;obtain ⟨x,hx⟩ : ∃ x,x=fR n.ps:=⟨_,rfl⟩;rw [← hx] at HS ⊢;clear h h0 hx;by_cases hb:x<1556
 ·rw [show decide (x<1556)=true by simp [hb]]
  have PE:(x:Int)<1556:=by omega
  go_enter func123,ntmps123;go_wp2_with fail;refine HL.out.mono ?_
  rintro e w1 ⟨rfl,rfl⟩;go_wp2_with fail;refine HS.out.mono ?_
  rintro e w2 ⟨rfl,aU⟩;have HB:=ab aU;clear aU p0 p1 p2;go_wp2;go_ret;exact ⟨rfl,HB.out⟩
 ·rw [show decide (x<1556)=false by simp [hb]]
  have PE:¬ (x:Int)<1556:=by omega
  have Wc:decide ((x:Int)<1556)=false:=decide_eq_false PE;go_enter func123,ntmps123;go_wp2_with fail;refine HL.out.mono ?_
  rintro e w1 ⟨rfl,rfl⟩;go_wp2_with fail;refine HS.out.mono ?_
  rintro e w2 ⟨rfl,aU⟩;have HB:=ab aU;clear aU p0 p1 p2;go_wp2;go_ret;exact ⟨by first | rfl | (show Ending.returned (Value.bool _)=_;rw [Wc]),HB.out⟩
theorem Cu(b:Nat)(n:SN)(pv lv cv:Value)(w:World)(h:dH w b n pv lv cv)(h0:¬ n.us.length=0):Calls prog 123 #[.pointer (some ⟨b,0,none⟩)] w fun e w'=>e = .returned (.bool (decide (B.jM n.lk<1777)))∧Below w.heap.size w w':=by
 have HL:=ab (cB b n pv lv cv w h);rw [show decide (n.us.length=0)=false by simp [h0]] at HL
 have HS:=ab h.bsize;have p0:=h.c0;have p1:=h.c1;have p2:=h.c2;obtain ⟨x,hx⟩ : ∃ x,x=B.jM n.lk:=⟨_,rfl⟩;rw [← hx] at HS ⊢;clear h h0 hx;by_cases hb:x<1777
 ·rw [show decide (x<1777)=true by simp [hb]]
  have PE:(x:Int)<1777:=by omega
  go_enter func123,ntmps123;go_wp2_with fail;refine HL.out.mono ?_
  rintro e w1 ⟨rfl,rfl⟩;go_wp2_with fail;refine HS.out.mono ?_
  rintro e w2 ⟨rfl,aU⟩;have HB:=ab aU;clear aU p0 p1 p2;go_wp2;go_ret;exact ⟨rfl,HB.out⟩
 ·rw [show decide (x<1777)=false by simp [hb]]
  have PE:¬ (x:Int)<1777:=by omega
  have Wc:decide ((x:Int)<1777)=false:=decide_eq_false PE;go_enter func123,ntmps123;go_wp2_with fail;refine HL.out.mono ?_
  rintro e w1 ⟨rfl,rfl⟩;go_wp2_with fail;refine HS.out.mono ?_
  rintro e w2 ⟨rfl,aU⟩;have HB:=ab aU;clear aU p0 p1 p2;go_wp2;go_ret;exact ⟨by first | rfl | (show Ending.returned (Value.bool _)=_;rw [Wc]),HB.out⟩
theorem p7(b:Nat)(n:SN)(pv lv cv:Value)(w:World)(h:dH w b n pv lv cv):Calls prog 128 #[.pointer (some ⟨b,0,none⟩)] w fun e w'=>e = .returned (.bool (decide (4072<n.sz)))∧Below w.heap.size w w':=by
 unfold SN.sz;by_cases h0:n.us.length=0
 ·rw [if_pos h0];exact Cv b n pv lv cv w h h0
 ·rw [if_neg h0];exact JW b n pv lv cv w h h0
def SN.min(n:SN):Nat:=if n.us.length=0 then 1556 else 1777
theorem mL(b:Nat)(n:SN)(pv lv cv:Value)(w:World)(h:dH w b n pv lv cv):Calls prog 123 #[.pointer (some ⟨b,0,none⟩)] w fun e w'=>e = .returned (.bool (decide (n.sz<n.min)))∧Below w.heap.size w w':=by
 unfold SN.sz SN.min;by_cases h0:n.us.length=0
 ·rw [if_pos h0,if_pos h0];exact yG b n pv lv cv w h h0
 ·rw [if_neg h0,if_neg h0];exact Cu b n pv lv cv w h h0
def Ru(w:World)(n:SN)(e:Ending)(w':World):Prop:=∃ b pv lv cv,e = .returned (.pointer (some ⟨b,0,none⟩))∧dH w' b n pv lv cv∧Below w.heap.size w w'
theorem rI{w:World}{base:Nat}{v:Value}{l:List C.Ch}(h:C.b6 w base v l)(hl:0<l.length):∃ g c,v = .slice (some ⟨g,0,none⟩) l.length c∧base≤g∧g<w.heap.size:=by
 rcases h.2 with ⟨_,h0⟩ | ⟨g,c,cur,hv,hb,hg,_⟩
 ·omega
 ·exact ⟨g,c,hv,hb,(Array.getElem?_eq_some_iff.1 hg).1⟩
theorem mK(b:Nat)(n:SN)(pv lv cv:Value)(i:Nat)(p:C.Ch)(w:World)(h:dH w b n pv lv cv)(hi:i<n.us.length):Calls prog 125 #[.pointer (some ⟨b,0,none⟩),.int .i64 (i:Int),p.val] w fun e w'=>Ru w ⟨[],n.f,n.lk,n.us.set i p⟩ e w':=by
 have hf:=h.fine;have HC:=ab (C.eM cv n.us w (by omega) h.kids)
 have p3:=h.c3;have bO:b<w.heap.size:=h.row.lt;have HH:=ab h;obtain ⟨pp,GK⟩ : ∃ x,x=p.val:=⟨_,rfl⟩;have D2:pp.oneCell'=true:=by rw [GK];exact C.val_one p
 have HP:=ab GK;rw [← GK];clear h GK;obtain ⟨t,x,hx⟩ : ∃ t x,pp = .iface t x:=by
  rw [HP.out];cases p
  ·exact ⟨_,_,rfl⟩
  ·exact ⟨_,_,rfl⟩
 subst hx;obtain ⟨m,hm⟩ : ∃ m,m=n.us.length:=⟨_,rfl⟩;have HM:=ab hm;rw [← hm] at hi hf;clear hm;go_enter func125,ntmps125;go_wp2_with fail;refine HC.out.mono ?_
 rintro e w1 ⟨u,rfl,ho,aL⟩;obtain ⟨g,c,hu,fG,yZ⟩:=rI ho (by rw [← HM.out];omega)
 subst hu;have jE:w1.ownsRow w.heap.size 97 1 (.slice (some ⟨g,0,none⟩) n.us.length c) n.us.length (C.a8 n.us):=ho;obtain ⟨o1,z1⟩ : ∃ y,w1.cell? ⟨g,i,none⟩=some y:=⟨_,(World.ownsRow.cellAt jE i (by rw [← HM.out];omega)).trans (C.fw n.us i (by rw [← HM.out];exact hi))⟩
 have z2:w1.frozen? ⟨g,i,none⟩=false:=World.ownsRow.frozenAt jE _;have fj:=(World.ownsRow.stored jE i (.iface t x)).1;have yW:(C.a8 n.us).set i (.iface t x)=C.a8 (n.us.set i p):=by
  unfold C.a8;rw [HP.out,List.map_set]
 rw [yW] at fj;have MG:=aL.setCell (p:=⟨g,i,none⟩) fG (.iface t x);have dE:¬ b=g:=by omega
 have q1:w1.cell? ⟨b,1,none⟩=some (.int .i64 n.f):=(HH.out.below aL).c1;have q2:w1.cell? ⟨b,2,none⟩=some lv:=(HH.out.below aL).c2;have Rq:=HH.out.below MG;have q:=ai (w1.setCell ⟨g,i,none⟩ (.iface t x)) (.cells #[.slice none 0 0,.int .i64 n.f,lv,.slice (some ⟨g,0,none⟩) n.us.length c] 155);have xr:=B.au.new (w1.setCell ⟨g,i,none⟩ (.iface t x)) #[.slice none 0 0,.int .i64 n.f,lv,.slice (some ⟨g,0,none⟩) n.us.length c] 155;have b8:Hid (dH ((w1.setCell ⟨g,i,none⟩ (.iface t x)).alloc (.cells #[.slice none 0 0,.int .i64 n.f,lv,.slice (some ⟨g,0,none⟩) n.us.length c] 155)) (w1.setCell ⟨g,i,none⟩ (.iface t x)).heap.size ⟨[],n.f,n.lk,n.us.set i p⟩ (.slice none 0 0) lv (.slice (some ⟨g,0,none⟩) n.us.length c)):=by
  refine ⟨xr,gG.nil _,Rq.a8.below q,?_,?_⟩
  ·have:C.b6 (w1.setCell ⟨g,i,none⟩ (.iface t x)) w.heap.size (.slice (some ⟨g,0,none⟩) n.us.length c) (n.us.set i p):=by
    unfold C.b6;rw [cx];exact fj
   exact (this.below q).at
  ·have hf:=HH.out.fine;exact ⟨(fun p hp=>by simp at hp),by simp,hf.2.2.1,hf.2.2.2.1,by rw [cx];exact hf.2.2.2.2⟩
 have mJ:=ab (MG.alloc (B:=w.heap.size) (by have:=MG.size;exact this) (.cells #[.slice none 0 0,.int .i64 n.f,lv,.slice (some ⟨g,0,none⟩) n.us.length c] 155))
 obtain ⟨la,lc,pD⟩:=Rq.a8.form;rw [← HM.out] at b8 mJ ⊢;have YE:(w1.setCell ⟨g,i,none⟩ (.iface t x)).heap.size=w1.heap.size:=by simp
 rw [YE] at b8;have hiI:(i:Int)<(m:Int):=by omega
 have yy:(0:Int)≤(i:Int):=by omega
 clear HC p3 ho jE fj yW MG Rq q xr pD YE;go_wp2;go_ret;exact ⟨_,_,_,_,rfl,b8.out,mJ.out⟩
end T
namespace B
open Go.RowKit Go.Lib
theorem xg(l:List Lk)(i:Nat):a8 (l.take i)=(a8 l).take (i*2):=by
 induction l generalizing i with
 | nil=>simp [a8]
 | cons p l ih =>
  cases i with
  | zero=>simp [a8]
  | succ i=>rw [List.take_succ_cons,eu,eu,ih,show (i+1)*2=i*2+1+1 by omega,List.take_succ_cons,List.take_succ_cons]
theorem Ox(l:List Lk)(i:Nat):a8 (l.drop i)=(a8 l).drop (i*2):=by
 induction l generalizing i with
 | nil=>simp [a8]
 | cons p l ih =>
  cases i with
  | zero=>simp
  | succ i=>rw [List.drop_succ_cons,eu,ih,show (i+1)*2=i*2+1+1 by omega,List.drop_succ_cons,List.drop_succ_cons]
theorem dY{P:Program}(w:World)(dT sT ty elem:TypeId)(g o Hb Wt:Nat)(a:Addr)(FQ Vo:Nat)(cur:Array Value)(t:TypeId)(cs:List Value)(hu:P.underlying dT=some (.slice elem))(hs:(P.info? elem).map (·.size)=some 2)(hg:w.heap[g]?=some (.cells cur t (0,0)))(hn:cs.length=Nat.min FQ Hb*2)(GJ:∀ j v,cs[j]?=some v→w.cell? (a.add j)=some v)(eC:o+cs.length≤cur.size)(h1:∀ v ∈ cs,v.oneCell'=true):(Builtin.copy_ #[dT,sT] ty #[.slice (some ⟨g,o,none⟩) Hb Wt,.slice (some a) FQ Vo]).run P w = .ok (goInt (Nat.min FQ Hb)) (w.setRow g (cur.toList.take o++cs++cur.toList.drop (o+cs.length)).toArray):=by
 have hl:=run_loadCells_list (P:=P) w a cs GJ;have fj:=run_storeCells_at P g o t cs 0 cur w hg (by simpa using eC) h1
 cases hq:P.info? elem with
 | none=>simp [hq] at hs
 | some i =>
  have hi:i.size=2:=by simpa [hq] using hs
  simp [Builtin.copy_,run_underlying hu,Builtin.lenOf,Builtin.firstCells,sizeOf,typeInfo,hq,hi,← hn,hl,fj]
theorem kS{P:Program}(w:World)(t e ty:TypeId)(x y:Value)(ht:P.underlying t=some (.slice e))(hv:∀ w,(zeroValue e).run P w = .ok (.agg #[x,y]) w)(hx:x.oneCell'=true)(hy:y.oneCell'=true)(g o c:Nat)(cur:Array Value)(tt:TypeId)(hg:w.heap[g]?=some (.cells cur tt (0,0)))(eC:o+2≤cur.size):(Builtin.clear_ #[t] ty #[.slice (some ⟨g,o,none⟩) 1 c]).run P w = .ok (.tuple #[]) (w.setRow g (cur.toList.take o++[x,y]++cur.toList.drop (o+2)).toArray):=by
 have Xh:(Builtin.zeroCells (Value.agg #[x,y]).cells 1).toList=[x,y]:=by
  have:(Value.agg #[x,y]).cells=#[x,y]:=rfl;rw [this];simp [Builtin.zeroCells,Array.range]
 have fj:=run_storeCells_at P g o tt [x,y] 0 cur w hg (by simpa using eC) (by intro v SG;simp at SG;rcases SG with rfl | rfl <;> assumption)
 simp [Builtin.clear_,run_underlying ht,hv,Xh,fj]
theorem xm(base:Nat)(v:Value)(l:List Lk)(vb:Nat)(p:Lk)(w:World)(hm:l.length≤5864062014800)(ho:b6 w base v l)(du:base≤w.heap.size)(hv:di w (.slice (some ⟨vb,0,none⟩) 1 1) [p]):Calls prog 231 #[v,.int .i64 (l.length:Int),.slice (some ⟨vb,0,none⟩) 1 1] w fun e w'=>∃ u,e = .returned u∧b6 w' base u (l++[p])∧Below base w w':=by
 obtain ⟨a',c',w1,bn,aE,hg⟩:=fi base v _ l [p] w ho hv (by simp;omega) du
 have aL:Below base w w1:=(Below.refl base w).grown hg du (fun k hk=>(ho.dr k hk).1)
 have HO:=ab aE;have HB:=ab aL;have dd:∃ a c,v = .slice a l.length c∧l.length≤c:=by
  obtain ⟨a,c,rfl,hle,_⟩:=ho.at;exact ⟨a,c,rfl,hle⟩
 obtain ⟨a,c,rfl,hle⟩:=dd;rw [show ([p] : List Lk).length=1 from rfl] at bn
 obtain ⟨n,hn⟩ : ∃ n,n=l.length:=⟨_,rfl⟩;rw [← hn] at bn hle hm ⊢;have HN:=ab hn;clear aE hg aL ho hv hn;by_cases uU:c=n
 ·go_enter func231,ntmps231;go_wp2_with (first | (at_builtin;refine wpList_append_run 148 rfl (.tmp 23) (.tmp 24) rfl rfl _ _ rfl rfl _ _ bn ?_))
  clear bn;go_ret;exact ⟨_,rfl,by have:=HO.out;rwa [show l.length + [p].length=n+1 by rw [HN.out];rfl] at this,HB.out⟩
 ·go_enter func231,ntmps231;go_wp2_with (first | (at_builtin;refine wpList_append_run 148 rfl (.tmp 23) (.tmp 24) rfl rfl _ _ rfl rfl _ _ bn ?_))
  clear bn;go_ret;exact ⟨_,rfl,by have:=HO.out;rwa [show l.length + [p].length=n+1 by rw [HN.out];rfl] at this,HB.out⟩
theorem gT{w:World}{g:Nat}{cur:Array Value}{t:TypeId}{l:List Lk}(hg:w.heap[g]?=some (.cells cur t (0,0)))(ht:cur.toList.take (l.length*2)=a8 l)(i:Nat):∀ j u,(a8 (l.drop i))[j]?=some u→w.cell? ⟨g,i*2+j,none⟩=some u:=by
 intro j u h;rw [Ox,← ht,dk,cH] at h;split at h
 ·rw [Array.getElem?_toList] at h;simp [World.cell?,hg,h]
 ·cases h
theorem N4(w:World)(g vb i n1 c1:Nat)(cur vs:Array Value)(tA tB:TypeId)(dE:vb≠g)(hg:w.heap[g]?=some (.cells cur tA (0,0)))(hv:w.heap[vb]?=some (.cells vs tB (0,0)))(h0:cur.size≠0):(callFunc 251 #[.slice (some ⟨vb,0,none⟩) 1 1,.slice (some ⟨g,i,none⟩) n1 c1]).run prog w = .ok (.value (.bool false)) w:=by
 rw [run_callFunc_extern func251 (by kernel_rfl) (by kernel_rfl) (by kernel_rfl) (e:=Extern.SlicesOverlaps.overlaps #[148,148] #[4]) (by kernel_rfl),
  Lib.run_overlaps_apart w 148 4 179 underlying148 2 sizeOf179 ⟨vb,0,none⟩ ⟨g,i,none⟩ 1 1 n1 c1 dE tB tA vs.size cur.size (by simp [World.shape?,hv]) (by simp [World.shape?,hg]) h0 (by simp [World.frozen?,hv]) (by simp [World.frozen?,hv])]
 rfl
theorem sQ(g c:Nat)(l:List Lk)(i vb:Nat)(p:Lk)(w:World)(cur:Array Value)(hi:i<l.length)(adm:c≤9223372036854775807)(dW:l.length+1≤c)(hg:w.heap[g]?=some (.cells cur 179 (0,0)))(b7:cur.size=c*2)(ht:cur.toList.take (l.length*2)=a8 l)(hv:w.heap[vb]?=some (.cells #[.string p.1,.int .i64 p.2] 179 (0,0)))(dE:vb≠g):Calls prog 231 #[.slice (some ⟨g,0,none⟩) l.length c,.int .i64 (i:Int),.slice (some ⟨vb,0,none⟩) 1 1] w fun e w'=>e = .returned (.slice (some ⟨g,0,none⟩) (l.length+1) c)∧∃ fL:Array Value,w'=w.drew.setRow g fL∧fL.size=c*2∧fL.toList.take ((l.length+1)*2)=a8 (dF l i p):=by
 obtain ⟨n,hn⟩ : ∃ n,n=l.length:=⟨_,rfl⟩;have hov:=fun j n1 c1=>N4 w g vb j n1 c1 cur _ _ _ dE hg hv (by omega)
 have jm:(prog.info? 179).map (·.size)=some 2:=by kernel_rfl
 have jw:(a8 (l.drop i)).length=(n - i)*2:=by rw [aS,ao,hn]
 obtain ⟨C1,qv⟩ : ∃ C:Array Value,C=(cur.toList.take ((i+1)*2)++a8 (l.drop i)++cur.toList.drop ((i+1)*2+(a8 (l.drop i)).length)).toArray:=⟨_,rfl⟩;have mG:C1.size=c*2:=by rw [qv];simp [jw,b7];omega
 obtain ⟨C2,rJ⟩ : ∃ C:Array Value,C=(C1.toList.take (i*2)++a8 [p]++C1.toList.drop (i*2+(a8 [p]).length)).toArray:=⟨_,rfl⟩;have o7:C2.size=c*2:=by rw [rJ];simp [a8,mG];omega
 have gY:C2.toList.take ((n+1)*2)=a8 (dF l i p):=by
  have e1:cur.toList.take (i*2)=a8 (l.take i):=by
   rw [xg,← ht,gQ,a7 (by omega)]
  have l1:(a8 (l.take i)).length=i*2:=by rw [aS,ag];omega
  have e2:C1.toList.take (i*2)=a8 (l.take i):=by
   rw [qv,List.toList_toArray,ax,aF (by simp [b7];omega),gQ,a7 (by omega),e1]
  have e3:C1.toList.drop (i*2+(a8 [p]).length)=a8 (l.drop i)++cur.toList.drop ((i+1)*2+(a8 (l.drop i)).length):=by
   rw [qv,List.toList_toArray,ax,ic (by simp [b7,a8];omega),dy (by simp [b7,a8];omega)]
   rfl
  rw [rJ,List.toList_toArray,e2,e3,dF,cZ,show p::l.drop i=[p]++l.drop i from rfl,cZ,← ax,← ax,aF (by simp only [ae,jw,l1,aS,aP];omega),al (by simp only [ae,jw,l1,aS,aP];omega)]
 have We:∀ ty dc sc,(Builtin.copy_ #[148,148] ty #[.slice (some ⟨g,(i+1)*2,none⟩) (n - i) dc,.slice (some ⟨g,i*2,none⟩) (n+1 - i) sc]).run prog w.drew = .ok (goInt (Nat.min (n+1 - i) (n - i))) (w.drew.setRow g C1):=fun ty dc sc=>by
  rw [qv];exact dY w.drew 148 148 ty 179 g ((i+1)*2) (n - i) dc ⟨g,i*2,none⟩ (n+1 - i) sc cur 179 (a8 (l.drop i)) underlying148 jm hg (by rw [jw];simp only [kA];split <;> omega) (fun j u hj=>by rw [bz];exact gT hg ht i j u hj) (by rw [jw,b7];omega) (fU _)
 have fG:(w.drew.setRow g C1).heap[g]?=some (.cells C1 179 (0,0)):=setRow_heap w.drew g cur C1 179 (0,0) hg;have fI:(w.drew.setRow g C1).heap[vb]?=some (.cells #[.string p.1,.int .i64 p.2] 179 (0,0)):=(setRow_other w.drew g vb C1 dE).trans hv;have Wd:∀ ty dc,(Builtin.copy_ #[148,148] ty #[.slice (some ⟨g,i*2,none⟩) (n+1 - i) dc,.slice (some ⟨vb,0,none⟩) 1 1]).run prog (w.drew.setRow g C1) = .ok (goInt (Nat.min 1 (n+1 - i))) (w.drew.setRow g C2):=fun ty dc=>by
  have h:=dY (w.drew.setRow g C1) 148 148 ty 179 g (i*2) (n+1 - i) dc ⟨vb,0,none⟩ 1 1 C1 179 (a8 [p]) underlying148 jm fG (by simp only [aS,aP,kA];split <;> omega) (fun j u hj=>by
   rw [bz];have lL:(#[.string p.1,.int .i64 p.2] : Array Value)[j]?=some u:=by simpa [a8] using hj
   simp [World.cell?,fI,lL]) (by simp [a8,mG];omega) (fU _)
  rw [h,rJ,setRow_setRow]
 have HF:=ab gY;have HZ:=ab o7;have mixed:prog.follows Departure.mixedOrders=true:=by kernel_rfl
 have mG:¬ ((i:Int)=(n:Int)):=by omega
 have vw:IntKind.i64.wrap ((i:Int)+1)=(i:Int)+1:=by rw [IntKind.wrap_i64];omega
 have Q6:IntKind.i64.wrap ((n:Int)+1)=(n:Int)+1:=by rw [IntKind.wrap_i64];omega
 have Xn:((i:Int)+1).toNat=i+1:=by omega
 have acB:((n:Int)+1).toNat=n+1:=by omega
 have aL:(0:Int)≤(i:Int)+1:=by omega
 have aU:¬ (c=i+1):=by omega
 have gj:¬ (c=i):=by omega
 have Rn:(i:Int)≤(n:Int):=by omega
 have bT:(i:Int)≤(n:Int)+1:=by omega
 have V5:i≤n:=by omega
 have ac6:i+1≤n+1:=by omega
 rw [← hn] at dW ⊢;clear qv rJ gY o7 jw fG fI ht b7 hg hv hn hi;go_enter func231,ntmps231;go_wp2_with (simp only [hov])
 go_region_law_o (refine step_copy_runI rfl _ _ 148 148 rfl _ _ (by simp [Act.eval,Act.put]) (by simp [Act.eval,Act.put]) (We _ _ _) ?_)
 go_wp2_with (at_builtin;refine wpList_copy_runI _ rfl _ _ 148 148 rfl _ _ rfl rfl (Wd _ _) ?_)
 go_ret;exact ⟨rfl,C2,rfl,HZ.out,HF.out⟩
theorem vK(x y:Value)(k:Nat):(Builtin.zeroCells (Value.agg #[x,y]).cells k).size=k*2:=by
 have:(Value.agg #[x,y]).cells=#[x,y]:=rfl;simp [Builtin.zeroCells,this]
theorem sR(g c:Nat)(l:List Lk)(i vb:Nat)(p:Lk)(w:World)(cur:Array Value)(hi:i<l.length)(hm:l.length≤5864062014800)(B6:l.length≤c)(dW:c<l.length+1)(hg:w.heap[g]?=some (.cells cur 179 (0,0)))(ht:cur.toList.take (l.length*2)=a8 l)(hv:w.heap[vb]?=some (.cells #[.string p.1,.int .i64 p.2] 179 (0,0))):Calls prog 231 #[.slice (some ⟨g,0,none⟩) l.length c,.int .i64 (i:Int),.slice (some ⟨vb,0,none⟩) 1 1] w fun e w'=>∃ G:Nat,e = .returned (.slice (some ⟨w.heap.size,0,none⟩) (l.length+1) G)∧l.length+1≤G∧G≤maxLen∧∃ fL:Array Value,w'.heap[w.heap.size]?=some (.cells fL 179 (0,0))∧Below w.heap.size w w'∧fL.size=G*2∧fL.toList.take ((l.length+1)*2)=a8 (dF l i p):=by
 obtain ⟨n,hn⟩ : ∃ n,n=l.length:=⟨_,rfl⟩;obtain ⟨i0,yy,nK,GA,OU⟩:=info_parts lB;have jm:(prog.info? 179).map (·.size)=some 2:=by rw [yy];simp [GA]
 have Pm:g<w.heap.size:=(Array.getElem?_eq_some_iff.1 hg).1;have Yw:vb<w.heap.size:=(Array.getElem?_eq_some_iff.1 hv).1;have jw:(a8 (l.drop i)).length=(n - i)*2:=by rw [aS,ao,hn]
 have l1:(a8 (l.take i)).length=i*2:=by rw [aS,ag];omega
 have Ri:(n:Int)+1 - (i:Int)=((n+1 - i:Nat):Int):=by omega
 have Fk:i+(n+1 - i)=n+1:=by omega
 have hold:(Builtin.firstCells i0.size i (.slice (some ⟨g,0,none⟩) i c)).run prog w.drew = .ok (a8 (l.take i)).toArray w.drew:=by
  rw [GA];refine run_firstCells_some w.drew 2 i ⟨g,0,none⟩ i c (a8 (l.take i)) l1 (fun j v hj=>?_)
  rw [bz,Nat.zero_add];rw [xg,cH] at hj;split at hj
  ·have:=gT hg ht 0 j v (by simpa using hj)
   simpa using this
  ·cases hj
 obtain ⟨G,hG⟩ : ∃ G,G=grownCap w (n+1) c 179:=⟨_,rfl⟩;obtain ⟨R,hR⟩ : ∃ R:Array Value,R=(a8 (l.take i)).toArray++Builtin.zeroCells (Value.agg #[.string ByteArray.empty,.int .i64 0]).cells (n+1 - i)++Builtin.zeroCells (Value.agg #[.string ByteArray.empty,.int .i64 0]).cells (G - (n+1)):=⟨_,rfl⟩;have VR:∀ ty,(Builtin.append_ #[148,3] ty #[.slice (some ⟨g,0,none⟩) i c,.int .i64 ((n:Int)+1 - (i:Int))]).run prog w =
   .ok (.slice (some ⟨w.heap.size,0,none⟩) (n+1) G) (w.drew.alloc (.cells R 179)):=fun ty=>by
  have h:=Lib.run_append_grow_zeros w 148 3 ty 179 i0 _ .i64 .i64 underlying148 underlying3 yy nK (some ⟨g,0,none⟩) i c (a8 (l.take i)) hold (n+1 - i) (by omega) (by omega) (by omega) (by omega) (by rw [OU];omega) (by rw [OU,Fk];exact growslice_fits (by omega) (by omega))
  rw [Fk] at h;rw [Ri,hR,hG];exact h
 have hGn:n+1≤G:=by rw [hG];exact grownCap_ge w _ _ _
 have Wn:G≤maxLen:=by rw [hG];exact grownCap_le_maxLen w (n+1) c 179 (by unfold maxLen;omega)
 have Wl:R.size=G*2:=by
  rw [hR,ej,ej,vK,vK];simp [l1];omega
 obtain ⟨W1,gF⟩ : ∃ W1,W1=w.drew.alloc (.cells R 179):=⟨_,rfl⟩;have Jd:W1.heap[w.heap.size]?=some (.cells R 179 (0,0)):=by rw [gF];exact heap_alloc_new w.drew _
 have Fo:Below w.heap.size w W1:=by rw [gF];exact (aO (Below.refl _ _)).alloc (aj _) _
 have fG:W1.heap[g]?=some (.cells cur 179 (0,0)):=(Fo.block g Pm).trans hg;have fI:W1.heap[vb]?=some (.cells #[.string p.1,.int .i64 p.2] 179 (0,0)):=(Fo.block vb Yw).trans hv;rw [← gF] at VR;obtain ⟨C1,qv⟩ : ∃ C:Array Value,C=(R.toList.take (i*2)++a8 [p]++R.toList.drop (i*2+(a8 [p]).length)).toArray:=⟨_,rfl⟩;have mG:C1.size=G*2:=by rw [qv];simp [a8,Wl];omega
 obtain ⟨C2,rJ⟩ : ∃ C:Array Value,C=(C1.toList.take ((i+1)*2)++a8 (l.drop i)++C1.toList.drop ((i+1)*2+(a8 (l.drop i)).length)).toArray:=⟨_,rfl⟩;have o7:C2.size=G*2:=by rw [rJ];simp [jw,mG];omega
 have gY:C2.toList.take ((n+1)*2)=a8 (dF l i p):=by
  have e0:R.toList.take (i*2)=a8 (l.take i):=by
   rw [hR,bW,bW,List.toList_toArray,ax,aF (by omega),al (by omega)]
  have e1:C1.toList.take ((i+1)*2)=a8 (l.take i)++a8 [p]:=by
   rw [qv,List.toList_toArray,e0,aF (by simp only [ae,l1,aS,aP];omega),al (by simp only [ae,l1,aS,aP];omega)]
  rw [rJ,List.toList_toArray,e1,dF,cZ,show p::l.drop i=[p]++l.drop i from rfl,cZ,← ax,aF (by simp only [ae,jw,l1,aS,aP];omega),al (by simp only [ae,jw,l1,aS,aP];omega)]
 have VZ:vb≠w.heap.size:=by omega
 have Bq:g≠w.heap.size:=by omega
 have Py:∀ ty dc,(Builtin.copy_ #[148,148] ty #[.slice (some ⟨w.heap.size,i*2,none⟩) (n+1 - i) dc,.slice (some ⟨vb,0,none⟩) 1 1]).run prog W1 = .ok (goInt (Nat.min 1 (n+1 - i))) (W1.setRow w.heap.size C1):=fun ty dc=>by
  rw [qv];exact dY W1 148 148 ty 179 w.heap.size (i*2) (n+1 - i) dc ⟨vb,0,none⟩ 1 1 R 179 (a8 [p]) underlying148 jm Jd (by simp only [aS,aP,kA];split <;> omega) (fun j u hj=>by
   rw [bz];have lL:(#[.string p.1,.int .i64 p.2] : Array Value)[j]?=some u:=by simpa [a8] using hj
   simp [World.cell?,fI,lL]) (by simp [a8,Wl];omega) (fU _)
 have Jc:(W1.setRow w.heap.size C1).drew.heap[w.heap.size]?=some (.cells C1 179 (0,0)):=setRow_heap W1 w.heap.size R C1 179 (0,0) Jd;have yZ:(W1.setRow w.heap.size C1).drew.heap[g]?=some (.cells cur 179 (0,0)):=(setRow_other W1 w.heap.size g C1 Bq).trans fG;have Px:∀ ty dc sc,(Builtin.copy_ #[148,148] ty #[.slice (some ⟨w.heap.size,(i+1)*2,none⟩) (n - i) dc,.slice (some ⟨g,i*2,none⟩) (n - i) sc]).run prog (W1.setRow w.heap.size C1).drew = .ok (goInt (Nat.min (n - i) (n - i))) ((W1.setRow w.heap.size C1).drew.setRow w.heap.size C2):=fun ty dc sc=>by
  rw [rJ];exact dY (W1.setRow w.heap.size C1).drew 148 148 ty 179 w.heap.size ((i+1)*2) (n - i) dc ⟨g,i*2,none⟩ (n - i) sc C1 179 (a8 (l.drop i)) underlying148 jm Jc (by rw [jw];simp only [kA];split <;> omega) (fun j u hj=>by rw [bz];exact gT yZ ht i j u hj) (by rw [jw,mG];omega) (fU _)
 have PI:((W1.setRow w.heap.size C1).drew.setRow w.heap.size C2).heap[w.heap.size]?=some (.cells C2 179 (0,0)):=setRow_heap (W1.setRow w.heap.size C1).drew w.heap.size C1 C2 179 (0,0) Jc;have Wo:Below w.heap.size w ((W1.setRow w.heap.size C1).drew.setRow w.heap.size C2):=below_setRow (aO (below_setRow Fo (aj _) C1)) (aj _) C2;obtain ⟨s,hs⟩ : ∃ s,s=w.heap.size:=⟨_,rfl⟩;rw [← hs] at VR Py Px PI Wo ⊢;have HF:=ab gY;have HZ:=ab o7;have HN3:=ab PI;have eG:=ab Wo;have HG:=ab Wn;have mixed:prog.follows Departure.mixedOrders=true:=by kernel_rfl
 have adG:G≤9223372036854775807:=by unfold maxLen at Wn;omega
 have O5:¬ ((i:Int)=(n:Int)):=by omega
 have vw:IntKind.i64.wrap ((i:Int)+1)=(i:Int)+1:=by rw [IntKind.wrap_i64];omega
 have Q6:IntKind.i64.wrap ((n:Int)+1)=(n:Int)+1:=by rw [IntKind.wrap_i64];omega
 have MC:IntKind.i64.wrap ((n:Int)+1 - (i:Int))=(n:Int)+1 - (i:Int):=by rw [IntKind.wrap_i64];omega
 have Xn:((i:Int)+1).toNat=i+1:=by omega
 have aL:(0:Int)≤(i:Int)+1:=by omega
 have bT:(i:Int)≤(n:Int)+1:=by omega
 have aU:¬ (G=i+1):=by omega
 have mj:¬ (G=i):=by omega
 have gj:¬ (c=i):=by omega
 have Rn:(i:Int)≤(n:Int):=by omega
 have V5:i≤n:=by omega
 have hic:(i:Int)≤(c:Int):=by omega
 have hcr:(c:Int)<(n:Int)+1:=by omega
 rw [← hn] at dW ⊢;clear qv rJ gY o7 mG jw fG fI yZ Jd Jc PI Fo Wo ht hg hv hi l1 Ri Fk hold Wl hR hG Pm Yw yy nK GA OU jm hn Wn VZ Bq gF hs;go_enter func231,ntmps231;go_wp2_with (first
  | (at_builtin;refine Lib.wpList_append_run _ rfl _ _ _ _ rfl _ _ rfl rfl _ _ (VR _) ?_)
  | (at_builtin;refine wpList_copy_runI _ rfl _ _ 148 148 rfl _ _ rfl rfl (Py _ _) ?_))
 go_region_law_o (refine step_copy_runI rfl _ _ 148 148 rfl _ _ (by simp [Act.eval,Act.put]) (by simp [Act.eval,Act.put]) (Px _ _ _) ?_)
 go_wp2;go_ret;exact ⟨G,rfl,hGn,HG.out,C2,HN3.out,eG.out,HZ.out,HF.out⟩
theorem b6.row{w:World}{base g c:Nat}{l:List Lk}{cur:Array Value}(hb:base≤g)(hg:w.heap[g]?=some (.cells cur 179 (0,0)))(B6:l.length≤c)(hc:c≤maxLen)(hs:cur.size=c*2)(ht:cur.toList.take (l.length*2)=a8 l):b6 w base (.slice (some ⟨g,0,none⟩) l.length c) l :=
 ⟨aS l,.inr ⟨g,c,cur,rfl,hb,hg,B6,hc,hs,ht⟩⟩
theorem eY(l:List Lk)(i:Nat)(p:Lk)(h:i≤l.length):(dF l i p).length=l.length+1:=by
 unfold dF;rw [ae,List.length_cons,ag,ao];omega
theorem xy(l:List Lk)(p:Lk):dF l l.length p=l++[p]:=by simp [dF]
theorem ot(base:Nat)(v:Value)(l:List Lk)(i vb:Nat)(p:Lk)(w:World)(hm:l.length≤5864062014800)(hi:i≤l.length)(ho:b6 w base v l)(du:base≤w.heap.size)(hv:au w vb #[.string p.1,.int .i64 p.2] 179)(dE:v.ownBlock≠some vb):Calls prog 231 #[v,.int .i64 (i:Int),.slice (some ⟨vb,0,none⟩) 1 1] w fun e w'=>∃ u,e = .returned u∧b6 w' base u (dF l i p)∧Below base w w':=by
 by_cases Rn:i=l.length
 ·subst Rn;rw [xy];refine xm base v l vb p w hm ho du ⟨_,_,rfl,aj _,fun h=>(by cases h),fun j hj=>⟨_,_,rfl,?_,?_⟩⟩
  ·have:j=0:=by simpa using hj
   subst this;exact hv.c0
  ·have:j=0:=by simpa using hj
   subst this;exact hv.c1
 ·have bN:i<l.length:=by omega
  rcases ho.2 with ⟨_,h0⟩ | ⟨g,c,cur,rfl,hb,hg,B4,sf,fH,mH⟩
  ·omega
  ·by_cases hr:l.length+1≤c
   ·refine (sQ g c l i vb p w cur bN (by unfold maxLen at sf;omega) hr hg fH mH hv (fun h=>dE (by rw [h];rfl))).mono ?_
    rintro e w' ⟨rfl,fL,rfl,h2,h3⟩;refine ⟨_,rfl,?_,below_setRow (aO (Below.refl _ _)) hb fL⟩;have:=b6.row (l:=dF l i p) hb (setRow_heap w.drew g cur fL 179 (0,0) hg) (by rw [eY l i p hi];exact hr) sf h2 (by rw [eY l i p hi];exact h3)
    rwa [eY l i p hi] at this
   ·refine (sR g c l i vb p w cur bN hm B4 (by omega) hg mH hv).mono ?_
    rintro e w' ⟨G,rfl,h1,h2,fL,h3,h4,h5,h6⟩;refine ⟨_,rfl,?_,h4.mono du⟩;have:=b6.row (l:=dF l i p) du h3 (by rw [eY l i p hi];exact h1) h2 h5 (by rw [eY l i p hi];exact h6)
    rwa [eY l i p hi] at this
end B
end Go.Proofs.YtihmgigfkmofnaaGreatDoor
