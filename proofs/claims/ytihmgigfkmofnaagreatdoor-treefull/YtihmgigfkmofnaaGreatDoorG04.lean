import Derived.Test.YtihmgigfkmofnaaGreatDoorG03
import Derived.Lib.SlicesDelete
set_option maxHeartbeats 4000000
set_option maxRecDepth 1000000
open Go.Proofs.Tryz
namespace Go.Proofs.YtihmgigfkmofnaaGreatDoor
namespace C
open Go.RowKit Go.Lib
theorem je(g:Nat)(t:TypeId):∀ (vs:List Value) (o:Nat) (cur:Array Value) (w:World),w.heap[g]?=some (.cells cur t (0,0))→o+vs.length≤cur.size →
  w.setCells g o vs=w.setRow g (cur.toList.take o++vs++cur.toList.drop (o+vs.length)).toArray
 | [],o,cur,w,hg,_=>by
  simp only [World.setCells,List.append_nil,List.length_nil,Nat.add_zero,aH,Array.toArray_toList];rw [setRow_self w g cur t (0,0) hg]
 | v::r,o,cur,w,hg,hl=>by
  have ho:o<cur.size:=by simp at hl;omega
  rw [World.setCells,setCell_eq_setRow w g o cur t (0,0) v hg,je g t r (o+1) (cur.setIfInBounds o v) _ (setRow_heap w g cur _ t _ hg) (by simp at hl ⊢;omega),setRow_setRow]
  congr 1
  have e:=list_seg_step cur.toList o v r (by simp at hl ⊢;omega)
  simpa [Array.toList_setIfInBounds,Nat.add_assoc] using e
theorem xV(g c:Nat)(l:List Lk)(i m:Nat)(w:World)(cur:Array Value)(hl:l.length=m+1)(hi:i≤m)(Cq:l.length≤c)(hg:w.heap[g]?=some (.cells cur 97 (0,0)))(b8:cur.size=c)(ht:cur.toList.take (l.length)=bh l):Calls prog 168 #[.slice (some ⟨g,0,none⟩) (m+1) c,.int .i64 (i:Int),.int .i64 ((i:Int)+1)] w fun e w'=>e = .returned (.slice (some ⟨g,0,none⟩) m c)∧∃ fJ:Array Value,w'=w.drew.setRow g fJ∧fJ.size=c∧fJ.toList.take (m)=bh (cA l i):=by
 obtain ⟨i0,yW,mV,GV,Pu⟩:=info_parts lO;have jB:(bh (l.drop (i+1))).length=(m - i):=by rw [et,ao,hl];omega
 have l1:(bh (l.take i)).length=i:=by rw [et,ag];omega
 obtain ⟨A,hA,G2⟩ : ∃ A:Addr,(if c=i+1 then some (⟨g,0,none⟩ : Addr) else some ⟨g,(i+1),none⟩)=some A∧Hid (∀ t u,(bh (l.drop (i+1)))[t]?=some u→w.drew.cell? (A.add t)=some u):=by
  by_cases h:c=i+1
  ·refine ⟨⟨g,0,none⟩,by simp [h],fun t u hu=>?_⟩
   have h0:(bh (l.drop (i+1))).length=0:=by rw [jB];omega
   rw [List.length_eq_zero_iff.1 h0] at hu;simp at hu
  ·refine ⟨⟨g,(i+1),none⟩,by simp [h],fun t u hu=>?_⟩
   rw [bt];exact gZ hg ht (i+1) t u hu
 obtain ⟨C1,qF⟩ : ∃ C:Array Value,C=(cur.toList.take (i)++bh (l.drop (i+1))++cur.toList.drop (i+(bh (l.drop (i+1))).length)).toArray:=⟨_,rfl⟩;have mU:C1.size=c:=by rw [qF];simp [jB,b8];omega
 have gL:w.drew.setCells g (0+i) (bh (l.drop (i+1)))=w.drew.setRow g C1:=by
  rw [Nat.zero_add,qF];exact je g 97 _ _ cur w.drew hg (by rw [jB,b8];omega)
 have fO:(w.drew.setRow g C1).heap[g]?=some (.cells C1 97 (0,0)):=setRow_heap w.drew g cur C1 97 (0,0) hg;obtain ⟨C2,rT⟩ : ∃ C:Array Value,C=(C1.toList.take (m)++[Value.nilIface]++C1.toList.drop (m+1)).toArray:=⟨_,rfl⟩;have py:C2.size=c:=by rw [rT];simp [mU];omega
 have pP:∀ ty cc,(Builtin.clear_ #[153] ty #[.slice (some ⟨g,m,none⟩) 1 cc]).run prog (w.drew.setRow g C1) = .ok (.tuple #[]) (w.drew.setRow g C2):=fun ty cc=>by
  rw [kZ (w.drew.setRow g C1) 153 97 ty _ underlying153 zeroValue97 rfl rfl g (m) cc C1 97 fO (by omega),rT,setRow_setRow]
 have ic:C2.toList.take (m)=bh (cA l i):=by
  have e1:cur.toList.take (i)=bh (l.take i):=by
   rw [BG,← ht,fM,a6 (by omega)]
  rw [rT,List.toList_toArray,ay,aG (by simp [mU];omega),fM,lB,qF,List.toList_toArray,e1,cA,cZ,aG (by simp only [ae,jB,l1];omega),al (by simp only [ae,jB,l1];omega)]
 have s1:Hid ((bh (l.drop (i+1))).length=(m - i)*1):=by show _=_;rw [Nat.mul_one];exact jB
 have s2:Hid (∀ u ∈ bh (l.drop (i+1)),u.oneCell'=true):=gh _;have s3:Hid (∀ t,t<(bh (l.drop (i+1))).length→(w.drew.cell? ⟨g,0+i*1+t,none⟩).isSome=true∧w.drew.frozen? ⟨g,0+i*1+t,none⟩=false):=by
  intro t zu;rw [jB] at zu;refine ⟨?_,by show World.frozen? w _=false;simp [World.frozen?,hg]⟩
  show (World.cell? w _).isSome=true
  simp only [World.cell?,hg];rw [Array.getElem?_eq_getElem (by omega)]
  rfl
 have HW:Hid (w.drew.setCells g (0+i*1) (bh (l.drop (i+1)))=w.drew.setRow g C1):=by show _=_;rw [Nat.mul_one];exact gL
 have HF:=ab ic;have HZ:=ab py;have mixed:prog.follows Departure.mixedOrders=true:=by kernel_rfl
 have hq:¬ ((i:Int)=(i:Int)+1):=by omega
 have RF:(0:Int)≤(i:Int)+1:=by omega
 have PF:(i:Int)≤(i:Int)+1:=by omega
 have X0:(i:Int)+1≤(m:Int)+1:=by omega
 have hq3:(m:Int)+1≤(c:Int):=by omega
 have XX:((i:Int)+1).toNat=i+1:=by omega
 have hic:i≤c:=by omega
 have adF:(i:Int)≤(c:Int):=by omega
 have him:(i:Int)≤(m:Int):=by omega
 have Lg:i+(m - i)=m:=by omega
 have hmc:¬ c=m:=by omega
 rw [hl] at Cq;clear qF rT ic py mU fO ht b8 hg jB l1 gL hl mV Pu;go_enter func168,ntmps168;go_wp2_with fail;go_region_law_o (refine step_append_room rfl (.tmp 22) (.tmp 25) 153 rfl 97 i0 1 underlying153 yW GV g 0 i c (by simp [Act.eval,Act.put]) A (m - i) (c - (i+1)) (bh (l.drop (i+1))) (by simp [Act.eval,Act.put]) s1.out G2.out s2.out (by omega) s3.out ?_;rw [HW.out,Lg])
 go_wp2_with (simp only [pP])
 go_ret;exact ⟨rfl,C2,rfl,HZ.out,HF.out⟩
theorem w9(l:List Lk)(i:Nat)(h:i<l.length):(cA l i).length+1=l.length:=by
 unfold cA;rw [ae,ag,ao];omega
theorem oz(base:Nat)(v:Value)(l:List Lk)(i:Nat)(w:World)(hi:i<l.length)(ho:b7 w base v l):Calls prog 168 #[v,.int .i64 (i:Int),.int .i64 ((i:Int)+1)] w fun e w'=>∃ u,e = .returned u∧b7 w' base u (cA l i)∧Below base w w':=by
 have XZ:=w9 l i hi;rcases ho.2 with ⟨_,h0⟩ | ⟨g,c,cur,rfl,hb,hg,BQ,sB,fI,mf⟩
 ·omega
 ·have h:=xV g c l i (cA l i).length w cur (by omega) (by omega) BQ hg (by rw [fI,Nat.mul_one]) (by rw [Nat.mul_one] at mf;exact mf)
  rw [XZ] at h;refine h.mono ?_
  rintro e w' ⟨rfl,fJ,rfl,h2,h3⟩;exact ⟨_,rfl,b7.row (l:=cA l i) hb (setRow_heap w.drew g cur fJ 97 (0,0) hg) (by omega) sB h2 h3,below_setRow (B.aK (Below.refl _ _)) hb fJ⟩
end C
namespace T
open Go.RowKit
structure SN where
 ps:List Pr
 f:Int
 lk:List B.Lk
 us:List C.Ch
structure dQ(w:World)(b:Nat)(n:SN)(pv lv cv:Value):Prop where
 row:B.au w b #[pv,.int .i64 n.f,lv,cv] 155
 iI:gM w pv n.ps
 bh:B.di w lv n.lk
 kids:C.di w cv n.us
 fine:(∀ p ∈ n.ps,cN p=true)∧n.ps.length≤4000∧(∀ p ∈ n.lk,cP p.1)∧n.lk.length≤4000∧n.us.length≤4001
theorem dQ.below{w w':World}{b:Nat}{n:SN}{pv lv cv:Value}(h:dQ w b n pv lv cv)(hb:Below w.heap.size w w'):dQ w' b n pv lv cv :=
 ⟨h.row.below hb,h.iI.below hb,h.bh.below hb,h.kids.below hb,h.fine⟩
theorem dQ.c0{w:World}{b:Nat}{n:SN}{pv lv cv:Value}(h:dQ w b n pv lv cv):w.cell? ⟨b,0,none⟩=some pv:=h.row.cell 0 (by simp)
theorem dQ.c1{w:World}{b:Nat}{n:SN}{pv lv cv:Value}(h:dQ w b n pv lv cv):w.cell? ⟨b,1,none⟩=some (.int .i64 n.f):=h.row.cell 1 (by simp)
theorem dQ.c2{w:World}{b:Nat}{n:SN}{pv lv cv:Value}(h:dQ w b n pv lv cv):w.cell? ⟨b,2,none⟩=some lv:=h.row.cell 2 (by simp)
theorem dQ.c3{w:World}{b:Nat}{n:SN}{pv lv cv:Value}(h:dQ w b n pv lv cv):w.cell? ⟨b,3,none⟩=some cv:=h.row.cell 3 (by simp)
theorem cB(b:Nat)(n:SN)(pv lv cv:Value)(w:World)(h:dQ w b n pv lv cv):Calls prog 93 #[.pointer (some ⟨b,0,none⟩)] w fun e w'=>e = .returned (.bool (decide (n.us.length=0)))∧w=w':=by
 obtain ⟨a,c,yl⟩:=h.kids.form;subst yl;have p3:=h.c3;obtain ⟨m,hm⟩ : ∃ m,m=n.us.length:=⟨_,rfl⟩;rw [← hm] at p3 ⊢;clear h hm;by_cases h0:m=0
 ·subst h0;go_enter func93,ntmps93;go_wp2;go_ret;exact ⟨rfl,rfl⟩
 ·have hd:decide (m=0)=false:=by simp [h0]
  rw [hd];have h1:((m:Int) == 0)=false:=by simp;omega
  clear hd;go_enter func93,ntmps93;go_wp2;go_ret;exact ⟨rfl,rfl⟩
def SN.sz(n:SN):Nat:=if n.us.length=0 then fY n.ps else B.jT n.lk
theorem NM{l:List B.Lk}(h:∀ p ∈ l,cP p.1):B.jT l≤262*l.length+6:=by
 induction l with
 | nil=>simp [B.jT]
 | cons p l ih =>
  have a:=ih fun q hq=>h q (dY _ hq)
  have b:=(h p dk).2;rw [B.oc,List.length_cons];unfold B.yT;omega
theorem dQ.okL{w:World}{b:Nat}{n:SN}{pv lv cv:Value}(h:dQ w b n pv lv cv):Un n.ps:=fun p hp=>by
 have:=eS (h.fine.1 p hp);omega
theorem dQ.ui{w:World}{b:Nat}{n:SN}{pv lv cv:Value}(h:dQ w b n pv lv cv):B.Vu n.lk:=fun p hp=>by
 have:=(h.fine.2.2.1 p hp).2;omega
theorem dQ.UQ{w:World}{b:Nat}{n:SN}{pv lv cv:Value}(h:dQ w b n pv lv cv):Calls prog 161 #[pv] w fun e w'=>e = .returned (.int .i64 (fY n.ps:Int))∧Below w.heap.size w w':=by
 refine (Ay pv n.ps w h.okL (by have:=h.fine.2.1;omega) h.iI).mono fun e w' ⟨h1,h2⟩=>⟨?_,h2⟩
 rw [h1,kR (by have:=vD h.fine.1;have:=h.fine.2.1;omega)]
theorem dQ.bsize{w:World}{b:Nat}{n:SN}{pv lv cv:Value}(h:dQ w b n pv lv cv):Calls prog 156 #[.agg #[.int .i64 n.f,lv]] w fun e w'=>e = .returned (.int .i64 (B.jT n.lk:Int))∧Below w.heap.size w w':=by
 refine (B.A7 n.f lv n.lk w h.ui (by have:=h.fine.2.2.2.1;omega) h.bh).mono fun e w' ⟨h1,h2⟩=>⟨?_,h2⟩
 rw [h1,B.kR (by have:=NM h.fine.2.2.1;have:=h.fine.2.2.2.1;omega)]
theorem CV(b:Nat)(n:SN)(pv lv cv:Value)(w:World)(h:dQ w b n pv lv cv)(h0:n.us.length=0):Calls prog 128 #[.pointer (some ⟨b,0,none⟩)] w fun e w'=>e = .returned (.bool (decide (4072<fY n.ps)))∧Below w.heap.size w w':=by
 have HL:=ab (cB b n pv lv cv w h);rw [show decide (n.us.length=0)=true by simp [h0]] at HL
 have HS:=ab h.UQ;have p0:=h.c0;have p1:=h.c1;have p2:=h.c2;obtain ⟨x,hx⟩ : ∃ x,x=fY n.ps:=⟨_,rfl⟩;rw [← hx] at HS ⊢;clear h h0 hx;by_cases hb:4072<x
 ·rw [show decide (4072<x)=true by simp [hb]]
  have Qc:(4072:Int)<(x:Int):=by omega
  go_enter func128,ntmps128;go_wp2_with fail;refine HL.out.mono ?_
  rintro e w1 ⟨rfl,rfl⟩;go_wp2_with fail;refine HS.out.mono ?_
  rintro e w2 ⟨rfl,aS⟩;have HB:=ab aS;clear aS p0 p1 p2;go_wp2;go_ret;exact ⟨rfl,HB.out⟩
 ·rw [show decide (4072<x)=false by simp [hb]]
  have Qc:¬ (4072:Int)<(x:Int):=by omega
  have WO:decide ((4072:Int)<(x:Int))=false:=decide_eq_false Qc;go_enter func128,ntmps128;go_wp2_with fail;refine HL.out.mono ?_
  rintro e w1 ⟨rfl,rfl⟩;go_wp2_with fail;refine HS.out.mono ?_
  rintro e w2 ⟨rfl,aS⟩;have HB:=ab aS;clear aS p0 p1 p2;go_wp2;go_ret;exact ⟨by first | rfl | (show Ending.returned (Value.bool _)=_;rw [WO]),HB.out⟩
theorem Kg(b:Nat)(n:SN)(pv lv cv:Value)(w:World)(h:dQ w b n pv lv cv)(h0:¬ n.us.length=0):Calls prog 128 #[.pointer (some ⟨b,0,none⟩)] w fun e w'=>e = .returned (.bool (decide (4072<B.jT n.lk)))∧Below w.heap.size w w':=by
 have HL:=ab (cB b n pv lv cv w h);rw [show decide (n.us.length=0)=false by simp [h0]] at HL
 have HS:=ab h.bsize;have p0:=h.c0;have p1:=h.c1;have p2:=h.c2;obtain ⟨x,hx⟩ : ∃ x,x=B.jT n.lk:=⟨_,rfl⟩;rw [← hx] at HS ⊢;clear h h0 hx;by_cases hb:4072<x
 ·rw [show decide (4072<x)=true by simp [hb]]
  have Qc:(4072:Int)<(x:Int):=by omega
  go_enter func128,ntmps128;go_wp2_with fail;refine HL.out.mono ?_
  rintro e w1 ⟨rfl,rfl⟩;go_wp2_with fail;refine HS.out.mono ?_
  rintro e w2 ⟨rfl,aS⟩;have HB:=ab aS;clear aS p0 p1 p2;go_wp2;go_ret;exact ⟨rfl,HB.out⟩
 ·rw [show decide (4072<x)=false by simp [hb]]
  have Qc:¬ (4072:Int)<(x:Int):=by omega
  have WO:decide ((4072:Int)<(x:Int))=false:=decide_eq_false Qc;go_enter func128,ntmps128;go_wp2_with fail;refine HL.out.mono ?_
  rintro e w1 ⟨rfl,rfl⟩;go_wp2_with fail;refine HS.out.mono ?_
  rintro e w2 ⟨rfl,aS⟩;have HB:=ab aS;clear aS p0 p1 p2;go_wp2;go_ret;exact ⟨by first | rfl | (show Ending.returned (Value.bool _)=_;rw [WO]),HB.out⟩
theorem zf(b:Nat)(n:SN)(pv lv cv:Value)(w:World)(h:dQ w b n pv lv cv)(h0:n.us.length=0):Calls prog 123 #[.pointer (some ⟨b,0,none⟩)] w fun e w'=>e = .returned (.bool (decide (fY n.ps<1556)))∧Below w.heap.size w w':=by
 have HL:=ab (cB b n pv lv cv w h);rw [show decide (n.us.length=0)=true by simp [h0]] at HL
 have HS:=ab h.UQ;have p0:=h.c0;have p1:=h.c1;have p2:=h.c2;obtain ⟨x,hx⟩ : ∃ x,x=fY n.ps:=⟨_,rfl⟩;rw [← hx] at HS ⊢;clear h h0 hx;by_cases hb:x<1556
 ·rw [show decide (x<1556)=true by simp [hb]]
  have Qc:(x:Int)<1556:=by omega
  go_enter func123,ntmps123;go_wp2_with fail;refine HL.out.mono ?_
  rintro e w1 ⟨rfl,rfl⟩;go_wp2_with fail;refine HS.out.mono ?_
  rintro e w2 ⟨rfl,aS⟩;have HB:=ab aS;clear aS p0 p1 p2;go_wp2;go_ret;exact ⟨rfl,HB.out⟩
 ·rw [show decide (x<1556)=false by simp [hb]]
  have Qc:¬ (x:Int)<1556:=by omega
  have WO:decide ((x:Int)<1556)=false:=decide_eq_false Qc;go_enter func123,ntmps123;go_wp2_with fail;refine HL.out.mono ?_
  rintro e w1 ⟨rfl,rfl⟩;go_wp2_with fail;refine HS.out.mono ?_
  rintro e w2 ⟨rfl,aS⟩;have HB:=ab aS;clear aS p0 p1 p2;go_wp2;go_ret;exact ⟨by first | rfl | (show Ending.returned (Value.bool _)=_;rw [WO]),HB.out⟩
theorem CU(b:Nat)(n:SN)(pv lv cv:Value)(w:World)(h:dQ w b n pv lv cv)(h0:¬ n.us.length=0):Calls prog 123 #[.pointer (some ⟨b,0,none⟩)] w fun e w'=>e = .returned (.bool (decide (B.jT n.lk<1777)))∧Below w.heap.size w w':=by
 have HL:=ab (cB b n pv lv cv w h);rw [show decide (n.us.length=0)=false by simp [h0]] at HL
 have HS:=ab h.bsize;have p0:=h.c0;have p1:=h.c1;have p2:=h.c2;obtain ⟨x,hx⟩ : ∃ x,x=B.jT n.lk:=⟨_,rfl⟩;rw [← hx] at HS ⊢;clear h h0 hx;by_cases hb:x<1777
 ·rw [show decide (x<1777)=true by simp [hb]]
  have Qc:(x:Int)<1777:=by omega
  go_enter func123,ntmps123;go_wp2_with fail;refine HL.out.mono ?_
  rintro e w1 ⟨rfl,rfl⟩;go_wp2_with fail;refine HS.out.mono ?_
  rintro e w2 ⟨rfl,aS⟩;have HB:=ab aS;clear aS p0 p1 p2;go_wp2;go_ret;exact ⟨rfl,HB.out⟩
 ·rw [show decide (x<1777)=false by simp [hb]]
  have Qc:¬ (x:Int)<1777:=by omega
  have WO:decide ((x:Int)<1777)=false:=decide_eq_false Qc;go_enter func123,ntmps123;go_wp2_with fail;refine HL.out.mono ?_
  rintro e w1 ⟨rfl,rfl⟩;go_wp2_with fail;refine HS.out.mono ?_
  rintro e w2 ⟨rfl,aS⟩;have HB:=ab aS;clear aS p0 p1 p2;go_wp2;go_ret;exact ⟨by first | rfl | (show Ending.returned (Value.bool _)=_;rw [WO]),HB.out⟩
theorem qh(b:Nat)(n:SN)(pv lv cv:Value)(w:World)(h:dQ w b n pv lv cv):Calls prog 128 #[.pointer (some ⟨b,0,none⟩)] w fun e w'=>e = .returned (.bool (decide (4072<n.sz)))∧Below w.heap.size w w':=by
 unfold SN.sz;by_cases h0:n.us.length=0
 ·rw [if_pos h0];exact CV b n pv lv cv w h h0
 ·rw [if_neg h0];exact Kg b n pv lv cv w h h0
def SN.min(n:SN):Nat:=if n.us.length=0 then 1556 else 1777
theorem mZ(b:Nat)(n:SN)(pv lv cv:Value)(w:World)(h:dQ w b n pv lv cv):Calls prog 123 #[.pointer (some ⟨b,0,none⟩)] w fun e w'=>e = .returned (.bool (decide (n.sz<n.min)))∧Below w.heap.size w w':=by
 unfold SN.sz SN.min;by_cases h0:n.us.length=0
 ·rw [if_pos h0,if_pos h0];exact zf b n pv lv cv w h h0
 ·rw [if_neg h0,if_neg h0];exact CU b n pv lv cv w h h0
def RX(w:World)(n:SN)(e:Ending)(w':World):Prop:=∃ b pv lv cv,e = .returned (.pointer (some ⟨b,0,none⟩))∧dQ w' b n pv lv cv∧Below w.heap.size w w'
theorem rS{w:World}{base:Nat}{v:Value}{l:List C.Ch}(h:C.b7 w base v l)(hl:0<l.length):∃ g c,v = .slice (some ⟨g,0,none⟩) l.length c∧base≤g∧g<w.heap.size:=by
 rcases h.2 with ⟨_,h0⟩ | ⟨g,c,cur,hv,hb,hg,_⟩
 ·omega
 ·exact ⟨g,c,hv,hb,(Array.getElem?_eq_some_iff.1 hg).1⟩
theorem mX(b:Nat)(n:SN)(pv lv cv:Value)(i:Nat)(p:C.Ch)(w:World)(h:dQ w b n pv lv cv)(hi:i<n.us.length):Calls prog 125 #[.pointer (some ⟨b,0,none⟩),.int .i64 (i:Int),p.val] w fun e w'=>RX w ⟨[],n.f,n.lk,n.us.set i p⟩ e w':=by
 have hf:=h.fine;have HC:=ab (C.eU cv n.us w (by omega) h.kids)
 have p3:=h.c3;have bO:b<w.heap.size:=h.row.lt;have HH:=ab h;obtain ⟨pp,G3⟩ : ∃ x,x=p.val:=⟨_,rfl⟩;have Eo:pp.oneCell'=true:=by rw [G3];exact C.val_one p
 have HP:=ab G3;rw [← G3];clear h G3;obtain ⟨t,x,hx⟩ : ∃ t x,pp = .iface t x:=by
  rw [HP.out];cases p
  ·exact ⟨_,_,rfl⟩
  ·exact ⟨_,_,rfl⟩
 subst hx;obtain ⟨m,hm⟩ : ∃ m,m=n.us.length:=⟨_,rfl⟩;have HM:=ab hm;rw [← hm] at hi hf;clear hm;go_enter func125,ntmps125;go_wp2_with fail;refine HC.out.mono ?_
 rintro e w1 ⟨u,rfl,ho,aM⟩;obtain ⟨g,c,hu,fO,vo⟩:=rS ho (by rw [← HM.out];omega)
 subst hu;have ja:w1.ownsRow w.heap.size 97 1 (.slice (some ⟨g,0,none⟩) n.us.length c) n.us.length (C.bh n.us):=ho;obtain ⟨o1,z1⟩ : ∃ y,w1.cell? ⟨g,i,none⟩=some y:=⟨_,(World.ownsRow.cellAt ja i (by rw [← HM.out];omega)).trans (C.gJ n.us i (by rw [← HM.out];exact hi))⟩
 have z2:w1.frozen? ⟨g,i,none⟩=false:=World.ownsRow.frozenAt ja _;have eK:=(World.ownsRow.stored ja i (.iface t x)).1;have zy:(C.bh n.us).set i (.iface t x)=C.bh (n.us.set i p):=by
  unfold C.bh;rw [HP.out,List.map_set]
 rw [zy] at eK;have Jq:=aM.setCell (p:=⟨g,i,none⟩) fO (.iface t x);have dH:¬ b=g:=by omega
 have q1:w1.cell? ⟨b,1,none⟩=some (.int .i64 n.f):=(HH.out.below aM).c1;have q2:w1.cell? ⟨b,2,none⟩=some lv:=(HH.out.below aM).c2;have RT:=HH.out.below Jq;have q:=ai (w1.setCell ⟨g,i,none⟩ (.iface t x)) (.cells #[.slice none 0 0,.int .i64 n.f,lv,.slice (some ⟨g,0,none⟩) n.us.length c] 155);have xr:=B.au.new (w1.setCell ⟨g,i,none⟩ (.iface t x)) #[.slice none 0 0,.int .i64 n.f,lv,.slice (some ⟨g,0,none⟩) n.us.length c] 155;have ch:Hid (dQ ((w1.setCell ⟨g,i,none⟩ (.iface t x)).alloc (.cells #[.slice none 0 0,.int .i64 n.f,lv,.slice (some ⟨g,0,none⟩) n.us.length c] 155)) (w1.setCell ⟨g,i,none⟩ (.iface t x)).heap.size ⟨[],n.f,n.lk,n.us.set i p⟩ (.slice none 0 0) lv (.slice (some ⟨g,0,none⟩) n.us.length c)):=by
  refine ⟨xr,gM.nil _,RT.bh.below q,?_,?_⟩
  ·have:C.b7 (w1.setCell ⟨g,i,none⟩ (.iface t x)) w.heap.size (.slice (some ⟨g,0,none⟩) n.us.length c) (n.us.set i p):=by
    unfold C.b7;rw [cx];exact eK
   exact (this.below q).at
  ·have hf:=HH.out.fine;exact ⟨(fun p hp=>by simp at hp),by simp,hf.2.2.1,hf.2.2.2.1,by rw [cx];exact hf.2.2.2.2⟩
 have lI:=ab (Jq.alloc (B:=w.heap.size) (by have:=Jq.size;exact this) (.cells #[.slice none 0 0,.int .i64 n.f,lv,.slice (some ⟨g,0,none⟩) n.us.length c] 155))
 obtain ⟨la,lc,pN⟩:=RT.bh.form;rw [← HM.out] at ch lI ⊢;have Zh:(w1.setCell ⟨g,i,none⟩ (.iface t x)).heap.size=w1.heap.size:=by simp
 rw [Zh] at ch;have hiI:(i:Int)<(m:Int):=by omega
 have yW:(0:Int)≤(i:Int):=by omega
 clear HC p3 ho ja eK zy Jq RT q xr pN Zh;go_wp2;go_ret;exact ⟨_,_,_,_,rfl,ch.out,lI.out⟩
end T
namespace B
open Go.RowKit Go.Lib
theorem xO(l:List Lk)(i:Nat):bh (l.take i)=(bh l).take (i*2):=by
 induction l generalizing i with
 | nil=>simp [bh]
 | cons p l ih =>
  cases i with
  | zero=>simp [bh]
  | succ i=>rw [List.take_succ_cons,eE,eE,ih,show (i+1)*2=i*2+1+1 by omega,List.take_succ_cons,List.take_succ_cons]
theorem O0(l:List Lk)(i:Nat):bh (l.drop i)=(bh l).drop (i*2):=by
 induction l generalizing i with
 | nil=>simp [bh]
 | cons p l ih =>
  cases i with
  | zero=>simp
  | succ i=>rw [List.drop_succ_cons,eE,ih,show (i+1)*2=i*2+1+1 by omega,List.drop_succ_cons,List.drop_succ_cons]
theorem eo{P:Program}(w:World)(dT sT ty elem:TypeId)(g o Hs Xh:Nat)(a:Addr)(Gj VV:Nat)(cur:Array Value)(t:TypeId)(cs:List Value)(hu:P.underlying dT=some (.slice elem))(hs:(P.info? elem).map (·.size)=some 2)(hg:w.heap[g]?=some (.cells cur t (0,0)))(hn:cs.length=Nat.min Gj Hs*2)(G2:∀ j v,cs[j]?=some v→w.cell? (a.add j)=some v)(eM:o+cs.length≤cur.size)(h1:∀ v ∈ cs,v.oneCell'=true):(Builtin.copy_ #[dT,sT] ty #[.slice (some ⟨g,o,none⟩) Hs Xh,.slice (some a) Gj VV]).run P w = .ok (goInt (Nat.min Gj Hs)) (w.setRow g (cur.toList.take o++cs++cur.toList.drop (o+cs.length)).toArray):=by
 have hl:=run_loadCells_list (P:=P) w a cs G2;have eK:=run_storeCells_at P g o t cs 0 cur w hg (by simpa using eM) h1
 cases hq:P.info? elem with
 | none=>simp [hq] at hs
 | some i =>
  have hi:i.size=2:=by simpa [hq] using hs
  simp [Builtin.copy_,run_underlying hu,Builtin.lenOf,Builtin.firstCells,sizeOf,typeInfo,hq,hi,← hn,hl,eK]
theorem kZ{P:Program}(w:World)(t e ty:TypeId)(x y:Value)(ht:P.underlying t=some (.slice e))(hv:∀ w,(zeroValue e).run P w = .ok (.agg #[x,y]) w)(hx:x.oneCell'=true)(hy:y.oneCell'=true)(g o c:Nat)(cur:Array Value)(tt:TypeId)(hg:w.heap[g]?=some (.cells cur tt (0,0)))(eM:o+2≤cur.size):(Builtin.clear_ #[t] ty #[.slice (some ⟨g,o,none⟩) 1 c]).run P w = .ok (.tuple #[]) (w.setRow g (cur.toList.take o++[x,y]++cur.toList.drop (o+2)).toArray):=by
 have XR:(Builtin.zeroCells (Value.agg #[x,y]).cells 1).toList=[x,y]:=by
  have:(Value.agg #[x,y]).cells=#[x,y]:=rfl;rw [this];simp [Builtin.zeroCells,Array.range]
 have eK:=run_storeCells_at P g o tt [x,y] 0 cur w hg (by simpa using eM) (by intro v Tk;simp at Tk;rcases Tk with rfl | rfl <;> assumption)
 simp [Builtin.clear_,run_underlying ht,hv,XR,eK]
theorem xS(base:Nat)(v:Value)(l:List Lk)(vb:Nat)(p:Lk)(w:World)(hm:l.length≤5864062014800)(ho:b7 w base v l)(dx:base≤w.heap.size)(hv:di w (.slice (some ⟨vb,0,none⟩) 1 1) [p]):Calls prog 231 #[v,.int .i64 (l.length:Int),.slice (some ⟨vb,0,none⟩) 1 1] w fun e w'=>∃ u,e = .returned u∧b7 w' base u (l++[p])∧Below base w w':=by
 obtain ⟨a',c',w1,bq,aF,hg⟩:=fo base v _ l [p] w ho hv (by simp;omega) dx
 have aM:Below base w w1:=(Below.refl base w).grown hg dx (fun k hk=>(ho.dF k hk).1)
 have HO:=ab aF;have HB:=ab aM;have cT:∃ a c,v = .slice a l.length c∧l.length≤c:=by
  obtain ⟨a,c,rfl,hle,_⟩:=ho.at;exact ⟨a,c,rfl,hle⟩
 obtain ⟨a,c,rfl,hle⟩:=cT;rw [show ([p] : List Lk).length=1 from rfl] at bq
 obtain ⟨n,hn⟩ : ∃ n,n=l.length:=⟨_,rfl⟩;rw [← hn] at bq hle hm ⊢;have HN:=ab hn;clear aF hg aM ho hv hn;by_cases tp:c=n
 ·go_enter func231,ntmps231;go_wp2_with (first | (at_builtin;refine wpList_append_run 148 rfl (.tmp 23) (.tmp 24) rfl rfl _ _ rfl rfl _ _ bq ?_))
  clear bq;go_ret;exact ⟨_,rfl,by have:=HO.out;rwa [show l.length + [p].length=n+1 by rw [HN.out];rfl] at this,HB.out⟩
 ·go_enter func231,ntmps231;go_wp2_with (first | (at_builtin;refine wpList_append_run 148 rfl (.tmp 23) (.tmp 24) rfl rfl _ _ rfl rfl _ _ bq ?_))
  clear bq;go_ret;exact ⟨_,rfl,by have:=HO.out;rwa [show l.length + [p].length=n+1 by rw [HN.out];rfl] at this,HB.out⟩
theorem gZ{w:World}{g:Nat}{cur:Array Value}{t:TypeId}{l:List Lk}(hg:w.heap[g]?=some (.cells cur t (0,0)))(ht:cur.toList.take (l.length*2)=bh l)(i:Nat):∀ j u,(bh (l.drop i))[j]?=some u→w.cell? ⟨g,i*2+j,none⟩=some u:=by
 intro j u h;rw [O0,← ht,dn,cJ] at h;split at h
 ·rw [Array.getElem?_toList] at h;simp [World.cell?,hg,h]
 ·cases h
theorem Oy(w:World)(g vb i n1 c1:Nat)(cur vs:Array Value)(tA tB:TypeId)(dH:vb≠g)(hg:w.heap[g]?=some (.cells cur tA (0,0)))(hv:w.heap[vb]?=some (.cells vs tB (0,0)))(h0:cur.size≠0):(callFunc 251 #[.slice (some ⟨vb,0,none⟩) 1 1,.slice (some ⟨g,i,none⟩) n1 c1]).run prog w = .ok (.value (.bool false)) w:=by
 rw [run_callFunc_extern func251 (by kernel_rfl) (by kernel_rfl) (by kernel_rfl) (e:=Extern.SlicesOverlaps.overlaps #[148,148] #[4]) (by kernel_rfl),
  Lib.run_overlaps_apart w 148 4 179 underlying148 2 sizeOf179 ⟨vb,0,none⟩ ⟨g,i,none⟩ 1 1 n1 c1 dH tB tA vs.size cur.size (by simp [World.shape?,hv]) (by simp [World.shape?,hg]) h0 (by simp [World.frozen?,hv]) (by simp [World.frozen?,hv])]
 rfl
theorem s8(g c:Nat)(l:List Lk)(i vb:Nat)(p:Lk)(w:World)(cur:Array Value)(hi:i<l.length)(adP:c≤9223372036854775807)(eh:l.length+1≤c)(hg:w.heap[g]?=some (.cells cur 179 (0,0)))(b8:cur.size=c*2)(ht:cur.toList.take (l.length*2)=bh l)(hv:w.heap[vb]?=some (.cells #[.string p.1,.int .i64 p.2] 179 (0,0)))(dH:vb≠g):Calls prog 231 #[.slice (some ⟨g,0,none⟩) l.length c,.int .i64 (i:Int),.slice (some ⟨vb,0,none⟩) 1 1] w fun e w'=>e = .returned (.slice (some ⟨g,0,none⟩) (l.length+1) c)∧∃ fJ:Array Value,w'=w.drew.setRow g fJ∧fJ.size=c*2∧fJ.toList.take ((l.length+1)*2)=bh (dJ l i p):=by
 obtain ⟨n,hn⟩ : ∃ n,n=l.length:=⟨_,rfl⟩;have hov:=fun j n1 c1=>Oy w g vb j n1 c1 cur _ _ _ dH hg hv (by omega)
 have jv:(prog.info? 179).map (·.size)=some 2:=by kernel_rfl
 have jB:(bh (l.drop i)).length=(n - i)*2:=by rw [aT,ao,hn]
 obtain ⟨C1,qF⟩ : ∃ C:Array Value,C=(cur.toList.take ((i+1)*2)++bh (l.drop i)++cur.toList.drop ((i+1)*2+(bh (l.drop i)).length)).toArray:=⟨_,rfl⟩;have mU:C1.size=c*2:=by rw [qF];simp [jB,b8];omega
 obtain ⟨C2,rT⟩ : ∃ C:Array Value,C=(C1.toList.take (i*2)++bh [p]++C1.toList.drop (i*2+(bh [p]).length)).toArray:=⟨_,rfl⟩;have py:C2.size=c*2:=by rw [rT];simp [bh,mU];omega
 have ic:C2.toList.take ((n+1)*2)=bh (dJ l i p):=by
  have e1:cur.toList.take (i*2)=bh (l.take i):=by
   rw [xO,← ht,fM,a6 (by omega)]
  have l1:(bh (l.take i)).length=i*2:=by rw [aT,ag];omega
  have e2:C1.toList.take (i*2)=bh (l.take i):=by
   rw [qF,List.toList_toArray,ay,aG (by simp [b8];omega),fM,a6 (by omega),e1]
  have e3:C1.toList.drop (i*2+(bh [p]).length)=bh (l.drop i)++cur.toList.drop ((i+1)*2+(bh (l.drop i)).length):=by
   rw [qF,List.toList_toArray,ay,im (by simp [b8,bh];omega),dB (by simp [b8,bh];omega)]
   rfl
  rw [rT,List.toList_toArray,e2,e3,dJ,cZ,show p::l.drop i=[p]++l.drop i from rfl,cZ,← ay,← ay,aG (by simp only [ae,jB,l1,aT,aQ];omega),al (by simp only [ae,jB,l1,aT,aQ];omega)]
 have WR:∀ ty dc sc,(Builtin.copy_ #[148,148] ty #[.slice (some ⟨g,(i+1)*2,none⟩) (n - i) dc,.slice (some ⟨g,i*2,none⟩) (n+1 - i) sc]).run prog w.drew = .ok (goInt (Nat.min (n+1 - i) (n - i))) (w.drew.setRow g C1):=fun ty dc sc=>by
  rw [qF];exact eo w.drew 148 148 ty 179 g ((i+1)*2) (n - i) dc ⟨g,i*2,none⟩ (n+1 - i) sc cur 179 (bh (l.drop i)) underlying148 jv hg (by rw [jB];simp only [kK];split <;> omega) (fun j u hj=>by rw [bt];exact gZ hg ht i j u hj) (by rw [jB,b8];omega) (gh _)
 have fO:(w.drew.setRow g C1).heap[g]?=some (.cells C1 179 (0,0)):=setRow_heap w.drew g cur C1 179 (0,0) hg;have fP:(w.drew.setRow g C1).heap[vb]?=some (.cells #[.string p.1,.int .i64 p.2] 179 (0,0)):=(setRow_other w.drew g vb C1 dH).trans hv;have WQ:∀ ty dc,(Builtin.copy_ #[148,148] ty #[.slice (some ⟨g,i*2,none⟩) (n+1 - i) dc,.slice (some ⟨vb,0,none⟩) 1 1]).run prog (w.drew.setRow g C1) = .ok (goInt (Nat.min 1 (n+1 - i))) (w.drew.setRow g C2):=fun ty dc=>by
  have h:=eo (w.drew.setRow g C1) 148 148 ty 179 g (i*2) (n+1 - i) dc ⟨vb,0,none⟩ 1 1 C1 179 (bh [p]) underlying148 jv fO (by simp only [aT,aQ,kK];split <;> omega) (fun j u hj=>by
   rw [bt];have lY:(#[.string p.1,.int .i64 p.2] : Array Value)[j]?=some u:=by simpa [bh] using hj
   simp [World.cell?,fP,lY]) (by simp [bh,mU];omega) (gh _)
  rw [h,rT,setRow_setRow]
 have HF:=ab ic;have HZ:=ab py;have mixed:prog.follows Departure.mixedOrders=true:=by kernel_rfl
 have mU:¬ ((i:Int)=(n:Int)):=by omega
 have vR:IntKind.i64.wrap ((i:Int)+1)=(i:Int)+1:=by rw [IntKind.wrap_i64];omega
 have GY:IntKind.i64.wrap ((n:Int)+1)=(n:Int)+1:=by rw [IntKind.wrap_i64];omega
 have XX:((i:Int)+1).toNat=i+1:=by omega
 have ac4:((n:Int)+1).toNat=n+1:=by omega
 have aM:(0:Int)≤(i:Int)+1:=by omega
 have aS:¬ (c=i+1):=by omega
 have fW:¬ (c=i):=by omega
 have MZ:(i:Int)≤(n:Int):=by omega
 have bQ:(i:Int)≤(n:Int)+1:=by omega
 have WI:i≤n:=by omega
 have adC:i+1≤n+1:=by omega
 rw [← hn] at eh ⊢;clear qF rT ic py jB fO fP ht b8 hg hv hn hi;go_enter func231,ntmps231;go_wp2_with (simp only [hov])
 go_region_law_o (refine step_copy_runI rfl _ _ 148 148 rfl _ _ (by simp [Act.eval,Act.put]) (by simp [Act.eval,Act.put]) (WR _ _ _) ?_)
 go_wp2_with (at_builtin;refine wpList_copy_runI _ rfl _ _ 148 148 rfl _ _ rfl rfl (WQ _ _) ?_)
 go_ret;exact ⟨rfl,C2,rfl,HZ.out,HF.out⟩
theorem wu(x y:Value)(k:Nat):(Builtin.zeroCells (Value.agg #[x,y]).cells k).size=k*2:=by
 have:(Value.agg #[x,y]).cells=#[x,y]:=rfl;simp [Builtin.zeroCells,this]
theorem td(g c:Nat)(l:List Lk)(i vb:Nat)(p:Lk)(w:World)(cur:Array Value)(hi:i<l.length)(hm:l.length≤5864062014800)(Cq:l.length≤c)(eh:c<l.length+1)(hg:w.heap[g]?=some (.cells cur 179 (0,0)))(ht:cur.toList.take (l.length*2)=bh l)(hv:w.heap[vb]?=some (.cells #[.string p.1,.int .i64 p.2] 179 (0,0))):Calls prog 231 #[.slice (some ⟨g,0,none⟩) l.length c,.int .i64 (i:Int),.slice (some ⟨vb,0,none⟩) 1 1] w fun e w'=>∃ G:Nat,e = .returned (.slice (some ⟨w.heap.size,0,none⟩) (l.length+1) G)∧l.length+1≤G∧G≤maxLen∧∃ fJ:Array Value,w'.heap[w.heap.size]?=some (.cells fJ 179 (0,0))∧Below w.heap.size w w'∧fJ.size=G*2∧fJ.toList.take ((l.length+1)*2)=bh (dJ l i p):=by
 obtain ⟨n,hn⟩ : ∃ n,n=l.length:=⟨_,rfl⟩;obtain ⟨i0,yW,mV,GV,Pu⟩:=info_parts lO;have jv:(prog.info? 179).map (·.size)=some 2:=by rw [yW];simp [GV]
 have PX:g<w.heap.size:=(Array.getElem?_eq_some_iff.1 hg).1;have Y7:vb<w.heap.size:=(Array.getElem?_eq_some_iff.1 hv).1;have jB:(bh (l.drop i)).length=(n - i)*2:=by rw [aT,ao,hn]
 have l1:(bh (l.take i)).length=i*2:=by rw [aT,ag];omega
 have RM:(n:Int)+1 - (i:Int)=((n+1 - i:Nat):Int):=by omega
 have RQ:i+(n+1 - i)=n+1:=by omega
 have hold:(Builtin.firstCells i0.size i (.slice (some ⟨g,0,none⟩) i c)).run prog w.drew = .ok (bh (l.take i)).toArray w.drew:=by
  rw [GV];refine run_firstCells_some w.drew 2 i ⟨g,0,none⟩ i c (bh (l.take i)) l1 (fun j v hj=>?_)
  rw [bt,Nat.zero_add];rw [xO,cJ] at hj;split at hj
  ·have:=gZ hg ht 0 j v (by simpa using hj)
   simpa using this
  ·cases hj
 obtain ⟨G,hG⟩ : ∃ G,G=grownCap w (n+1) c 179:=⟨_,rfl⟩;obtain ⟨R,hR⟩ : ∃ R:Array Value,R=(bh (l.take i)).toArray++Builtin.zeroCells (Value.agg #[.string ByteArray.empty,.int .i64 0]).cells (n+1 - i)++Builtin.zeroCells (Value.agg #[.string ByteArray.empty,.int .i64 0]).cells (G - (n+1)):=⟨_,rfl⟩;have Wp:∀ ty,(Builtin.append_ #[148,3] ty #[.slice (some ⟨g,0,none⟩) i c,.int .i64 ((n:Int)+1 - (i:Int))]).run prog w =
   .ok (.slice (some ⟨w.heap.size,0,none⟩) (n+1) G) (w.drew.alloc (.cells R 179)):=fun ty=>by
  have h:=Lib.run_append_grow_zeros w 148 3 ty 179 i0 _ .i64 .i64 underlying148 underlying3 yW mV (some ⟨g,0,none⟩) i c (bh (l.take i)) hold (n+1 - i) (by omega) (by omega) (by omega) (by omega) (by rw [Pu];omega) (by rw [Pu,RQ];exact growslice_fits (by omega) (by omega))
  rw [RQ] at h;rw [RM,hR,hG];exact h
 have hGn:n+1≤G:=by rw [hG];exact grownCap_ge w _ _ _
 have Xb:G≤maxLen:=by rw [hG];exact grownCap_le_maxLen w (n+1) c 179 (by unfold maxLen;omega)
 have WZ:R.size=G*2:=by
  rw [hR,ey,ey,wu,wu];simp [l1];omega
 obtain ⟨W1,gL⟩ : ∃ W1,W1=w.drew.alloc (.cells R 179):=⟨_,rfl⟩;have Ju:W1.heap[w.heap.size]?=some (.cells R 179 (0,0)):=by rw [gL];exact heap_alloc_new w.drew _
 have FM:Below w.heap.size w W1:=by rw [gL];exact (aK (Below.refl _ _)).alloc (aj _) _
 have fO:W1.heap[g]?=some (.cells cur 179 (0,0)):=(FM.block g PX).trans hg;have fP:W1.heap[vb]?=some (.cells #[.string p.1,.int .i64 p.2] 179 (0,0)):=(FM.block vb Y7).trans hv;rw [← gL] at Wp;obtain ⟨C1,qF⟩ : ∃ C:Array Value,C=(R.toList.take (i*2)++bh [p]++R.toList.drop (i*2+(bh [p]).length)).toArray:=⟨_,rfl⟩;have mU:C1.size=G*2:=by rw [qF];simp [bh,WZ];omega
 obtain ⟨C2,rT⟩ : ∃ C:Array Value,C=(C1.toList.take ((i+1)*2)++bh (l.drop i)++C1.toList.drop ((i+1)*2+(bh (l.drop i)).length)).toArray:=⟨_,rfl⟩;have py:C2.size=G*2:=by rw [rT];simp [jB,mU];omega
 have ic:C2.toList.take ((n+1)*2)=bh (dJ l i p):=by
  have e0:R.toList.take (i*2)=bh (l.take i):=by
   rw [hR,bX,bX,List.toList_toArray,ay,aG (by omega),al (by omega)]
  have e1:C1.toList.take ((i+1)*2)=bh (l.take i)++bh [p]:=by
   rw [qF,List.toList_toArray,e0,aG (by simp only [ae,l1,aT,aQ];omega),al (by simp only [ae,l1,aT,aQ];omega)]
  rw [rT,List.toList_toArray,e1,dJ,cZ,show p::l.drop i=[p]++l.drop i from rfl,cZ,← ay,aG (by simp only [ae,jB,l1,aT,aQ];omega),al (by simp only [ae,jB,l1,aT,aQ];omega)]
 have Wx:vb≠w.heap.size:=by omega
 have BP:g≠w.heap.size:=by omega
 have P7:∀ ty dc,(Builtin.copy_ #[148,148] ty #[.slice (some ⟨w.heap.size,i*2,none⟩) (n+1 - i) dc,.slice (some ⟨vb,0,none⟩) 1 1]).run prog W1 = .ok (goInt (Nat.min 1 (n+1 - i))) (W1.setRow w.heap.size C1):=fun ty dc=>by
  rw [qF];exact eo W1 148 148 ty 179 w.heap.size (i*2) (n+1 - i) dc ⟨vb,0,none⟩ 1 1 R 179 (bh [p]) underlying148 jv Ju (by simp only [aT,aQ,kK];split <;> omega) (fun j u hj=>by
   rw [bt];have lY:(#[.string p.1,.int .i64 p.2] : Array Value)[j]?=some u:=by simpa [bh] using hj
   simp [World.cell?,fP,lY]) (by simp [bh,WZ];omega) (gh _)
 have Jt:(W1.setRow w.heap.size C1).drew.heap[w.heap.size]?=some (.cells C1 179 (0,0)):=setRow_heap W1 w.heap.size R C1 179 (0,0) Ju;have vo:(W1.setRow w.heap.size C1).drew.heap[g]?=some (.cells cur 179 (0,0)):=(setRow_other W1 w.heap.size g C1 BP).trans fO;have P6:∀ ty dc sc,(Builtin.copy_ #[148,148] ty #[.slice (some ⟨w.heap.size,(i+1)*2,none⟩) (n - i) dc,.slice (some ⟨g,i*2,none⟩) (n - i) sc]).run prog (W1.setRow w.heap.size C1).drew = .ok (goInt (Nat.min (n - i) (n - i))) ((W1.setRow w.heap.size C1).drew.setRow w.heap.size C2):=fun ty dc sc=>by
  rw [rT];exact eo (W1.setRow w.heap.size C1).drew 148 148 ty 179 w.heap.size ((i+1)*2) (n - i) dc ⟨g,i*2,none⟩ (n - i) sc C1 179 (bh (l.drop i)) underlying148 jv Jt (by rw [jB];simp only [kK];split <;> omega) (fun j u hj=>by rw [bt];exact gZ vo ht i j u hj) (by rw [jB,mU];omega) (gh _)
 have Qf:((W1.setRow w.heap.size C1).drew.setRow w.heap.size C2).heap[w.heap.size]?=some (.cells C2 179 (0,0)):=setRow_heap (W1.setRow w.heap.size C1).drew w.heap.size C1 C2 179 (0,0) Jt;have Xc:Below w.heap.size w ((W1.setRow w.heap.size C1).drew.setRow w.heap.size C2):=below_setRow (aK (below_setRow FM (aj _) C1)) (aj _) C2;obtain ⟨s,hs⟩ : ∃ s,s=w.heap.size:=⟨_,rfl⟩;rw [← hs] at Wp P7 P6 Qf Xc ⊢;have HF:=ab ic;have HZ:=ab py;have HN3:=ab Qf;have eG:=ab Xc;have HG:=ab Xb;have mixed:prog.follows Departure.mixedOrders=true:=by kernel_rfl
 have ad8:G≤9223372036854775807:=by unfold maxLen at Xb;omega
 have PF:¬ ((i:Int)=(n:Int)):=by omega
 have vR:IntKind.i64.wrap ((i:Int)+1)=(i:Int)+1:=by rw [IntKind.wrap_i64];omega
 have GY:IntKind.i64.wrap ((n:Int)+1)=(n:Int)+1:=by rw [IntKind.wrap_i64];omega
 have MV:IntKind.i64.wrap ((n:Int)+1 - (i:Int))=(n:Int)+1 - (i:Int):=by rw [IntKind.wrap_i64];omega
 have XX:((i:Int)+1).toNat=i+1:=by omega
 have aM:(0:Int)≤(i:Int)+1:=by omega
 have bQ:(i:Int)≤(n:Int)+1:=by omega
 have aS:¬ (G=i+1):=by omega
 have lH:¬ (G=i):=by omega
 have fW:¬ (c=i):=by omega
 have MZ:(i:Int)≤(n:Int):=by omega
 have WI:i≤n:=by omega
 have hic:(i:Int)≤(c:Int):=by omega
 have hcr:(c:Int)<(n:Int)+1:=by omega
 rw [← hn] at eh ⊢;clear qF rT ic py mU jB fO fP vo Ju Jt Qf FM Xc ht hg hv hi l1 RM RQ hold WZ hR hG PX Y7 yW mV GV Pu jv hn Xb Wx BP gL hs;go_enter func231,ntmps231;go_wp2_with (first
  | (at_builtin;refine Lib.wpList_append_run _ rfl _ _ _ _ rfl _ _ rfl rfl _ _ (Wp _) ?_)
  | (at_builtin;refine wpList_copy_runI _ rfl _ _ 148 148 rfl _ _ rfl rfl (P7 _ _) ?_))
 go_region_law_o (refine step_copy_runI rfl _ _ 148 148 rfl _ _ (by simp [Act.eval,Act.put]) (by simp [Act.eval,Act.put]) (P6 _ _ _) ?_)
 go_wp2;go_ret;exact ⟨G,rfl,hGn,HG.out,C2,HN3.out,eG.out,HZ.out,HF.out⟩
theorem b7.row{w:World}{base g c:Nat}{l:List Lk}{cur:Array Value}(hb:base≤g)(hg:w.heap[g]?=some (.cells cur 179 (0,0)))(Cq:l.length≤c)(hc:c≤maxLen)(hs:cur.size=c*2)(ht:cur.toList.take (l.length*2)=bh l):b7 w base (.slice (some ⟨g,0,none⟩) l.length c) l :=
 ⟨aT l,.inr ⟨g,c,cur,rfl,hb,hg,Cq,hc,hs,ht⟩⟩
theorem ff(l:List Lk)(i:Nat)(p:Lk)(h:i≤l.length):(dJ l i p).length=l.length+1:=by
 unfold dJ;rw [ae,List.length_cons,ag,ao];omega
theorem xY(l:List Lk)(p:Lk):dJ l l.length p=l++[p]:=by simp [dJ]
theorem oy(base:Nat)(v:Value)(l:List Lk)(i vb:Nat)(p:Lk)(w:World)(hm:l.length≤5864062014800)(hi:i≤l.length)(ho:b7 w base v l)(dx:base≤w.heap.size)(hv:au w vb #[.string p.1,.int .i64 p.2] 179)(dH:v.ownBlock≠some vb):Calls prog 231 #[v,.int .i64 (i:Int),.slice (some ⟨vb,0,none⟩) 1 1] w fun e w'=>∃ u,e = .returned u∧b7 w' base u (dJ l i p)∧Below base w w':=by
 by_cases MZ:i=l.length
 ·subst MZ;rw [xY];refine xS base v l vb p w hm ho dx ⟨_,_,rfl,aj _,fun h=>(by cases h),fun j hj=>⟨_,_,rfl,?_,?_⟩⟩
  ·have:j=0:=by simpa using hj
   subst this;exact hv.c0
  ·have:j=0:=by simpa using hj
   subst this;exact hv.c1
 ·have bK:i<l.length:=by omega
  rcases ho.2 with ⟨_,h0⟩ | ⟨g,c,cur,rfl,hb,hg,BQ,sB,fI,mf⟩
  ·omega
  ·by_cases hr:l.length+1≤c
   ·refine (s8 g c l i vb p w cur bK (by unfold maxLen at sB;omega) hr hg fI mf hv (fun h=>dH (by rw [h];rfl))).mono ?_
    rintro e w' ⟨rfl,fJ,rfl,h2,h3⟩;refine ⟨_,rfl,?_,below_setRow (aK (Below.refl _ _)) hb fJ⟩;have:=b7.row (l:=dJ l i p) hb (setRow_heap w.drew g cur fJ 179 (0,0) hg) (by rw [ff l i p hi];exact hr) sB h2 (by rw [ff l i p hi];exact h3)
    rwa [ff l i p hi] at this
   ·refine (td g c l i vb p w cur bK hm BQ (by omega) hg mf hv).mono ?_
    rintro e w' ⟨G,rfl,h1,h2,fJ,h3,h4,h5,h6⟩;refine ⟨_,rfl,?_,h4.mono dx⟩;have:=b7.row (l:=dJ l i p) dx h3 (by rw [ff l i p hi];exact h1) h2 h5 (by rw [ff l i p hi];exact h6)
    rwa [ff l i p hi] at this
end B
end Go.Proofs.YtihmgigfkmofnaaGreatDoor
