import Derived.Test.YtihmgigfkmofnaaGreatDoorG03
import Derived.Lib.SlicesDelete
set_option maxHeartbeats 4000000
set_option maxRecDepth 1000000
open Go.Proofs.Tryz
namespace Go.Proofs.YtihmgigfkmofnaaGreatDoor
namespace C
open Go.RowKit Go.Lib
theorem ji(g:Nat)(t:TypeId):∀ (vs:List Value) (o:Nat) (cur:Array Value) (w:World),w.heap[g]?=some (.cells cur t (0,0))→o+vs.length≤cur.size →
  w.setCells g o vs=w.setRow g (cur.toList.take o++vs++cur.toList.drop (o+vs.length)).toArray
 | [],o,cur,w,hg,_=>by
  simp only [World.setCells,List.append_nil,List.length_nil,Nat.add_zero,aI,Array.toArray_toList];rw [setRow_self w g cur t (0,0) hg]
 | v::r,o,cur,w,hg,hl=>by
  have ho:o<cur.size:=by simp at hl;omega
  rw [World.setCells,setCell_eq_setRow w g o cur t (0,0) v hg,ji g t r (o+1) (cur.setIfInBounds o v) _ (setRow_heap w g cur _ t _ hg) (by simp at hl ⊢;omega),setRow_setRow]
  congr 1
  have e:=list_seg_step cur.toList o v r (by simp at hl ⊢;omega)
  simpa [Array.toList_setIfInBounds,Nat.add_assoc] using e
theorem ym(g c:Nat)(l:List Lk)(i m:Nat)(w:World)(cur:Array Value)(hl:l.length=m+1)(hi:i≤m)(CR:l.length≤c)(hg:w.heap[g]?=some (.cells cur 97 (0,0)))(b8:cur.size=c)(ht:cur.toList.take (l.length)=bn l):Calls prog 168 #[.slice (some ⟨g,0,none⟩) (m+1) c,.int .i64 (i:Int),.int .i64 ((i:Int)+1)] w fun e w'=>e = .returned (.slice (some ⟨g,0,none⟩) m c)∧∃ fN:Array Value,w'=w.drew.setRow g fN∧fN.size=c∧fN.toList.take (m)=bn (cC l i):=by
 obtain ⟨i0,ud,nY,Ht,Qf⟩:=info_parts lL;have jE:(bn (l.drop (i+1))).length=(m - i):=by rw [eo,al,hl];omega
 have l1:(bn (l.take i)).length=i:=by rw [eo,ag];omega
 obtain ⟨A,hA,H5⟩ : ∃ A:Addr,(if c=i+1 then some (⟨g,0,none⟩ : Addr) else some ⟨g,(i+1),none⟩)=some A∧Hid (∀ t u,(bn (l.drop (i+1)))[t]?=some u→w.drew.cell? (A.add t)=some u):=by
  by_cases h:c=i+1
  ·refine ⟨⟨g,0,none⟩,by simp [h],fun t u hu=>?_⟩
   have h0:(bn (l.drop (i+1))).length=0:=by rw [jE];omega
   rw [List.length_eq_zero_iff.1 h0] at hu;simp at hu
  ·refine ⟨⟨g,(i+1),none⟩,by simp [h],fun t u hu=>?_⟩
   rw [bh];exact gU hg ht (i+1) t u hu
 obtain ⟨C1,qR⟩ : ∃ C:Array Value,C=(cur.toList.take (i)++bn (l.drop (i+1))++cur.toList.drop (i+(bn (l.drop (i+1))).length)).toArray:=⟨_,rfl⟩;have mR:C1.size=c:=by rw [qR];simp [jE,b8];omega
 have ig:w.drew.setCells g (0+i) (bn (l.drop (i+1)))=w.drew.setRow g C1:=by
  rw [Nat.zero_add,qR];exact ji g 97 _ _ cur w.drew hg (by rw [jE,b8];omega)
 have fM:(w.drew.setRow g C1).heap[g]?=some (.cells C1 97 (0,0)):=setRow_heap w.drew g cur C1 97 (0,0) hg;obtain ⟨C2,sE⟩ : ∃ C:Array Value,C=(C1.toList.take (m)++[Value.nilIface]++C1.toList.drop (m+1)).toArray:=⟨_,rfl⟩;have pL:C2.size=c:=by rw [sE];simp [mR];omega
 have ry:∀ ty cc,(Builtin.clear_ #[153] ty #[.slice (some ⟨g,m,none⟩) 1 cc]).run prog (w.drew.setRow g C1) = .ok (.tuple #[]) (w.drew.setRow g C2):=fun ty cc=>by
  rw [lf (w.drew.setRow g C1) 153 97 ty _ underlying153 zeroValue97 rfl rfl g (m) cc C1 97 fM (by omega),sE,setRow_setRow]
 have hU:C2.toList.take (m)=bn (cC l i):=by
  have e1:cur.toList.take (i)=bn (l.take i):=by
   rw [B8,← ht,gS,aT (by omega)]
  rw [sE,List.toList_toArray,ay,aH (by simp [mR];omega),gS,Nat.min_self,qR,List.toList_toArray,e1,cC,di,aH (by simp only [ae,jE,l1];omega),ao (by simp only [ae,jE,l1];omega)]
 have s1:Hid ((bn (l.drop (i+1))).length=(m - i)*1):=by show _=_;rw [Nat.mul_one];exact jE
 have s2:Hid (∀ u ∈ bn (l.drop (i+1)),u.oneCell'=true):=fW _;have s3:Hid (∀ t,t<(bn (l.drop (i+1))).length→(w.drew.cell? ⟨g,0+i*1+t,none⟩).isSome=true∧w.drew.frozen? ⟨g,0+i*1+t,none⟩=false):=by
  intro t zS;rw [jE] at zS;refine ⟨?_,by show World.frozen? w _=false;simp [World.frozen?,hg]⟩
  show (World.cell? w _).isSome=true
  simp only [World.cell?,hg];rw [Array.getElem?_eq_getElem (by omega)]
  rfl
 have HW:Hid (w.drew.setCells g (0+i*1) (bn (l.drop (i+1)))=w.drew.setRow g C1):=by show _=_;rw [Nat.mul_one];exact ig
 have HF:=ab hU;have HZ:=ab pL;have mixed:prog.follows Departure.mixedOrders=true:=by kernel_rfl
 have hq:¬ ((i:Int)=(i:Int)+1):=by omega
 have Sy:(0:Int)≤(i:Int)+1:=by omega
 have Qq:(i:Int)≤(i:Int)+1:=by omega
 have H7:(i:Int)+1≤(m:Int)+1:=by omega
 have hq3:(m:Int)+1≤(c:Int):=by omega
 have Y1:((i:Int)+1).toNat=i+1:=by omega
 have Zb:i≤c:=by omega
 have ae4:(i:Int)≤(c:Int):=by omega
 have him:(i:Int)≤(m:Int):=by omega
 have L6:i+(m - i)=m:=by omega
 have hmc:¬ c=m:=by omega
 rw [hl] at CR;clear qR sE hU pL mR fM ht b8 hg jE l1 ig hl nY Qf;go_enter func168,ntmps168;go_wp2_with fail;go_region_law_o (refine step_append_room rfl (.tmp 22) (.tmp 25) 153 rfl 97 i0 1 underlying153 ud Ht g 0 i c (by simp [Act.eval,Act.put]) A (m - i) (c - (i+1)) (bn (l.drop (i+1))) (by simp [Act.eval,Act.put]) s1.out H5.out s2.out (by omega) s3.out ?_;rw [HW.out,L6])
 go_wp2_with (simp only [ry])
 go_ret;exact ⟨rfl,C2,rfl,HZ.out,HF.out⟩
theorem xE(l:List Lk)(i:Nat)(h:i<l.length):(cC l i).length+1=l.length:=by
 unfold cC;rw [ae,ag,al];omega
theorem oJ(base:Nat)(v:Value)(l:List Lk)(i:Nat)(w:World)(hi:i<l.length)(ho:b9 w base v l):Calls prog 168 #[v,.int .i64 (i:Int),.int .i64 ((i:Int)+1)] w fun e w'=>∃ u,e = .returned u∧b9 w' base u (cC l i)∧Below base w w':=by
 have Y3:=xE l i hi;rcases ho.2 with ⟨_,h0⟩ | ⟨g,c,cur,rfl,hb,hg,CQ,sA,fI,lE⟩
 ·omega
 ·have h:=ym g c l i (cC l i).length w cur (by omega) (by omega) CQ hg (by rw [fI,Nat.mul_one]) (by rw [Nat.mul_one] at lE;exact lE)
  rw [Y3] at h;refine h.mono ?_
  rintro e w' ⟨rfl,fN,rfl,h2,h3⟩;exact ⟨_,rfl,b9.row (l:=cC l i) hb (setRow_heap w.drew g cur fN 97 (0,0) hg) (by omega) sA h2 h3,below_setRow (B.aP (Below.refl _ _)) hb fN⟩
end C
namespace T
open Go.RowKit
variable {b:Nat} {cv:Value} {w:World} {lv pv:Value}
structure SN where
 ps:List Pr
 f:Int
 lk:List B.Lk
 us:List C.Ch
structure dP(w:World)(b:Nat)(n:SN)(pv lv cv:Value):Prop where
 row:B.au w b #[pv,.int .i64 n.f,lv,cv] 155
 iH:gM w pv n.ps
 bn:B.dm w lv n.lk
 kids:C.dm w cv n.us
 fine:(∀ p ∈ n.ps,cQ p=true)∧n.ps.length≤4000∧(∀ p ∈ n.lk,cV p.1)∧n.lk.length≤4000∧n.us.length≤4001
theorem dP.below{w w':World}{b:Nat}{n:SN}{pv lv cv:Value}(h:dP w b n pv lv cv)(hb:Below w.heap.size w w'):dP w' b n pv lv cv :=
 ⟨h.row.below hb,h.iH.below hb,h.bn.below hb,h.kids.below hb,h.fine⟩
theorem dP.c0{n:SN}(h:dP w b n pv lv cv):w.cell? ⟨b,0,none⟩=some pv:=h.row.cell 0 (by simp)
theorem dP.c1{n:SN}(h:dP w b n pv lv cv):w.cell? ⟨b,1,none⟩=some (.int .i64 n.f):=h.row.cell 1 (by simp)
theorem dP.c2{n:SN}(h:dP w b n pv lv cv):w.cell? ⟨b,2,none⟩=some lv:=h.row.cell 2 (by simp)
theorem dP.c3{n:SN}(h:dP w b n pv lv cv):w.cell? ⟨b,3,none⟩=some cv:=h.row.cell 3 (by simp)
theorem cG(b:Nat)(n:SN)(pv lv cv:Value)(w:World)(h:dP w b n pv lv cv):Calls prog 93 #[.pointer (some ⟨b,0,none⟩)] w fun e w'=>e = .returned (.bool (decide (n.us.length=0)))∧w=w':=by
 obtain ⟨a,c,yA⟩:=h.kids.form;subst yA;have p3:=h.c3;obtain ⟨m,hm⟩ : ∃ m,m=n.us.length:=⟨_,rfl⟩;rw [← hm] at p3 ⊢;clear h hm;by_cases h0:m=0
 ·subst h0;go_enter func93,ntmps93;go_wp2;go_ret;exact ⟨rfl,rfl⟩
 ·have hd:decide (m=0)=false:=by simp [h0]
  rw [hd];have h1:((m:Int) == 0)=false:=by simp;omega
  clear hd;go_enter func93,ntmps93;go_wp2;go_ret;exact ⟨rfl,rfl⟩
def SN.sz(n:SN):Nat:=if n.us.length=0 then fB n.ps else B.jy n.lk
theorem OI{l:List B.Lk}(h:∀ p ∈ l,cV p.1):B.jy l≤262*l.length+6:=by
 induction l with
 | nil=>simp [B.jy]
 | cons p l ih =>
  have a:=ih fun q hq=>h q (dU _ hq)
  have b:=(h p dr).2;rw [B.oq,List.length_cons];unfold B.zn;omega
theorem dP.okL{n:SN}(h:dP w b n pv lv cv):SQ n.ps:=fun p hp=>by
 have:=dY (h.fine.1 p hp);omega
theorem dP.uW{n:SN}(h:dP w b n pv lv cv):B.Wj n.lk:=fun p hp=>by
 have:=(h.fine.2.2.1 p hp).2;omega
theorem dP.VE{n:SN}(h:dP w b n pv lv cv):Calls prog 161 #[pv] w fun e w'=>e = .returned (.int .i64 (fB n.ps:Int))∧Below w.heap.size w w':=by
 refine (AO pv n.ps w h.okL (by have:=h.fine.2.1;omega) h.iH).mono fun e w' ⟨h1,h2⟩=>⟨?_,h2⟩
 rw [h1,kS (by have:=wg h.fine.1;have:=h.fine.2.1;omega)]
theorem dP.bsize{n:SN}(h:dP w b n pv lv cv):Calls prog 156 #[.agg #[.int .i64 n.f,lv]] w fun e w'=>e = .returned (.int .i64 (B.jy n.lk:Int))∧Below w.heap.size w w':=by
 refine (B.Bt n.f lv n.lk w h.uW (by have:=h.fine.2.2.2.1;omega) h.bn).mono fun e w' ⟨h1,h2⟩=>⟨?_,h2⟩
 rw [h1,B.kS (by have:=OI h.fine.2.2.1;have:=h.fine.2.2.2.1;omega)]
theorem Dg(b:Nat)(n:SN)(pv lv cv:Value)(w:World)(h:dP w b n pv lv cv)(h0:n.us.length=0):Calls prog 128 #[.pointer (some ⟨b,0,none⟩)] w fun e w'=>e = .returned (.bool (decide (4072<fB n.ps)))∧Below w.heap.size w w':=by
 have HL:=ab (cG b n pv lv cv w h);rw [show decide (n.us.length=0)=true by simp [h0]] at HL
 have HS:=ab h.VE;have p0:=h.c0;have p1:=h.c1;have p2:=h.c2;obtain ⟨x,hx⟩ : ∃ x,x=fB n.ps:=⟨_,rfl⟩;rw [← hx] at HS ⊢;clear h h0 hx;by_cases hb:4072<x
 ·rw [show decide (4072<x)=true by simp [hb]]
  have QU:(4072:Int)<(x:Int):=by omega
  go_enter func128,ntmps128;go_wp2_with fail;refine HL.out.mono ?_
  rintro e w1 ⟨rfl,rfl⟩;go_wp2_with fail;refine HS.out.mono ?_
  rintro e w2 ⟨rfl,aV⟩;have HB:=ab aV;clear aV p0 p1 p2;go_wp2;go_ret;exact ⟨rfl,HB.out⟩
 ·rw [show decide (4072<x)=false by simp [hb]]
  have QU:¬ (4072:Int)<(x:Int):=by omega
  have Ur:decide ((4072:Int)<(x:Int))=false:=decide_eq_false QU;go_enter func128,ntmps128;go_wp2_with fail;refine HL.out.mono ?_
  rintro e w1 ⟨rfl,rfl⟩;go_wp2_with fail;refine HS.out.mono ?_
  rintro e w2 ⟨rfl,aV⟩;have HB:=ab aV;clear aV p0 p1 p2;go_wp2;go_ret;exact ⟨by first | rfl | (show Ending.returned (Value.bool _)=_;rw [Ur]),HB.out⟩
theorem KT(b:Nat)(n:SN)(pv lv cv:Value)(w:World)(h:dP w b n pv lv cv)(h0:¬ n.us.length=0):Calls prog 128 #[.pointer (some ⟨b,0,none⟩)] w fun e w'=>e = .returned (.bool (decide (4072<B.jy n.lk)))∧Below w.heap.size w w':=by
 have HL:=ab (cG b n pv lv cv w h);rw [show decide (n.us.length=0)=false by simp [h0]] at HL
 have HS:=ab h.bsize;have p0:=h.c0;have p1:=h.c1;have p2:=h.c2;obtain ⟨x,hx⟩ : ∃ x,x=B.jy n.lk:=⟨_,rfl⟩;rw [← hx] at HS ⊢;clear h h0 hx;by_cases hb:4072<x
 ·rw [show decide (4072<x)=true by simp [hb]]
  have QU:(4072:Int)<(x:Int):=by omega
  go_enter func128,ntmps128;go_wp2_with fail;refine HL.out.mono ?_
  rintro e w1 ⟨rfl,rfl⟩;go_wp2_with fail;refine HS.out.mono ?_
  rintro e w2 ⟨rfl,aV⟩;have HB:=ab aV;clear aV p0 p1 p2;go_wp2;go_ret;exact ⟨rfl,HB.out⟩
 ·rw [show decide (4072<x)=false by simp [hb]]
  have QU:¬ (4072:Int)<(x:Int):=by omega
  have Ur:decide ((4072:Int)<(x:Int))=false:=decide_eq_false QU;go_enter func128,ntmps128;go_wp2_with fail;refine HL.out.mono ?_
  rintro e w1 ⟨rfl,rfl⟩;go_wp2_with fail;refine HS.out.mono ?_
  rintro e w2 ⟨rfl,aV⟩;have HB:=ab aV;clear aV p0 p1 p2;go_wp2;go_ret;exact ⟨by first | rfl | (show Ending.returned (Value.bool _)=_;rw [Ur]),HB.out⟩
theorem zE(b:Nat)(n:SN)(pv lv cv:Value)(w:World)(h:dP w b n pv lv cv)(h0:n.us.length=0):Calls prog 123 #[.pointer (some ⟨b,0,none⟩)] w fun e w'=>e = .returned (.bool (decide (fB n.ps<1556)))∧Below w.heap.size w w':=by
 have HL:=ab (cG b n pv lv cv w h);rw [show decide (n.us.length=0)=true by simp [h0]] at HL
 have HS:=ab h.VE;have p0:=h.c0;have p1:=h.c1;have p2:=h.c2;obtain ⟨x,hx⟩ : ∃ x,x=fB n.ps:=⟨_,rfl⟩;rw [← hx] at HS ⊢;clear h h0 hx;by_cases hb:x<1556
 ·rw [show decide (x<1556)=true by simp [hb]]
  have QU:(x:Int)<1556:=by omega
  go_enter func123,ntmps123;go_wp2_with fail;refine HL.out.mono ?_
  rintro e w1 ⟨rfl,rfl⟩;go_wp2_with fail;refine HS.out.mono ?_
  rintro e w2 ⟨rfl,aV⟩;have HB:=ab aV;clear aV p0 p1 p2;go_wp2;go_ret;exact ⟨rfl,HB.out⟩
 ·rw [show decide (x<1556)=false by simp [hb]]
  have QU:¬ (x:Int)<1556:=by omega
  have Ur:decide ((x:Int)<1556)=false:=decide_eq_false QU;go_enter func123,ntmps123;go_wp2_with fail;refine HL.out.mono ?_
  rintro e w1 ⟨rfl,rfl⟩;go_wp2_with fail;refine HS.out.mono ?_
  rintro e w2 ⟨rfl,aV⟩;have HB:=ab aV;clear aV p0 p1 p2;go_wp2;go_ret;exact ⟨by first | rfl | (show Ending.returned (Value.bool _)=_;rw [Ur]),HB.out⟩
theorem Df(b:Nat)(n:SN)(pv lv cv:Value)(w:World)(h:dP w b n pv lv cv)(h0:¬ n.us.length=0):Calls prog 123 #[.pointer (some ⟨b,0,none⟩)] w fun e w'=>e = .returned (.bool (decide (B.jy n.lk<1777)))∧Below w.heap.size w w':=by
 have HL:=ab (cG b n pv lv cv w h);rw [show decide (n.us.length=0)=false by simp [h0]] at HL
 have HS:=ab h.bsize;have p0:=h.c0;have p1:=h.c1;have p2:=h.c2;obtain ⟨x,hx⟩ : ∃ x,x=B.jy n.lk:=⟨_,rfl⟩;rw [← hx] at HS ⊢;clear h h0 hx;by_cases hb:x<1777
 ·rw [show decide (x<1777)=true by simp [hb]]
  have QU:(x:Int)<1777:=by omega
  go_enter func123,ntmps123;go_wp2_with fail;refine HL.out.mono ?_
  rintro e w1 ⟨rfl,rfl⟩;go_wp2_with fail;refine HS.out.mono ?_
  rintro e w2 ⟨rfl,aV⟩;have HB:=ab aV;clear aV p0 p1 p2;go_wp2;go_ret;exact ⟨rfl,HB.out⟩
 ·rw [show decide (x<1777)=false by simp [hb]]
  have QU:¬ (x:Int)<1777:=by omega
  have Ur:decide ((x:Int)<1777)=false:=decide_eq_false QU;go_enter func123,ntmps123;go_wp2_with fail;refine HL.out.mono ?_
  rintro e w1 ⟨rfl,rfl⟩;go_wp2_with fail;refine HS.out.mono ?_
  rintro e w2 ⟨rfl,aV⟩;have HB:=ab aV;clear aV p0 p1 p2;go_wp2;go_ret;exact ⟨by first | rfl | (show Ending.returned (Value.bool _)=_;rw [Ur]),HB.out⟩
theorem qy(b:Nat)(n:SN)(pv lv cv:Value)(w:World)(h:dP w b n pv lv cv):Calls prog 128 #[.pointer (some ⟨b,0,none⟩)] w fun e w'=>e = .returned (.bool (decide (4072<n.sz)))∧Below w.heap.size w w':=by
 unfold SN.sz;by_cases h0:n.us.length=0
 ·rw [if_pos h0];exact Dg b n pv lv cv w h h0
 ·rw [if_neg h0];exact KT b n pv lv cv w h h0
def SN.min(n:SN):Nat:=if n.us.length=0 then 1556 else 1777
theorem mW(b:Nat)(n:SN)(pv lv cv:Value)(w:World)(h:dP w b n pv lv cv):Calls prog 123 #[.pointer (some ⟨b,0,none⟩)] w fun e w'=>e = .returned (.bool (decide (n.sz<n.min)))∧Below w.heap.size w w':=by
 unfold SN.sz SN.min;by_cases h0:n.us.length=0
 ·rw [if_pos h0,if_pos h0];exact zE b n pv lv cv w h h0
 ·rw [if_neg h0,if_neg h0];exact Df b n pv lv cv w h h0
def SR(w:World)(n:SN)(e:Ending)(w':World):Prop:=∃ b pv lv cv,e = .returned (.pointer (some ⟨b,0,none⟩))∧dP w' b n pv lv cv∧Below w.heap.size w w'
theorem sC{base:Nat}{v:Value}{l:List C.Ch}(h:C.b9 w base v l)(hl:0<l.length):∃ g c,v = .slice (some ⟨g,0,none⟩) l.length c∧base≤g∧g<w.heap.size:=by
 rcases h.2 with ⟨_,h0⟩ | ⟨g,c,cur,hv,hb,hg,_⟩
 ·omega
 ·exact ⟨g,c,hv,hb,(Array.getElem?_eq_some_iff.1 hg).1⟩
theorem mV(b:Nat)(n:SN)(pv lv cv:Value)(i:Nat)(p:C.Ch)(w:World)(h:dP w b n pv lv cv)(hi:i<n.us.length):Calls prog 125 #[.pointer (some ⟨b,0,none⟩),.int .i64 (i:Int),p.val] w fun e w'=>SR w ⟨[],n.f,n.lk,n.us.set i p⟩ e w':=by
 have hf:=h.fine;have HC:=ab (C.eN cv n.us w (by omega) h.kids)
 have p3:=h.c3;have bQ:b<w.heap.size:=h.row.lt;have HH:=ab h;obtain ⟨pp,H8⟩ : ∃ x,x=p.val:=⟨_,rfl⟩;have ER:pp.oneCell'=true:=by rw [H8];exact C.val_one p
 have HP:=ab H8;rw [← H8];clear h H8;obtain ⟨t,x,hx⟩ : ∃ t x,pp = .iface t x:=by
  rw [HP.out];cases p
  ·exact ⟨_,_,rfl⟩
  ·exact ⟨_,_,rfl⟩
 subst hx;obtain ⟨m,hm⟩ : ∃ m,m=n.us.length:=⟨_,rfl⟩;have HM:=ab hm;rw [← hm] at hi hf;clear hm;go_enter func125,ntmps125;go_wp2_with fail;refine HC.out.mono ?_
 rintro e w1 ⟨u,rfl,ho,aO⟩;obtain ⟨g,c,hu,fM,zZ⟩:=sC ho (by rw [← HM.out];omega)
 subst hu;have jf:w1.ownsRow w.heap.size 97 1 (.slice (some ⟨g,0,none⟩) n.us.length c) n.us.length (C.bn n.us):=ho;obtain ⟨o1,z1⟩ : ∃ y,w1.cell? ⟨g,i,none⟩=some y:=⟨_,(World.ownsRow.cellAt jf i (by rw [← HM.out];omega)).trans (C.gI n.us i (by rw [← HM.out];exact hi))⟩
 have z2:w1.frozen? ⟨g,i,none⟩=false:=World.ownsRow.frozenAt jf _;have eZ:=(World.ownsRow.stored jf i (.iface t x)).1;have zU:(C.bn n.us).set i (.iface t x)=C.bn (n.us.set i p):=by
  unfold C.bn;rw [HP.out,List.map_set]
 rw [zU] at eZ;have QS:=aO.setCell (p:=⟨g,i,none⟩) fM (.iface t x);have cY:¬ b=g:=by omega
 have q1:w1.cell? ⟨b,1,none⟩=some (.int .i64 n.f):=(HH.out.below aO).c1;have q2:w1.cell? ⟨b,2,none⟩=some lv:=(HH.out.below aO).c2;have SL:=HH.out.below QS;have q:=ai (w1.setCell ⟨g,i,none⟩ (.iface t x)) (.cells #[.slice none 0 0,.int .i64 n.f,lv,.slice (some ⟨g,0,none⟩) n.us.length c] 155);have xr:=B.au.new (w1.setCell ⟨g,i,none⟩ (.iface t x)) #[.slice none 0 0,.int .i64 n.f,lv,.slice (some ⟨g,0,none⟩) n.us.length c] 155;have cz:Hid (dP ((w1.setCell ⟨g,i,none⟩ (.iface t x)).alloc (.cells #[.slice none 0 0,.int .i64 n.f,lv,.slice (some ⟨g,0,none⟩) n.us.length c] 155)) (w1.setCell ⟨g,i,none⟩ (.iface t x)).heap.size ⟨[],n.f,n.lk,n.us.set i p⟩ (.slice none 0 0) lv (.slice (some ⟨g,0,none⟩) n.us.length c)):=by
  refine ⟨xr,gM.nil _,SL.bn.below q,?_,?_⟩
  ·have:C.b9 (w1.setCell ⟨g,i,none⟩ (.iface t x)) w.heap.size (.slice (some ⟨g,0,none⟩) n.us.length c) (n.us.set i p):=by
    unfold C.b9;rw [bI];exact eZ
   exact (this.below q).at
  ·have hf:=HH.out.fine;exact ⟨(fun p hp=>by simp at hp),by simp,hf.2.2.1,hf.2.2.2.1,by rw [bI];exact hf.2.2.2.2⟩
 have mU:=ab (QS.alloc (B:=w.heap.size) (by have:=QS.size;exact this) (.cells #[.slice none 0 0,.int .i64 n.f,lv,.slice (some ⟨g,0,none⟩) n.us.length c] 155))
 obtain ⟨la,lc,pW⟩:=SL.bn.form;rw [← HM.out] at cz mU ⊢;have aax:(w1.setCell ⟨g,i,none⟩ (.iface t x)).heap.size=w1.heap.size:=by simp
 rw [aax] at cz;have hiI:(i:Int)<(m:Int):=by omega
 have ud:(0:Int)≤(i:Int):=by omega
 clear HC p3 ho jf eZ zU QS SL q xr pW aax;go_wp2;go_ret;exact ⟨_,_,_,_,rfl,cz.out,mU.out⟩
end T
namespace B
open Go.RowKit Go.Lib
theorem ye(l:List Lk)(i:Nat):bn (l.take i)=(bn l).take (i*2):=by
 induction l generalizing i with
 | nil=>simp [bn]
 | cons p l ih =>
  cases i with
  | zero=>simp [bn]
  | succ i=>rw [List.take_succ_cons,eB,eB,ih,show (i+1)*2=i*2+1+1 by omega,List.take_succ_cons,List.take_succ_cons]
theorem PS(l:List Lk)(i:Nat):bn (l.drop i)=(bn l).drop (i*2):=by
 induction l generalizing i with
 | nil=>simp [bn]
 | cons p l ih =>
  cases i with
  | zero=>simp
  | succ i=>rw [List.drop_succ_cons,eB,ih,show (i+1)*2=i*2+1+1 by omega,List.drop_succ_cons,List.drop_succ_cons]
theorem ee{P:Program}(w:World)(dT sT ty elem:TypeId)(g o IB Ya:Nat)(a:Addr)(GM WT:Nat)(cur:Array Value)(t:TypeId)(cs:List Value)(hu:P.underlying dT=some (.slice elem))(hs:(P.info? elem).map (·.size)=some 2)(hg:w.heap[g]?=some (.cells cur t (0,0)))(hn:cs.length=Nat.min GM IB*2)(H5:∀ j v,cs[j]?=some v→w.cell? (a.add j)=some v)(eF:o+cs.length≤cur.size)(h1:∀ v ∈ cs,v.oneCell'=true):(Builtin.copy_ #[dT,sT] ty #[.slice (some ⟨g,o,none⟩) IB Ya,.slice (some a) GM WT]).run P w = .ok (goInt (Nat.min GM IB)) (w.setRow g (cur.toList.take o++cs++cur.toList.drop (o+cs.length)).toArray):=by
 have hl:=run_loadCells_list (P:=P) w a cs H5;have eZ:=run_storeCells_at P g o t cs 0 cur w hg (by simpa using eF) h1
 cases hq:P.info? elem with
 | none=>simp [hq] at hs
 | some i =>
  have hi:i.size=2:=by simpa [hq] using hs
  simp [Builtin.copy_,run_underlying hu,Builtin.lenOf,Builtin.firstCells,sizeOf,typeInfo,hq,hi,← hn,hl,eZ]
theorem lf{P:Program}(w:World)(t e ty:TypeId)(x y:Value)(ht:P.underlying t=some (.slice e))(hv:∀ w,(zeroValue e).run P w = .ok (.agg #[x,y]) w)(hx:x.oneCell'=true)(hy:y.oneCell'=true)(g o c:Nat)(cur:Array Value)(tt:TypeId)(hg:w.heap[g]?=some (.cells cur tt (0,0)))(eF:o+2≤cur.size):(Builtin.clear_ #[t] ty #[.slice (some ⟨g,o,none⟩) 1 c]).run P w = .ok (.tuple #[]) (w.setRow g (cur.toList.take o++[x,y]++cur.toList.drop (o+2)).toArray):=by
 have YV:(Builtin.zeroCells (Value.agg #[x,y]).cells 1).toList=[x,y]:=by
  have:(Value.agg #[x,y]).cells=#[x,y]:=rfl;rw [this];simp [Builtin.zeroCells,Array.range]
 have eZ:=run_storeCells_at P g o tt [x,y] 0 cur w hg (by simpa using eF) (by intro v T9;simp at T9;rcases T9 with rfl | rfl <;> assumption)
 simp [Builtin.clear_,run_underlying ht,hv,YV,eZ]
theorem yj(base:Nat)(v:Value)(l:List Lk)(vb:Nat)(p:Lk)(w:World)(hm:l.length≤5864062014800)(ho:b9 w base v l)(dd:base≤w.heap.size)(hv:dm w (.slice (some ⟨vb,0,none⟩) 1 1) [p]):Calls prog 231 #[v,.int .i64 (l.length:Int),.slice (some ⟨vb,0,none⟩) 1 1] w fun e w'=>∃ u,e = .returned u∧b9 w' base u (l++[p])∧Below base w w':=by
 obtain ⟨a',c',w1,bw,aE,hg⟩:=fs base v _ l [p] w ho hv (by simp;omega) dd
 have aO:Below base w w1:=(Below.refl base w).grown hg dd (fun k hk=>(ho.dx k hk).1)
 have HO:=ab aE;have HB:=ab aO;have dj:∃ a c,v = .slice a l.length c∧l.length≤c:=by
  obtain ⟨a,c,rfl,hle,_⟩:=ho.at;exact ⟨a,c,rfl,hle⟩
 obtain ⟨a,c,rfl,hle⟩:=dj;rw [show ([p] : List Lk).length=1 from rfl] at bw
 obtain ⟨n,hn⟩ : ∃ n,n=l.length:=⟨_,rfl⟩;rw [← hn] at bw hle hm ⊢;have HN:=ab hn;clear aE hg aO ho hv hn;by_cases ue:c=n
 ·go_enter func231,ntmps231;go_wp2_with (first | (at_builtin;refine wpList_append_run 148 rfl (.tmp 23) (.tmp 24) rfl rfl _ _ rfl rfl _ _ bw ?_))
  clear bw;go_ret;exact ⟨_,rfl,by have:=HO.out;rwa [show l.length + [p].length=n+1 by rw [HN.out];rfl] at this,HB.out⟩
 ·go_enter func231,ntmps231;go_wp2_with (first | (at_builtin;refine wpList_append_run 148 rfl (.tmp 23) (.tmp 24) rfl rfl _ _ rfl rfl _ _ bw ?_))
  clear bw;go_ret;exact ⟨_,rfl,by have:=HO.out;rwa [show l.length + [p].length=n+1 by rw [HN.out];rfl] at this,HB.out⟩
theorem gU{w:World}{g:Nat}{cur:Array Value}{t:TypeId}{l:List Lk}(hg:w.heap[g]?=some (.cells cur t (0,0)))(ht:cur.toList.take (l.length*2)=bn l)(i:Nat):∀ j u,(bn (l.drop i))[j]?=some u→w.cell? ⟨g,i*2+j,none⟩=some u:=by
 intro j u h;rw [PS,← ht,bZ,cO] at h;split at h
 ·rw [Array.getElem?_toList] at h;simp [World.cell?,hg,h]
 ·cases h
theorem Po(w:World)(g vb i n1 c1:Nat)(cur vs:Array Value)(tA tB:TypeId)(cY:vb≠g)(hg:w.heap[g]?=some (.cells cur tA (0,0)))(hv:w.heap[vb]?=some (.cells vs tB (0,0)))(h0:cur.size≠0):(callFunc 251 #[.slice (some ⟨vb,0,none⟩) 1 1,.slice (some ⟨g,i,none⟩) n1 c1]).run prog w = .ok (.value (.bool false)) w:=by
 rw [run_callFunc_extern func251 (by kernel_rfl) (by kernel_rfl) (by kernel_rfl) (e:=Extern.SlicesOverlaps.overlaps #[148,148] #[4]) (by kernel_rfl),
  Lib.run_overlaps_apart w 148 4 179 underlying148 2 sizeOf179 ⟨vb,0,none⟩ ⟨g,i,none⟩ 1 1 n1 c1 cY tB tA vs.size cur.size (by simp [World.shape?,hv]) (by simp [World.shape?,hg]) h0 (by simp [World.frozen?,hv]) (by simp [World.frozen?,hv])]
 rfl
theorem tQ(g c:Nat)(l:List Lk)(i vb:Nat)(p:Lk)(w:World)(cur:Array Value)(hi:i<l.length)(aff:c≤9223372036854775807)(eb:l.length+1≤c)(hg:w.heap[g]?=some (.cells cur 179 (0,0)))(b8:cur.size=c*2)(ht:cur.toList.take (l.length*2)=bn l)(hv:w.heap[vb]?=some (.cells #[.string p.1,.int .i64 p.2] 179 (0,0)))(cY:vb≠g):Calls prog 231 #[.slice (some ⟨g,0,none⟩) l.length c,.int .i64 (i:Int),.slice (some ⟨vb,0,none⟩) 1 1] w fun e w'=>e = .returned (.slice (some ⟨g,0,none⟩) (l.length+1) c)∧∃ fN:Array Value,w'=w.drew.setRow g fN∧fN.size=c*2∧fN.toList.take ((l.length+1)*2)=bn (dJ l i p):=by
 obtain ⟨n,hn⟩ : ∃ n,n=l.length:=⟨_,rfl⟩;have hov:=fun j n1 c1=>Po w g vb j n1 c1 cur _ _ _ cY hg hv (by omega)
 have iL:(prog.info? 179).map (·.size)=some 2:=by kernel_rfl
 have jE:(bn (l.drop i)).length=(n - i)*2:=by rw [aU,al,hn]
 obtain ⟨C1,qR⟩ : ∃ C:Array Value,C=(cur.toList.take ((i+1)*2)++bn (l.drop i)++cur.toList.drop ((i+1)*2+(bn (l.drop i)).length)).toArray:=⟨_,rfl⟩;have mR:C1.size=c*2:=by rw [qR];simp [jE,b8];omega
 obtain ⟨C2,sE⟩ : ∃ C:Array Value,C=(C1.toList.take (i*2)++bn [p]++C1.toList.drop (i*2+(bn [p]).length)).toArray:=⟨_,rfl⟩;have pL:C2.size=c*2:=by rw [sE];simp [bn,mR];omega
 have hU:C2.toList.take ((n+1)*2)=bn (dJ l i p):=by
  have e1:cur.toList.take (i*2)=bn (l.take i):=by
   rw [ye,← ht,gS,aT (by omega)]
  have l1:(bn (l.take i)).length=i*2:=by rw [aU,ag];omega
  have e2:C1.toList.take (i*2)=bn (l.take i):=by
   rw [qR,List.toList_toArray,ay,aH (by simp [b8];omega),gS,aT (by omega),e1]
  have e3:C1.toList.drop (i*2+(bn [p]).length)=bn (l.drop i)++cur.toList.drop ((i+1)*2+(bn (l.drop i)).length):=by
   rw [qR,List.toList_toArray,ay,ij (by simp [b8,bn];omega),dC (by simp [b8,bn];omega)]
   rfl
  rw [sE,List.toList_toArray,e2,e3,dJ,di,show p::l.drop i=[p]++l.drop i from rfl,di,← ay,← ay,aH (by simp only [ae,jE,l1,aU,aQ];omega),ao (by simp only [ae,jE,l1,aU,aQ];omega)]
 have XR:∀ ty dc sc,(Builtin.copy_ #[148,148] ty #[.slice (some ⟨g,(i+1)*2,none⟩) (n - i) dc,.slice (some ⟨g,i*2,none⟩) (n+1 - i) sc]).run prog w.drew = .ok (goInt (Nat.min (n+1 - i) (n - i))) (w.drew.setRow g C1):=fun ty dc sc=>by
  rw [qR];exact ee w.drew 148 148 ty 179 g ((i+1)*2) (n - i) dc ⟨g,i*2,none⟩ (n+1 - i) sc cur 179 (bn (l.drop i)) underlying148 iL hg (by rw [jE];simp only [kJ];split <;> omega) (fun j u hj=>by rw [bh];exact gU hg ht i j u hj) (by rw [jE,b8];omega) (fW _)
 have fM:(w.drew.setRow g C1).heap[g]?=some (.cells C1 179 (0,0)):=setRow_heap w.drew g cur C1 179 (0,0) hg;have fD:(w.drew.setRow g C1).heap[vb]?=some (.cells #[.string p.1,.int .i64 p.2] 179 (0,0)):=(setRow_other w.drew g vb C1 cY).trans hv;have XQ:∀ ty dc,(Builtin.copy_ #[148,148] ty #[.slice (some ⟨g,i*2,none⟩) (n+1 - i) dc,.slice (some ⟨vb,0,none⟩) 1 1]).run prog (w.drew.setRow g C1) = .ok (goInt (Nat.min 1 (n+1 - i))) (w.drew.setRow g C2):=fun ty dc=>by
  have h:=ee (w.drew.setRow g C1) 148 148 ty 179 g (i*2) (n+1 - i) dc ⟨vb,0,none⟩ 1 1 C1 179 (bn [p]) underlying148 iL fM (by simp only [aU,aQ,kJ];split <;> omega) (fun j u hj=>by
   rw [bh];have lY:(#[.string p.1,.int .i64 p.2] : Array Value)[j]?=some u:=by simpa [bn] using hj
   simp [World.cell?,fD,lY]) (by simp [bn,mR];omega) (fW _)
  rw [h,sE,setRow_setRow]
 have HF:=ab hU;have HZ:=ab pL;have mixed:prog.follows Departure.mixedOrders=true:=by kernel_rfl
 have mR:¬ ((i:Int)=(n:Int)):=by omega
 have sS:IntKind.i64.wrap ((i:Int)+1)=(i:Int)+1:=by rw [IntKind.wrap_i64];omega
 have Sw:IntKind.i64.wrap ((n:Int)+1)=(n:Int)+1:=by rw [IntKind.wrap_i64];omega
 have Y1:((i:Int)+1).toNat=i+1:=by omega
 have aew:((n:Int)+1).toNat=n+1:=by omega
 have aO:(0:Int)≤(i:Int)+1:=by omega
 have aV:¬ (c=i+1):=by omega
 have fS:¬ (c=i):=by omega
 have Ie:(i:Int)≤(n:Int):=by omega
 have bW:(i:Int)≤(n:Int)+1:=by omega
 have XM:i≤n:=by omega
 have ae1:i+1≤n+1:=by omega
 rw [← hn] at eb ⊢;clear qR sE hU pL jE fM fD ht b8 hg hv hn hi;go_enter func231,ntmps231;go_wp2_with (simp only [hov])
 go_region_law_o (refine step_copy_runI rfl _ _ 148 148 rfl _ _ (by simp [Act.eval,Act.put]) (by simp [Act.eval,Act.put]) (XR _ _ _) ?_)
 go_wp2_with (at_builtin;refine wpList_copy_runI _ rfl _ _ 148 148 rfl _ _ rfl rfl (XQ _ _) ?_)
 go_ret;exact ⟨rfl,C2,rfl,HZ.out,HF.out⟩
theorem wW(x y:Value)(k:Nat):(Builtin.zeroCells (Value.agg #[x,y]).cells k).size=k*2:=by
 have:(Value.agg #[x,y]).cells=#[x,y]:=rfl;simp [Builtin.zeroCells,this]
theorem tR(g c:Nat)(l:List Lk)(i vb:Nat)(p:Lk)(w:World)(cur:Array Value)(hi:i<l.length)(hm:l.length≤5864062014800)(CR:l.length≤c)(eb:c<l.length+1)(hg:w.heap[g]?=some (.cells cur 179 (0,0)))(ht:cur.toList.take (l.length*2)=bn l)(hv:w.heap[vb]?=some (.cells #[.string p.1,.int .i64 p.2] 179 (0,0))):Calls prog 231 #[.slice (some ⟨g,0,none⟩) l.length c,.int .i64 (i:Int),.slice (some ⟨vb,0,none⟩) 1 1] w fun e w'=>∃ G:Nat,e = .returned (.slice (some ⟨w.heap.size,0,none⟩) (l.length+1) G)∧l.length+1≤G∧G≤maxLen∧∃ fN:Array Value,w'.heap[w.heap.size]?=some (.cells fN 179 (0,0))∧Below w.heap.size w w'∧fN.size=G*2∧fN.toList.take ((l.length+1)*2)=bn (dJ l i p):=by
 obtain ⟨n,hn⟩ : ∃ n,n=l.length:=⟨_,rfl⟩;obtain ⟨i0,ud,nY,Ht,Qf⟩:=info_parts lL;have iL:(prog.info? 179).map (·.size)=some 2:=by rw [ud];simp [Ht]
 have QG:g<w.heap.size:=(Array.getElem?_eq_some_iff.1 hg).1;have hvw:vb<w.heap.size:=(Array.getElem?_eq_some_iff.1 hv).1;have jE:(bn (l.drop i)).length=(n - i)*2:=by rw [aU,al,hn]
 have l1:(bn (l.take i)).length=i*2:=by rw [aU,ag];omega
 have SF:(n:Int)+1 - (i:Int)=((n+1 - i:Nat):Int):=by omega
 have SH:i+(n+1 - i)=n+1:=by omega
 have hold:(Builtin.firstCells i0.size i (.slice (some ⟨g,0,none⟩) i c)).run prog w.drew = .ok (bn (l.take i)).toArray w.drew:=by
  rw [Ht];refine run_firstCells_some w.drew 2 i ⟨g,0,none⟩ i c (bn (l.take i)) l1 (fun j v hj=>?_)
  rw [bh,Nat.zero_add];rw [ye,cO] at hj;split at hj
  ·have:=gU hg ht 0 j v (by simpa using hj)
   simpa using this
  ·cases hj
 obtain ⟨G,hG⟩ : ∃ G,G=grownCap w (n+1) c 179:=⟨_,rfl⟩;obtain ⟨R,hR⟩ : ∃ R:Array Value,R=(bn (l.take i)).toArray++Builtin.zeroCells (Value.agg #[.string ByteArray.empty,.int .i64 0]).cells (n+1 - i)++Builtin.zeroCells (Value.agg #[.string ByteArray.empty,.int .i64 0]).cells (G - (n+1)):=⟨_,rfl⟩;have Xv:∀ ty,(Builtin.append_ #[148,3] ty #[.slice (some ⟨g,0,none⟩) i c,.int .i64 ((n:Int)+1 - (i:Int))]).run prog w =
   .ok (.slice (some ⟨w.heap.size,0,none⟩) (n+1) G) (w.drew.alloc (.cells R 179)):=fun ty=>by
  have h:=Lib.run_append_grow_zeros w 148 3 ty 179 i0 _ .i64 .i64 underlying148 underlying3 ud nY (some ⟨g,0,none⟩) i c (bn (l.take i)) hold (n+1 - i) (by omega) (by omega) (by omega) (by omega) (by rw [Qf];omega) (by rw [Qf,SH];exact growslice_fits (by omega) (by omega))
  rw [SH] at h;rw [SF,hR,hG];exact h
 have hGn:n+1≤G:=by rw [hG];exact grownCap_ge w _ _ _
 have X0:G≤maxLen:=by rw [hG];exact grownCap_le_maxLen w (n+1) c 179 (by unfold maxLen;omega)
 have XY:R.size=G*2:=by
  rw [hR,ew,ew,wW,wW];simp [l1];omega
 obtain ⟨W1,ig⟩ : ∃ W1,W1=w.drew.alloc (.cells R 179):=⟨_,rfl⟩;have J9:W1.heap[w.heap.size]?=some (.cells R 179 (0,0)):=by rw [ig];exact heap_alloc_new w.drew _
 have Gk:Below w.heap.size w W1:=by rw [ig];exact (aP (Below.refl _ _)).alloc (aj _) _
 have fM:W1.heap[g]?=some (.cells cur 179 (0,0)):=(Gk.block g QG).trans hg;have fD:W1.heap[vb]?=some (.cells #[.string p.1,.int .i64 p.2] 179 (0,0)):=(Gk.block vb hvw).trans hv;rw [← ig] at Xv;obtain ⟨C1,qR⟩ : ∃ C:Array Value,C=(R.toList.take (i*2)++bn [p]++R.toList.drop (i*2+(bn [p]).length)).toArray:=⟨_,rfl⟩;have mR:C1.size=G*2:=by rw [qR];simp [bn,XY];omega
 obtain ⟨C2,sE⟩ : ∃ C:Array Value,C=(C1.toList.take ((i+1)*2)++bn (l.drop i)++C1.toList.drop ((i+1)*2+(bn (l.drop i)).length)).toArray:=⟨_,rfl⟩;have pL:C2.size=G*2:=by rw [sE];simp [jE,mR];omega
 have hU:C2.toList.take ((n+1)*2)=bn (dJ l i p):=by
  have e0:R.toList.take (i*2)=bn (l.take i):=by
   rw [hR,b7,b7,List.toList_toArray,ay,aH (by omega),ao (by omega)]
  have e1:C1.toList.take ((i+1)*2)=bn (l.take i)++bn [p]:=by
   rw [qR,List.toList_toArray,e0,aH (by simp only [ae,l1,aU,aQ];omega),ao (by simp only [ae,l1,aU,aQ];omega)]
  rw [sE,List.toList_toArray,e1,dJ,di,show p::l.drop i=[p]++l.drop i from rfl,di,← ay,aH (by simp only [ae,jE,l1,aU,aQ];omega),ao (by simp only [ae,jE,l1,aU,aQ];omega)]
 have XE:vb≠w.heap.size:=by omega
 have Ck:g≠w.heap.size:=by omega
 have QP:∀ ty dc,(Builtin.copy_ #[148,148] ty #[.slice (some ⟨w.heap.size,i*2,none⟩) (n+1 - i) dc,.slice (some ⟨vb,0,none⟩) 1 1]).run prog W1 = .ok (goInt (Nat.min 1 (n+1 - i))) (W1.setRow w.heap.size C1):=fun ty dc=>by
  rw [qR];exact ee W1 148 148 ty 179 w.heap.size (i*2) (n+1 - i) dc ⟨vb,0,none⟩ 1 1 R 179 (bn [p]) underlying148 iL J9 (by simp only [aU,aQ,kJ];split <;> omega) (fun j u hj=>by
   rw [bh];have lY:(#[.string p.1,.int .i64 p.2] : Array Value)[j]?=some u:=by simpa [bn] using hj
   simp [World.cell?,fD,lY]) (by simp [bn,XY];omega) (fW _)
 have J8:(W1.setRow w.heap.size C1).drew.heap[w.heap.size]?=some (.cells C1 179 (0,0)):=setRow_heap W1 w.heap.size R C1 179 (0,0) J9;have zZ:(W1.setRow w.heap.size C1).drew.heap[g]?=some (.cells cur 179 (0,0)):=(setRow_other W1 w.heap.size g C1 Ck).trans fM;have QO:∀ ty dc sc,(Builtin.copy_ #[148,148] ty #[.slice (some ⟨w.heap.size,(i+1)*2,none⟩) (n - i) dc,.slice (some ⟨g,i*2,none⟩) (n - i) sc]).run prog (W1.setRow w.heap.size C1).drew = .ok (goInt (Nat.min (n - i) (n - i))) ((W1.setRow w.heap.size C1).drew.setRow w.heap.size C2):=fun ty dc sc=>by
  rw [sE];exact ee (W1.setRow w.heap.size C1).drew 148 148 ty 179 w.heap.size ((i+1)*2) (n - i) dc ⟨g,i*2,none⟩ (n - i) sc C1 179 (bn (l.drop i)) underlying148 iL J8 (by rw [jE];simp only [kJ];split <;> omega) (fun j u hj=>by rw [bh];exact gU zZ ht i j u hj) (by rw [jE,mR];omega) (fW _)
 have QW:((W1.setRow w.heap.size C1).drew.setRow w.heap.size C2).heap[w.heap.size]?=some (.cells C2 179 (0,0)):=setRow_heap (W1.setRow w.heap.size C1).drew w.heap.size C1 C2 179 (0,0) J8;have Uz:Below w.heap.size w ((W1.setRow w.heap.size C1).drew.setRow w.heap.size C2):=below_setRow (aP (below_setRow Gk (aj _) C1)) (aj _) C2;obtain ⟨s,hs⟩ : ∃ s,s=w.heap.size:=⟨_,rfl⟩;rw [← hs] at Xv QP QO QW Uz ⊢;have HF:=ab hU;have HZ:=ab pL;have ZA:=ab QW;have eH:=ab Uz;have HG:=ab X0;have mixed:prog.follows Departure.mixedOrders=true:=by kernel_rfl
 have afC:G≤9223372036854775807:=by unfold maxLen at X0;omega
 have Qq:¬ ((i:Int)=(n:Int)):=by omega
 have sS:IntKind.i64.wrap ((i:Int)+1)=(i:Int)+1:=by rw [IntKind.wrap_i64];omega
 have Sw:IntKind.i64.wrap ((n:Int)+1)=(n:Int)+1:=by rw [IntKind.wrap_i64];omega
 have NL:IntKind.i64.wrap ((n:Int)+1 - (i:Int))=(n:Int)+1 - (i:Int):=by rw [IntKind.wrap_i64];omega
 have Y1:((i:Int)+1).toNat=i+1:=by omega
 have aO:(0:Int)≤(i:Int)+1:=by omega
 have bW:(i:Int)≤(n:Int)+1:=by omega
 have aV:¬ (G=i+1):=by omega
 have my:¬ (G=i):=by omega
 have fS:¬ (c=i):=by omega
 have Ie:(i:Int)≤(n:Int):=by omega
 have XM:i≤n:=by omega
 have Zb:(i:Int)≤(c:Int):=by omega
 have hcr:(c:Int)<(n:Int)+1:=by omega
 rw [← hn] at eb ⊢;clear qR sE hU pL mR jE fM fD zZ J9 J8 QW Gk Uz ht hg hv hi l1 SF SH hold XY hR hG QG hvw ud nY Ht Qf iL hn X0 XE Ck ig hs;go_enter func231,ntmps231;go_wp2_with (first
  | (at_builtin;refine Lib.wpList_append_run _ rfl _ _ _ _ rfl _ _ rfl rfl _ _ (Xv _) ?_)
  | (at_builtin;refine wpList_copy_runI _ rfl _ _ 148 148 rfl _ _ rfl rfl (QP _ _) ?_))
 go_region_law_o (refine step_copy_runI rfl _ _ 148 148 rfl _ _ (by simp [Act.eval,Act.put]) (by simp [Act.eval,Act.put]) (QO _ _ _) ?_)
 go_wp2;go_ret;exact ⟨G,rfl,hGn,HG.out,C2,ZA.out,eH.out,HZ.out,HF.out⟩
theorem b9.row{w:World}{base g c:Nat}{l:List Lk}{cur:Array Value}(hb:base≤g)(hg:w.heap[g]?=some (.cells cur 179 (0,0)))(CR:l.length≤c)(hc:c≤maxLen)(hs:cur.size=c*2)(ht:cur.toList.take (l.length*2)=bn l):b9 w base (.slice (some ⟨g,0,none⟩) l.length c) l :=
 ⟨aU l,.inr ⟨g,c,cur,rfl,hb,hg,CR,hc,hs,ht⟩⟩
theorem eX(l:List Lk)(i:Nat)(p:Lk)(h:i≤l.length):(dJ l i p).length=l.length+1:=by
 unfold dJ;rw [ae,List.length_cons,ag,al];omega
theorem yp(l:List Lk)(p:Lk):dJ l l.length p=l++[p]:=by simp [dJ]
theorem oI(base:Nat)(v:Value)(l:List Lk)(i vb:Nat)(p:Lk)(w:World)(hm:l.length≤5864062014800)(hi:i≤l.length)(ho:b9 w base v l)(dd:base≤w.heap.size)(hv:au w vb #[.string p.1,.int .i64 p.2] 179)(cY:v.ownBlock≠some vb):Calls prog 231 #[v,.int .i64 (i:Int),.slice (some ⟨vb,0,none⟩) 1 1] w fun e w'=>∃ u,e = .returned u∧b9 w' base u (dJ l i p)∧Below base w w':=by
 by_cases Ie:i=l.length
 ·subst Ie;rw [yp];refine yj base v l vb p w hm ho dd ⟨_,_,rfl,aj _,fun h=>(by cases h),fun j hj=>⟨_,_,rfl,?_,?_⟩⟩
  ·have:j=0:=by simpa using hj
   subst this;exact hv.c0
  ·have:j=0:=by simpa using hj
   subst this;exact hv.c1
 ·have bO:i<l.length:=by omega
  rcases ho.2 with ⟨_,h0⟩ | ⟨g,c,cur,rfl,hb,hg,CQ,sA,fI,lE⟩
  ·omega
  ·by_cases hr:l.length+1≤c
   ·refine (tQ g c l i vb p w cur bO (by unfold maxLen at sA;omega) hr hg fI lE hv (fun h=>cY (by rw [h];rfl))).mono ?_
    rintro e w' ⟨rfl,fN,rfl,h2,h3⟩;refine ⟨_,rfl,?_,below_setRow (aP (Below.refl _ _)) hb fN⟩;have:=b9.row (l:=dJ l i p) hb (setRow_heap w.drew g cur fN 179 (0,0) hg) (by rw [eX l i p hi];exact hr) sA h2 (by rw [eX l i p hi];exact h3)
    rwa [eX l i p hi] at this
   ·refine (tR g c l i vb p w cur bO hm CQ (by omega) hg lE hv).mono ?_
    rintro e w' ⟨G,rfl,h1,h2,fN,h3,h4,h5,h6⟩;refine ⟨_,rfl,?_,h4.mono dd⟩;have:=b9.row (l:=dJ l i p) dd h3 (by rw [eX l i p hi];exact h1) h2 h5 (by rw [eX l i p hi];exact h6)
    rwa [eX l i p hi] at this
theorem ji(g:Nat)(t:TypeId):∀ (vs:List Value) (o:Nat) (cur:Array Value) (w:World),w.heap[g]?=some (.cells cur t (0,0))→o+vs.length≤cur.size →
  w.setCells g o vs=w.setRow g (cur.toList.take o++vs++cur.toList.drop (o+vs.length)).toArray
 | [],o,cur,w,hg,_=>by
  simp only [World.setCells,List.append_nil,List.length_nil,Nat.add_zero,aI,Array.toArray_toList];rw [setRow_self w g cur t (0,0) hg]
 | v::r,o,cur,w,hg,hl=>by
  have ho:o<cur.size:=by simp at hl;omega
  rw [World.setCells,setCell_eq_setRow w g o cur t (0,0) v hg,ji g t r (o+1) (cur.setIfInBounds o v) _ (setRow_heap w g cur _ t _ hg) (by simp at hl ⊢;omega),setRow_setRow]
  congr 1
  have e:=list_seg_step cur.toList o v r (by simp at hl ⊢;omega)
  simpa [Array.toList_setIfInBounds,Nat.add_assoc] using e
theorem ym(g c:Nat)(l:List Lk)(i m:Nat)(w:World)(cur:Array Value)(hl:l.length=m+1)(hi:i≤m)(CR:l.length≤c)(hg:w.heap[g]?=some (.cells cur 179 (0,0)))(b8:cur.size=c*2)(ht:cur.toList.take (l.length*2)=bn l):Calls prog 208 #[.slice (some ⟨g,0,none⟩) (m+1) c,.int .i64 (i:Int),.int .i64 ((i:Int)+1)] w fun e w'=>e = .returned (.slice (some ⟨g,0,none⟩) m c)∧∃ fN:Array Value,w'=w.drew.setRow g fN∧fN.size=c*2∧fN.toList.take (m*2)=bn (cC l i):=by
 obtain ⟨i0,ud,nY,Ht,Qf⟩:=info_parts lL;have jE:(bn (l.drop (i+1))).length=(m - i)*2:=by rw [aU,al,hl];omega
 have l1:(bn (l.take i)).length=i*2:=by rw [aU,ag];omega
 obtain ⟨A,hA,H5⟩ : ∃ A:Addr,(if c=i+1 then some (⟨g,0,none⟩ : Addr) else some ⟨g,(i+1)*2,none⟩)=some A∧Hid (∀ t u,(bn (l.drop (i+1)))[t]?=some u→w.drew.cell? (A.add t)=some u):=by
  by_cases h:c=i+1
  ·refine ⟨⟨g,0,none⟩,by simp [h],fun t u hu=>?_⟩
   have h0:(bn (l.drop (i+1))).length=0:=by rw [jE];omega
   rw [List.length_eq_zero_iff.1 h0] at hu;simp at hu
  ·refine ⟨⟨g,(i+1)*2,none⟩,by simp [h],fun t u hu=>?_⟩
   rw [bh];exact gU hg ht (i+1) t u hu
 obtain ⟨C1,qR⟩ : ∃ C:Array Value,C=(cur.toList.take (i*2)++bn (l.drop (i+1))++cur.toList.drop (i*2+(bn (l.drop (i+1))).length)).toArray:=⟨_,rfl⟩;have mR:C1.size=c*2:=by rw [qR];simp [jE,b8];omega
 have ig:w.drew.setCells g (0+i*2) (bn (l.drop (i+1)))=w.drew.setRow g C1:=by
  rw [Nat.zero_add,qR];exact ji g 179 _ _ cur w.drew hg (by rw [jE,b8];omega)
 have fM:(w.drew.setRow g C1).heap[g]?=some (.cells C1 179 (0,0)):=setRow_heap w.drew g cur C1 179 (0,0) hg;obtain ⟨C2,sE⟩ : ∃ C:Array Value,C=(C1.toList.take (m*2)++[Value.string ⟨#[]⟩,Value.int .i64 0]++C1.toList.drop (m*2+2)).toArray:=⟨_,rfl⟩;have pL:C2.size=c*2:=by rw [sE];simp [mR];omega
 have ry:∀ ty cc,(Builtin.clear_ #[148] ty #[.slice (some ⟨g,m*2,none⟩) 1 cc]).run prog (w.drew.setRow g C1) = .ok (.tuple #[]) (w.drew.setRow g C2):=fun ty cc=>by
  rw [lf (w.drew.setRow g C1) 148 179 ty _ _ underlying148 zeroValue179 rfl rfl g (m*2) cc C1 179 fM (by omega),sE,setRow_setRow]
 have hU:C2.toList.take (m*2)=bn (cC l i):=by
  have e1:cur.toList.take (i*2)=bn (l.take i):=by
   rw [ye,← ht,gS,aT (by omega)]
  rw [sE,List.toList_toArray,ay,aH (by simp [mR];omega),gS,Nat.min_self,qR,List.toList_toArray,e1,cC,di,aH (by simp only [ae,jE,l1];omega),ao (by simp only [ae,jE,l1];omega)]
 have s1:Hid ((bn (l.drop (i+1))).length=(m - i)*2):=jE;have s2:Hid (∀ u ∈ bn (l.drop (i+1)),u.oneCell'=true):=fW _;have s3:Hid (∀ t,t<(bn (l.drop (i+1))).length→(w.drew.cell? ⟨g,0+i*2+t,none⟩).isSome=true∧w.drew.frozen? ⟨g,0+i*2+t,none⟩=false):=by
  intro t zS;rw [jE] at zS;refine ⟨?_,by show World.frozen? w _=false;simp [World.frozen?,hg]⟩
  show (World.cell? w _).isSome=true
  simp only [World.cell?,hg];rw [Array.getElem?_eq_getElem (by omega)]
  rfl
 have HW:Hid (w.drew.setCells g (0+i*2) (bn (l.drop (i+1)))=w.drew.setRow g C1):=ig;have HF:=ab hU;have HZ:=ab pL;have mixed:prog.follows Departure.mixedOrders=true:=by kernel_rfl
 have hq:¬ ((i:Int)=(i:Int)+1):=by omega
 have Sy:(0:Int)≤(i:Int)+1:=by omega
 have Qq:(i:Int)≤(i:Int)+1:=by omega
 have H7:(i:Int)+1≤(m:Int)+1:=by omega
 have hq3:(m:Int)+1≤(c:Int):=by omega
 have Y1:((i:Int)+1).toNat=i+1:=by omega
 have Zb:i≤c:=by omega
 have ae4:(i:Int)≤(c:Int):=by omega
 have him:(i:Int)≤(m:Int):=by omega
 have L6:i+(m - i)=m:=by omega
 have hmc:¬ c=m:=by omega
 rw [hl] at CR;clear qR sE hU pL mR fM ht b8 hg jE l1 ig hl nY Qf;go_enter func208,ntmps208;go_wp2_with fail;go_region_law_o (refine step_append_room rfl (.tmp 22) (.tmp 25) 148 rfl 179 i0 2 underlying148 ud Ht g 0 i c (by simp [Act.eval,Act.put]) A (m - i) (c - (i+1)) (bn (l.drop (i+1))) (by simp [Act.eval,Act.put]) s1.out H5.out s2.out (by omega) s3.out ?_;rw [HW.out,L6])
 go_wp2_with (simp only [ry])
 go_ret;exact ⟨rfl,C2,rfl,HZ.out,HF.out⟩
theorem xE(l:List Lk)(i:Nat)(h:i<l.length):(cC l i).length+1=l.length:=by
 unfold cC;rw [ae,ag,al];omega
theorem oJ(base:Nat)(v:Value)(l:List Lk)(i:Nat)(w:World)(hi:i<l.length)(ho:b9 w base v l):Calls prog 208 #[v,.int .i64 (i:Int),.int .i64 ((i:Int)+1)] w fun e w'=>∃ u,e = .returned u∧b9 w' base u (cC l i)∧Below base w w':=by
 have Y3:=xE l i hi;rcases ho.2 with ⟨_,h0⟩ | ⟨g,c,cur,rfl,hb,hg,CQ,sA,fI,lE⟩
 ·omega
 ·have h:=ym g c l i (cC l i).length w cur (by omega) (by omega) CQ hg fI lE
  rw [Y3] at h;refine h.mono ?_
  rintro e w' ⟨rfl,fN,rfl,h2,h3⟩;exact ⟨_,rfl,b9.row (l:=cC l i) hb (setRow_heap w.drew g cur fN 179 (0,0) hg) (by omega) sA h2 h3,below_setRow (aP (Below.refl _ _)) hb fN⟩
end B
end Go.Proofs.YtihmgigfkmofnaaGreatDoor
