import Derived.Test.YtihmgigfkmofnaaGreatDoorG03
import Derived.Lib.SlicesDelete
set_option maxHeartbeats 4000000
set_option maxRecDepth 1000000
open Go.Proofs.Tryz
namespace Go.Proofs.YtihmgigfkmofnaaGreatDoor
namespace C
open Go.RowKit Go.Lib
theorem iX(g:Nat)(t:TypeId):∀ (vs:List Value) (o:Nat) (cur:Array Value) (w:World),w.heap[g]?=some (.cells cur t (0,0))→o+vs.length≤cur.size →
  w.setCells g o vs=w.setRow g (cur.toList.take o++vs++cur.toList.drop (o+vs.length)).toArray
 | [],o,cur,w,hg,_=>by
  simp only [World.setCells,List.append_nil,List.length_nil,Nat.add_zero,aE,Array.toArray_toList];rw [setRow_self w g cur t (0,0) hg]
 | v::r,o,cur,w,hg,hl=>by
  have ho:o<cur.size:=by simp at hl;omega
  rw [World.setCells,setCell_eq_setRow w g o cur t (0,0) v hg,iX g t r (o+1) (cur.setIfInBounds o v) _ (setRow_heap w g cur _ t _ hg) (by simp at hl ⊢;omega),setRow_setRow]
  congr 1
  have e:=list_seg_step cur.toList o v r (by simp at hl ⊢;omega)
  simpa [Array.toList_setIfInBounds,Nat.add_assoc] using e
theorem xL(g c:Nat)(l:List Lk)(i m:Nat)(w:World)(cur:Array Value)(hl:l.length=m+1)(hi:i≤m)(Ct:l.length≤c)(hg:w.heap[g]?=some (.cells cur 97 (0,0)))(cp:cur.size=c)(ht:cur.toList.take (l.length)=bg l):Calls prog 168 #[.slice (some ⟨g,0,none⟩) (m+1) c,.int .i64 (i:Int),.int .i64 ((i:Int)+1)] w fun e w'=>e = .returned (.slice (some ⟨g,0,none⟩) m c)∧∃ fK:Array Value,w'=w.drew.setRow g fK∧fK.size=c∧fK.toList.take (m)=bg (cB l i):=by
 obtain ⟨i0,AM,nP,GM,OI⟩:=info_parts lV;have jq:(bg (l.drop (i+1))).length=(m - i):=by rw [eb,ao,hl];omega
 have l1:(bg (l.take i)).length=i:=by rw [eb,ag];omega
 obtain ⟨A,hA,GS⟩ : ∃ A:Addr,(if c=i+1 then some (⟨g,0,none⟩ : Addr) else some ⟨g,(i+1),none⟩)=some A∧Hid (∀ t u,(bg (l.drop (i+1)))[t]?=some u→w.drew.cell? (A.add t)=some u):=by
  by_cases h:c=i+1
  ·refine ⟨⟨g,0,none⟩,by simp [h],fun t u hu=>?_⟩
   have h0:(bg (l.drop (i+1))).length=0:=by rw [jq];omega
   rw [List.length_eq_zero_iff.1 h0] at hu;simp at hu
  ·refine ⟨⟨g,(i+1),none⟩,by simp [h],fun t u hu=>?_⟩
   rw [bA];exact hJ hg ht (i+1) t u hu
 obtain ⟨C1,qM⟩ : ∃ C:Array Value,C=(cur.toList.take (i)++bg (l.drop (i+1))++cur.toList.drop (i+(bg (l.drop (i+1))).length)).toArray:=⟨_,rfl⟩;have mB:C1.size=c:=by rw [qM];simp [jq,cp];omega
 have lf:w.drew.setCells g (0+i) (bg (l.drop (i+1)))=w.drew.setRow g C1:=by
  rw [Nat.zero_add,qM];exact iX g 97 _ _ cur w.drew hg (by rw [jq,cp];omega)
 have fJ:(w.drew.setRow g C1).heap[g]?=some (.cells C1 97 (0,0)):=setRow_heap w.drew g cur C1 97 (0,0) hg;obtain ⟨C2,sr⟩ : ∃ C:Array Value,C=(C1.toList.take (m)++[Value.nilIface]++C1.toList.drop (m+1)).toArray:=⟨_,rfl⟩;have pB:C2.size=c:=by rw [sr];simp [mB];omega
 have zg:∀ ty cc,(Builtin.clear_ #[153] ty #[.slice (some ⟨g,m,none⟩) 1 cc]).run prog (w.drew.setRow g C1) = .ok (.tuple #[]) (w.drew.setRow g C2):=fun ty cc=>by
  rw [kF (w.drew.setRow g C1) 153 97 ty _ underlying153 zeroValue97 rfl rfl g (m) cc C1 97 fJ (by omega),sr,setRow_setRow]
 have ic:C2.toList.take (m)=bg (cB l i):=by
  have e1:cur.toList.take (i)=bg (l.take i):=by
   rw [BG,← ht,gV,a8 (by omega)]
  rw [sr,List.toList_toArray,ax,aF (by simp [mB];omega),gV,Nat.min_self,qM,List.toList_toArray,e1,cB,dt,aF (by simp only [ae,jq,l1];omega),ar (by simp only [ae,jq,l1];omega)]
 have s1:Hid ((bg (l.drop (i+1))).length=(m - i)*1):=by show _=_;rw [Nat.mul_one];exact jq
 have s2:Hid (∀ u ∈ bg (l.drop (i+1)),u.oneCell'=true):=fT _;have s3:Hid (∀ t,t<(bg (l.drop (i+1))).length→(w.drew.cell? ⟨g,0+i*1+t,none⟩).isSome=true∧w.drew.frozen? ⟨g,0+i*1+t,none⟩=false):=by
  intro t zF;rw [jq] at zF;refine ⟨?_,by show World.frozen? w _=false;simp [World.frozen?,hg]⟩
  show (World.cell? w _).isSome=true
  simp only [World.cell?,hg];rw [Array.getElem?_eq_getElem (by omega)]
  rfl
 have HW:Hid (w.drew.setCells g (0+i*1) (bg (l.drop (i+1)))=w.drew.setRow g C1):=by show _=_;rw [Nat.mul_one];exact lf
 have HF:=ab ic;have HZ:=ab pB;have mixed:prog.follows Departure.mixedOrders=true:=by kernel_rfl
 have hq:¬ ((i:Int)=(i:Int)+1):=by omega
 have T7:(0:Int)≤(i:Int)+1:=by omega
 have Su:(i:Int)≤(i:Int)+1:=by omega
 have hq2:(i:Int)+1≤(m:Int)+1:=by omega
 have hq3:(m:Int)+1≤(c:Int):=by omega
 have WU:((i:Int)+1).toNat=i+1:=by omega
 have hic:i≤c:=by omega
 have aci:(i:Int)≤(c:Int):=by omega
 have him:(i:Int)≤(m:Int):=by omega
 have KQ:i+(m - i)=m:=by omega
 have hmc:¬ c=m:=by omega
 rw [hl] at Ct;clear qM sr ic pB mB fJ ht cp hg jq l1 lf hl nP OI;go_enter func168,ntmps168;go_wp2_with fail;go_region_law_o (refine step_append_room rfl (.tmp 22) (.tmp 25) 153 rfl 97 i0 1 underlying153 AM GM g 0 i c (by simp [Act.eval,Act.put]) A (m - i) (c - (i+1)) (bg (l.drop (i+1))) (by simp [Act.eval,Act.put]) s1.out GS.out s2.out (by omega) s3.out ?_;rw [HW.out,KQ])
 go_wp2_with (simp only [zg])
 go_ret;exact ⟨rfl,C2,rfl,HZ.out,HF.out⟩
theorem wW(l:List Lk)(i:Nat)(h:i<l.length):(cB l i).length+1=l.length:=by
 unfold cB;rw [ae,ag,ao];omega
theorem ou(base:Nat)(v:Value)(l:List Lk)(i:Nat)(w:World)(hi:i<l.length)(ho:bQ w base v l):Calls prog 168 #[v,.int .i64 (i:Int),.int .i64 ((i:Int)+1)] w fun e w'=>∃ u,e = .returned u∧bQ w' base u (cB l i)∧Below base w w':=by
 have WX:=wW l i hi;rcases ho.2 with ⟨_,h0⟩ | ⟨g,c,cur,rfl,hb,hg,Cs,sO,fG,mC⟩
 ·omega
 ·have h:=xL g c l i (cB l i).length w cur (by omega) (by omega) Cs hg (by rw [fG,Nat.mul_one]) (by rw [Nat.mul_one] at mC;exact mC)
  rw [WX] at h;refine h.mono ?_
  rintro e w' ⟨rfl,fK,rfl,h2,h3⟩;exact ⟨_,rfl,bQ.row (l:=cB l i) hb (setRow_heap w.drew g cur fK 97 (0,0) hg) (by omega) sO h2 h3,below_setRow (B.aR (Below.refl _ _)) hb fK⟩
end C
namespace T
open Go.RowKit
structure SN where
 ps:List Pr
 f:Int
 lk:List B.Lk
 us:List C.Ch
structure dM(w:World)(b:Nat)(n:SN)(pv lv cv:Value):Prop where
 row:B.au w b #[pv,.int .i64 n.f,lv,cv] 155
 jj:gZ w pv n.ps
 bg:B.dm w lv n.lk
 kids:C.dm w cv n.us
 fine:(∀ p ∈ n.ps,cF p=true)∧n.ps.length≤4000∧(∀ p ∈ n.lk,cQ p.1)∧n.lk.length≤4000∧n.us.length≤4001
theorem dM.below{w w':World}{b:Nat}{n:SN}{pv lv cv:Value}(h:dM w b n pv lv cv)(hb:Below w.heap.size w w'):dM w' b n pv lv cv :=
 ⟨h.row.below hb,h.jj.below hb,h.bg.below hb,h.kids.below hb,h.fine⟩
theorem dM.c0{w:World}{b:Nat}{n:SN}{pv lv cv:Value}(h:dM w b n pv lv cv):w.cell? ⟨b,0,none⟩=some pv:=h.row.cell 0 (by simp)
theorem dM.c1{w:World}{b:Nat}{n:SN}{pv lv cv:Value}(h:dM w b n pv lv cv):w.cell? ⟨b,1,none⟩=some (.int .i64 n.f):=h.row.cell 1 (by simp)
theorem dM.c2{w:World}{b:Nat}{n:SN}{pv lv cv:Value}(h:dM w b n pv lv cv):w.cell? ⟨b,2,none⟩=some lv:=h.row.cell 2 (by simp)
theorem dM.c3{w:World}{b:Nat}{n:SN}{pv lv cv:Value}(h:dM w b n pv lv cv):w.cell? ⟨b,3,none⟩=some cv:=h.row.cell 3 (by simp)
theorem cd(b:Nat)(n:SN)(pv lv cv:Value)(w:World)(h:dM w b n pv lv cv):Calls prog 93 #[.pointer (some ⟨b,0,none⟩)] w fun e w'=>e = .returned (.bool (decide (n.us.length=0)))∧w=w':=by
 obtain ⟨a,c,yh⟩:=h.kids.form;subst yh;have p3:=h.c3;obtain ⟨m,hm⟩ : ∃ m,m=n.us.length:=⟨_,rfl⟩;rw [← hm] at p3 ⊢;clear h hm;by_cases h0:m=0
 ·subst h0;go_enter func93,ntmps93;go_wp2;go_ret;exact ⟨rfl,rfl⟩
 ·have hd:decide (m=0)=false:=by simp [h0]
  rw [hd];have h1:((m:Int) == 0)=false:=by simp;omega
  clear hd;go_enter func93,ntmps93;go_wp2;go_ret;exact ⟨rfl,rfl⟩
def SN.sz(n:SN):Nat:=if n.us.length=0 then fQ n.ps else B.jw n.lk
theorem Nc{l:List B.Lk}(h:∀ p ∈ l,cQ p.1):B.jw l≤262*l.length+6:=by
 induction l with
 | nil=>simp [B.jw]
 | cons p l ih =>
  have a:=ih fun q hq=>h q (dP _ hq)
  have b:=(h p dh).2;rw [B.nY,List.length_cons];unfold B.yZ;omega
theorem dM.okL{w:World}{b:Nat}{n:SN}{pv lv cv:Value}(h:dM w b n pv lv cv):To n.ps:=fun p hp=>by
 have:=eu (h.fine.1 p hp);omega
theorem dM.uz{w:World}{b:Nat}{n:SN}{pv lv cv:Value}(h:dM w b n pv lv cv):B.Uz n.lk:=fun p hp=>by
 have:=(h.fine.2.2.1 p hp).2;omega
theorem dM.TS{w:World}{b:Nat}{n:SN}{pv lv cv:Value}(h:dM w b n pv lv cv):Calls prog 161 #[pv] w fun e w'=>e = .returned (.int .i64 (fQ n.ps:Int))∧Below w.heap.size w w':=by
 refine (Ar pv n.ps w h.okL (by have:=h.fine.2.1;omega) h.jj).mono fun e w' ⟨h1,h2⟩=>⟨?_,h2⟩
 rw [h1,ky (by have:=vC h.fine.1;have:=h.fine.2.1;omega)]
theorem dM.bsize{w:World}{b:Nat}{n:SN}{pv lv cv:Value}(h:dM w b n pv lv cv):Calls prog 156 #[.agg #[.int .i64 n.f,lv]] w fun e w'=>e = .returned (.int .i64 (B.jw n.lk:Int))∧Below w.heap.size w w':=by
 refine (B.A2 n.f lv n.lk w h.uz (by have:=h.fine.2.2.2.1;omega) h.bg).mono fun e w' ⟨h1,h2⟩=>⟨?_,h2⟩
 rw [h1,B.ky (by have:=Nc h.fine.2.2.1;have:=h.fine.2.2.2.1;omega)]
theorem CS(b:Nat)(n:SN)(pv lv cv:Value)(w:World)(h:dM w b n pv lv cv)(h0:n.us.length=0):Calls prog 128 #[.pointer (some ⟨b,0,none⟩)] w fun e w'=>e = .returned (.bool (decide (4072<fQ n.ps)))∧Below w.heap.size w w':=by
 have HL:=ab (cd b n pv lv cv w h);rw [show decide (n.us.length=0)=true by simp [h0]] at HL
 have HS:=ab h.TS;have p0:=h.c0;have p1:=h.c1;have p2:=h.c2;obtain ⟨x,hx⟩ : ∃ x,x=fQ n.ps:=⟨_,rfl⟩;rw [← hx] at HS ⊢;clear h h0 hx;by_cases hb:4072<x
 ·rw [show decide (4072<x)=true by simp [hb]]
  have Pu:(4072:Int)<(x:Int):=by omega
  go_enter func128,ntmps128;go_wp2_with fail;refine HL.out.mono ?_
  rintro e w1 ⟨rfl,rfl⟩;go_wp2_with fail;refine HS.out.mono ?_
  rintro e w2 ⟨rfl,aY⟩;have HB:=ab aY;clear aY p0 p1 p2;go_wp2;go_ret;exact ⟨rfl,HB.out⟩
 ·rw [show decide (4072<x)=false by simp [hb]]
  have Pu:¬ (4072:Int)<(x:Int):=by omega
  have VI:decide ((4072:Int)<(x:Int))=false:=decide_eq_false Pu;go_enter func128,ntmps128;go_wp2_with fail;refine HL.out.mono ?_
  rintro e w1 ⟨rfl,rfl⟩;go_wp2_with fail;refine HS.out.mono ?_
  rintro e w2 ⟨rfl,aY⟩;have HB:=ab aY;clear aY p0 p1 p2;go_wp2;go_ret;exact ⟨by first | rfl | (show Ending.returned (Value.bool _)=_;rw [VI]),HB.out⟩
theorem J1(b:Nat)(n:SN)(pv lv cv:Value)(w:World)(h:dM w b n pv lv cv)(h0:¬ n.us.length=0):Calls prog 128 #[.pointer (some ⟨b,0,none⟩)] w fun e w'=>e = .returned (.bool (decide (4072<B.jw n.lk)))∧Below w.heap.size w w':=by
 have HL:=ab (cd b n pv lv cv w h);rw [show decide (n.us.length=0)=false by simp [h0]] at HL
 have HS:=ab h.bsize;have p0:=h.c0;have p1:=h.c1;have p2:=h.c2;obtain ⟨x,hx⟩ : ∃ x,x=B.jw n.lk:=⟨_,rfl⟩;rw [← hx] at HS ⊢;clear h h0 hx;by_cases hb:4072<x
 ·rw [show decide (4072<x)=true by simp [hb]]
  have Pu:(4072:Int)<(x:Int):=by omega
  go_enter func128,ntmps128;go_wp2_with fail;refine HL.out.mono ?_
  rintro e w1 ⟨rfl,rfl⟩;go_wp2_with fail;refine HS.out.mono ?_
  rintro e w2 ⟨rfl,aY⟩;have HB:=ab aY;clear aY p0 p1 p2;go_wp2;go_ret;exact ⟨rfl,HB.out⟩
 ·rw [show decide (4072<x)=false by simp [hb]]
  have Pu:¬ (4072:Int)<(x:Int):=by omega
  have VI:decide ((4072:Int)<(x:Int))=false:=decide_eq_false Pu;go_enter func128,ntmps128;go_wp2_with fail;refine HL.out.mono ?_
  rintro e w1 ⟨rfl,rfl⟩;go_wp2_with fail;refine HS.out.mono ?_
  rintro e w2 ⟨rfl,aY⟩;have HB:=ab aY;clear aY p0 p1 p2;go_wp2;go_ret;exact ⟨by first | rfl | (show Ending.returned (Value.bool _)=_;rw [VI]),HB.out⟩
theorem zn(b:Nat)(n:SN)(pv lv cv:Value)(w:World)(h:dM w b n pv lv cv)(h0:n.us.length=0):Calls prog 123 #[.pointer (some ⟨b,0,none⟩)] w fun e w'=>e = .returned (.bool (decide (fQ n.ps<1556)))∧Below w.heap.size w w':=by
 have HL:=ab (cd b n pv lv cv w h);rw [show decide (n.us.length=0)=true by simp [h0]] at HL
 have HS:=ab h.TS;have p0:=h.c0;have p1:=h.c1;have p2:=h.c2;obtain ⟨x,hx⟩ : ∃ x,x=fQ n.ps:=⟨_,rfl⟩;rw [← hx] at HS ⊢;clear h h0 hx;by_cases hb:x<1556
 ·rw [show decide (x<1556)=true by simp [hb]]
  have Pu:(x:Int)<1556:=by omega
  go_enter func123,ntmps123;go_wp2_with fail;refine HL.out.mono ?_
  rintro e w1 ⟨rfl,rfl⟩;go_wp2_with fail;refine HS.out.mono ?_
  rintro e w2 ⟨rfl,aY⟩;have HB:=ab aY;clear aY p0 p1 p2;go_wp2;go_ret;exact ⟨rfl,HB.out⟩
 ·rw [show decide (x<1556)=false by simp [hb]]
  have Pu:¬ (x:Int)<1556:=by omega
  have VI:decide ((x:Int)<1556)=false:=decide_eq_false Pu;go_enter func123,ntmps123;go_wp2_with fail;refine HL.out.mono ?_
  rintro e w1 ⟨rfl,rfl⟩;go_wp2_with fail;refine HS.out.mono ?_
  rintro e w2 ⟨rfl,aY⟩;have HB:=ab aY;clear aY p0 p1 p2;go_wp2;go_ret;exact ⟨by first | rfl | (show Ending.returned (Value.bool _)=_;rw [VI]),HB.out⟩
theorem CR(b:Nat)(n:SN)(pv lv cv:Value)(w:World)(h:dM w b n pv lv cv)(h0:¬ n.us.length=0):Calls prog 123 #[.pointer (some ⟨b,0,none⟩)] w fun e w'=>e = .returned (.bool (decide (B.jw n.lk<1777)))∧Below w.heap.size w w':=by
 have HL:=ab (cd b n pv lv cv w h);rw [show decide (n.us.length=0)=false by simp [h0]] at HL
 have HS:=ab h.bsize;have p0:=h.c0;have p1:=h.c1;have p2:=h.c2;obtain ⟨x,hx⟩ : ∃ x,x=B.jw n.lk:=⟨_,rfl⟩;rw [← hx] at HS ⊢;clear h h0 hx;by_cases hb:x<1777
 ·rw [show decide (x<1777)=true by simp [hb]]
  have Pu:(x:Int)<1777:=by omega
  go_enter func123,ntmps123;go_wp2_with fail;refine HL.out.mono ?_
  rintro e w1 ⟨rfl,rfl⟩;go_wp2_with fail;refine HS.out.mono ?_
  rintro e w2 ⟨rfl,aY⟩;have HB:=ab aY;clear aY p0 p1 p2;go_wp2;go_ret;exact ⟨rfl,HB.out⟩
 ·rw [show decide (x<1777)=false by simp [hb]]
  have Pu:¬ (x:Int)<1777:=by omega
  have VI:decide ((x:Int)<1777)=false:=decide_eq_false Pu;go_enter func123,ntmps123;go_wp2_with fail;refine HL.out.mono ?_
  rintro e w1 ⟨rfl,rfl⟩;go_wp2_with fail;refine HS.out.mono ?_
  rintro e w2 ⟨rfl,aY⟩;have HB:=ab aY;clear aY p0 p1 p2;go_wp2;go_ret;exact ⟨by first | rfl | (show Ending.returned (Value.bool _)=_;rw [VI]),HB.out⟩
theorem qj(b:Nat)(n:SN)(pv lv cv:Value)(w:World)(h:dM w b n pv lv cv):Calls prog 128 #[.pointer (some ⟨b,0,none⟩)] w fun e w'=>e = .returned (.bool (decide (4072<n.sz)))∧Below w.heap.size w w':=by
 unfold SN.sz;by_cases h0:n.us.length=0
 ·rw [if_pos h0];exact CS b n pv lv cv w h h0
 ·rw [if_neg h0];exact J1 b n pv lv cv w h h0
def SN.min(n:SN):Nat:=if n.us.length=0 then 1556 else 1777
theorem mJ(b:Nat)(n:SN)(pv lv cv:Value)(w:World)(h:dM w b n pv lv cv):Calls prog 123 #[.pointer (some ⟨b,0,none⟩)] w fun e w'=>e = .returned (.bool (decide (n.sz<n.min)))∧Below w.heap.size w w':=by
 unfold SN.sz SN.min;by_cases h0:n.us.length=0
 ·rw [if_pos h0,if_pos h0];exact zn b n pv lv cv w h h0
 ·rw [if_neg h0,if_neg h0];exact CR b n pv lv cv w h h0
def Ra(w:World)(n:SN)(e:Ending)(w':World):Prop:=∃ b pv lv cv,e = .returned (.pointer (some ⟨b,0,none⟩))∧dM w' b n pv lv cv∧Below w.heap.size w w'
theorem sq{w:World}{base:Nat}{v:Value}{l:List C.Ch}(h:C.bQ w base v l)(hl:0<l.length):∃ g c,v = .slice (some ⟨g,0,none⟩) l.length c∧base≤g∧g<w.heap.size:=by
 rcases h.2 with ⟨_,h0⟩ | ⟨g,c,cur,hv,hb,hg,_⟩
 ·omega
 ·exact ⟨g,c,hv,hb,(Array.getElem?_eq_some_iff.1 hg).1⟩
theorem mI(b:Nat)(n:SN)(pv lv cv:Value)(i:Nat)(p:C.Ch)(w:World)(h:dM w b n pv lv cv)(hi:i<n.us.length):Calls prog 125 #[.pointer (some ⟨b,0,none⟩),.int .i64 (i:Int),p.val] w fun e w'=>Ra w ⟨[],n.f,n.lk,n.us.set i p⟩ e w':=by
 have hf:=h.fine;have HC:=ab (C.eM cv n.us w (by omega) h.kids)
 have p3:=h.c3;have bL:b<w.heap.size:=h.row.lt;have HH:=ab h;obtain ⟨pp,GV⟩ : ∃ x,x=p.val:=⟨_,rfl⟩;have Ee:pp.oneCell'=true:=by rw [GV];exact C.val_one p
 have HP:=ab GV;rw [← GV];clear h GV;obtain ⟨t,x,hx⟩ : ∃ t x,pp = .iface t x:=by
  rw [HP.out];cases p
  ·exact ⟨_,_,rfl⟩
  ·exact ⟨_,_,rfl⟩
 subst hx;obtain ⟨m,hm⟩ : ∃ m,m=n.us.length:=⟨_,rfl⟩;have HM:=ab hm;rw [← hm] at hi hf;clear hm;go_enter func125,ntmps125;go_wp2_with fail;refine HC.out.mono ?_
 rintro e w1 ⟨u,rfl,ho,aN⟩;obtain ⟨g,c,hu,fJ,zJ⟩:=sq ho (by rw [← HM.out];omega)
 subst hu;have dW:w1.ownsRow w.heap.size 97 1 (.slice (some ⟨g,0,none⟩) n.us.length c) n.us.length (C.bg n.us):=ho;obtain ⟨o1,z1⟩ : ∃ y,w1.cell? ⟨g,i,none⟩=some y:=⟨_,(World.ownsRow.cellAt dW i (by rw [← HM.out];omega)).trans (C.ib n.us i (by rw [← HM.out];exact hi))⟩
 have z2:w1.frozen? ⟨g,i,none⟩=false:=World.ownsRow.frozenAt dW _;have eS:=(World.ownsRow.stored dW i (.iface t x)).1;have zH:(C.bg n.us).set i (.iface t x)=C.bg (n.us.set i p):=by
  unfold C.bg;rw [HP.out,List.map_set]
 rw [zH] at eS;have Ps:=aN.setCell (p:=⟨g,i,none⟩) fJ (.iface t x);have ey:¬ b=g:=by omega
 have q1:w1.cell? ⟨b,1,none⟩=some (.int .i64 n.f):=(HH.out.below aN).c1;have q2:w1.cell? ⟨b,2,none⟩=some lv:=(HH.out.below aN).c2;have Q6:=HH.out.below Ps;have q:=ai (w1.setCell ⟨g,i,none⟩ (.iface t x)) (.cells #[.slice none 0 0,.int .i64 n.f,lv,.slice (some ⟨g,0,none⟩) n.us.length c] 155);have xr:=B.au.new (w1.setCell ⟨g,i,none⟩ (.iface t x)) #[.slice none 0 0,.int .i64 n.f,lv,.slice (some ⟨g,0,none⟩) n.us.length c] 155;have b8:Hid (dM ((w1.setCell ⟨g,i,none⟩ (.iface t x)).alloc (.cells #[.slice none 0 0,.int .i64 n.f,lv,.slice (some ⟨g,0,none⟩) n.us.length c] 155)) (w1.setCell ⟨g,i,none⟩ (.iface t x)).heap.size ⟨[],n.f,n.lk,n.us.set i p⟩ (.slice none 0 0) lv (.slice (some ⟨g,0,none⟩) n.us.length c)):=by
  refine ⟨xr,gZ.nil _,Q6.bg.below q,?_,?_⟩
  ·have:C.bQ (w1.setCell ⟨g,i,none⟩ (.iface t x)) w.heap.size (.slice (some ⟨g,0,none⟩) n.us.length c) (n.us.set i p):=by
    unfold C.bQ;rw [cu];exact eS
   exact (this.below q).at
  ·have hf:=HH.out.fine;exact ⟨(fun p hp=>by simp at hp),by simp,hf.2.2.1,hf.2.2.2.1,by rw [cu];exact hf.2.2.2.2⟩
 have rm:=ab (Ps.alloc (B:=w.heap.size) (by have:=Ps.size;exact this) (.cells #[.slice none 0 0,.int .i64 n.f,lv,.slice (some ⟨g,0,none⟩) n.us.length c] 155))
 obtain ⟨la,lc,tH⟩:=Q6.bg.form;rw [← HM.out] at b8 rm ⊢;have Yc:(w1.setCell ⟨g,i,none⟩ (.iface t x)).heap.size=w1.heap.size:=by simp
 rw [Yc] at b8;have hiI:(i:Int)<(m:Int):=by omega
 have AM:(0:Int)≤(i:Int):=by omega
 clear HC p3 ho dW eS zH Ps Q6 q xr tH Yc;go_wp2;go_ret;exact ⟨_,_,_,_,rfl,b8.out,rm.out⟩
end T
namespace B
open Go.RowKit Go.Lib
theorem rU(l:List Lk)(i:Nat):bg (l.take i)=(bg l).take (i*2):=by
 induction l generalizing i with
 | nil=>simp [bg]
 | cons p l ih =>
  cases i with
  | zero=>simp [bg]
  | succ i=>rw [List.take_succ_cons,ee,ee,ih,show (i+1)*2=i*2+1+1 by omega,List.take_succ_cons,List.take_succ_cons]
theorem DO(l:List Lk)(i:Nat):bg (l.drop i)=(bg l).drop (i*2):=by
 induction l generalizing i with
 | nil=>simp [bg]
 | cons p l ih =>
  cases i with
  | zero=>simp
  | succ i=>rw [List.drop_succ_cons,ee,ih,show (i+1)*2=i*2+1+1 by omega,List.drop_succ_cons,List.drop_succ_cons]
theorem dY{P:Program}(w:World)(dT sT ty elem:TypeId)(g o Hh V2:Nat)(a:Addr)(Ga UT:Nat)(cur:Array Value)(t:TypeId)(cs:List Value)(hu:P.underlying dT=some (.slice elem))(hs:(P.info? elem).map (·.size)=some 2)(hg:w.heap[g]?=some (.cells cur t (0,0)))(hn:cs.length=Nat.min Ga Hh*2)(GS:∀ j v,cs[j]?=some v→w.cell? (a.add j)=some v)(eE:o+cs.length≤cur.size)(h1:∀ v ∈ cs,v.oneCell'=true):(Builtin.copy_ #[dT,sT] ty #[.slice (some ⟨g,o,none⟩) Hh V2,.slice (some a) Ga UT]).run P w = .ok (goInt (Nat.min Ga Hh)) (w.setRow g (cur.toList.take o++cs++cur.toList.drop (o+cs.length)).toArray):=by
 have hl:=run_loadCells_list (P:=P) w a cs GS;have eS:=run_storeCells_at P g o t cs 0 cur w hg (by simpa using eE) h1
 cases hq:P.info? elem with
 | none=>simp [hq] at hs
 | some i =>
  have hi:i.size=2:=by simpa [hq] using hs
  simp [Builtin.copy_,run_underlying hu,Builtin.lenOf,Builtin.firstCells,sizeOf,typeInfo,hq,hi,← hn,hl,eS]
theorem kF{P:Program}(w:World)(t e ty:TypeId)(x y:Value)(ht:P.underlying t=some (.slice e))(hv:∀ w,(zeroValue e).run P w = .ok (.agg #[x,y]) w)(hx:x.oneCell'=true)(hy:y.oneCell'=true)(g o c:Nat)(cur:Array Value)(tt:TypeId)(hg:w.heap[g]?=some (.cells cur tt (0,0)))(eE:o+2≤cur.size):(Builtin.clear_ #[t] ty #[.slice (some ⟨g,o,none⟩) 1 c]).run P w = .ok (.tuple #[]) (w.setRow g (cur.toList.take o++[x,y]++cur.toList.drop (o+2)).toArray):=by
 have WO:(Builtin.zeroCells (Value.agg #[x,y]).cells 1).toList=[x,y]:=by
  have:(Value.agg #[x,y]).cells=#[x,y]:=rfl;rw [this];simp [Builtin.zeroCells,Array.range]
 have eS:=run_storeCells_at P g o tt [x,y] 0 cur w hg (by simpa using eE) (by intro v Sn;simp at Sn;rcases Sn with rfl | rfl <;> assumption)
 simp [Builtin.clear_,run_underlying ht,hv,WO,eS]
theorem xI(base:Nat)(v:Value)(l:List Lk)(vb:Nat)(p:Lk)(w:World)(hm:l.length≤5864062014800)(ho:bQ w base v l)(dr:base≤w.heap.size)(hv:dm w (.slice (some ⟨vb,0,none⟩) 1 1) [p]):Calls prog 231 #[v,.int .i64 (l.length:Int),.slice (some ⟨vb,0,none⟩) 1 1] w fun e w'=>∃ u,e = .returned u∧bQ w' base u (l++[p])∧Below base w w':=by
 obtain ⟨a',c',w1,bo,aD,hg⟩:=fo base v _ l [p] w ho hv (by simp;omega) dr
 have aN:Below base w w1:=(Below.refl base w).grown hg dr (fun k hk=>(ho.dy k hk).1)
 have HO:=ab aD;have HB:=ab aN;have du:∃ a c,v = .slice a l.length c∧l.length≤c:=by
  obtain ⟨a,c,rfl,hle,_⟩:=ho.at;exact ⟨a,c,rfl,hle⟩
 obtain ⟨a,c,rfl,hle⟩:=du;rw [show ([p] : List Lk).length=1 from rfl] at bo
 obtain ⟨n,hn⟩ : ∃ n,n=l.length:=⟨_,rfl⟩;rw [← hn] at bo hle hm ⊢;have HN:=ab hn;clear aD hg aN ho hv hn;by_cases zK:c=n
 ·go_enter func231,ntmps231;go_wp2_with (first | (at_builtin;refine wpList_append_run 148 rfl (.tmp 23) (.tmp 24) rfl rfl _ _ rfl rfl _ _ bo ?_))
  clear bo;go_ret;exact ⟨_,rfl,by have:=HO.out;rwa [show l.length + [p].length=n+1 by rw [HN.out];rfl] at this,HB.out⟩
 ·go_enter func231,ntmps231;go_wp2_with (first | (at_builtin;refine wpList_append_run 148 rfl (.tmp 23) (.tmp 24) rfl rfl _ _ rfl rfl _ _ bo ?_))
  clear bo;go_ret;exact ⟨_,rfl,by have:=HO.out;rwa [show l.length + [p].length=n+1 by rw [HN.out];rfl] at this,HB.out⟩
theorem hJ{w:World}{g:Nat}{cur:Array Value}{t:TypeId}{l:List Lk}(hg:w.heap[g]?=some (.cells cur t (0,0)))(ht:cur.toList.take (l.length*2)=bg l)(i:Nat):∀ j u,(bg (l.drop i))[j]?=some u→w.cell? ⟨g,i*2+j,none⟩=some u:=by
 intro j u h;rw [DO,← ht,cL,b7] at h;split at h
 ·rw [Array.getElem?_toList] at h;simp [World.cell?,hg,h]
 ·cases h
theorem NS(w:World)(g vb i n1 c1:Nat)(cur vs:Array Value)(tA tB:TypeId)(ey:vb≠g)(hg:w.heap[g]?=some (.cells cur tA (0,0)))(hv:w.heap[vb]?=some (.cells vs tB (0,0)))(h0:cur.size≠0):(callFunc 251 #[.slice (some ⟨vb,0,none⟩) 1 1,.slice (some ⟨g,i,none⟩) n1 c1]).run prog w = .ok (.value (.bool false)) w:=by
 rw [run_callFunc_extern func251 (by kernel_rfl) (by kernel_rfl) (by kernel_rfl) (e:=Extern.SlicesOverlaps.overlaps #[148,148] #[4]) (by kernel_rfl),
  Lib.run_overlaps_apart w 148 4 179 underlying148 2 sizeOf179 ⟨vb,0,none⟩ ⟨g,i,none⟩ 1 1 n1 c1 ey tB tA vs.size cur.size (by simp [World.shape?,hv]) (by simp [World.shape?,hg]) h0 (by simp [World.frozen?,hv]) (by simp [World.frozen?,hv])]
 rfl
theorem tu(g c:Nat)(l:List Lk)(i vb:Nat)(p:Lk)(w:World)(cur:Array Value)(hi:i<l.length)(acu:c≤9223372036854775807)(dV:l.length+1≤c)(hg:w.heap[g]?=some (.cells cur 179 (0,0)))(cp:cur.size=c*2)(ht:cur.toList.take (l.length*2)=bg l)(hv:w.heap[vb]?=some (.cells #[.string p.1,.int .i64 p.2] 179 (0,0)))(ey:vb≠g):Calls prog 231 #[.slice (some ⟨g,0,none⟩) l.length c,.int .i64 (i:Int),.slice (some ⟨vb,0,none⟩) 1 1] w fun e w'=>e = .returned (.slice (some ⟨g,0,none⟩) (l.length+1) c)∧∃ fK:Array Value,w'=w.drew.setRow g fK∧fK.size=c*2∧fK.toList.take ((l.length+1)*2)=bg (dD l i p):=by
 obtain ⟨n,hn⟩ : ∃ n,n=l.length:=⟨_,rfl⟩;have hov:=fun j n1 c1=>NS w g vb j n1 c1 cur _ _ _ ey hg hv (by omega)
 have j8:(prog.info? 179).map (·.size)=some 2:=by kernel_rfl
 have jq:(bg (l.drop i)).length=(n - i)*2:=by rw [a7,ao,hn]
 obtain ⟨C1,qM⟩ : ∃ C:Array Value,C=(cur.toList.take ((i+1)*2)++bg (l.drop i)++cur.toList.drop ((i+1)*2+(bg (l.drop i)).length)).toArray:=⟨_,rfl⟩;have mB:C1.size=c*2:=by rw [qM];simp [jq,cp];omega
 obtain ⟨C2,sr⟩ : ∃ C:Array Value,C=(C1.toList.take (i*2)++bg [p]++C1.toList.drop (i*2+(bg [p]).length)).toArray:=⟨_,rfl⟩;have pB:C2.size=c*2:=by rw [sr];simp [bg,mB];omega
 have ic:C2.toList.take ((n+1)*2)=bg (dD l i p):=by
  have e1:cur.toList.take (i*2)=bg (l.take i):=by
   rw [rU,← ht,gV,a8 (by omega)]
  have l1:(bg (l.take i)).length=i*2:=by rw [a7,ag];omega
  have e2:C1.toList.take (i*2)=bg (l.take i):=by
   rw [qM,List.toList_toArray,ax,aF (by simp [cp];omega),gV,a8 (by omega),e1]
  have e3:C1.toList.drop (i*2+(bg [p]).length)=bg (l.drop i)++cur.toList.drop ((i+1)*2+(bg (l.drop i)).length):=by
   rw [qM,List.toList_toArray,ax,ij (by simp [cp,bg];omega),fq (by simp [cp,bg];omega)]
   rfl
  rw [sr,List.toList_toArray,e2,e3,dD,dt,show p::l.drop i=[p]++l.drop i from rfl,dt,← ax,← ax,aF (by simp only [ae,jq,l1,a7,aO];omega),ar (by simp only [ae,jq,l1,a7,aO];omega)]
 have VK:∀ ty dc sc,(Builtin.copy_ #[148,148] ty #[.slice (some ⟨g,(i+1)*2,none⟩) (n - i) dc,.slice (some ⟨g,i*2,none⟩) (n+1 - i) sc]).run prog w.drew = .ok (goInt (Nat.min (n+1 - i) (n - i))) (w.drew.setRow g C1):=fun ty dc sc=>by
  rw [qM];exact dY w.drew 148 148 ty 179 g ((i+1)*2) (n - i) dc ⟨g,i*2,none⟩ (n+1 - i) sc cur 179 (bg (l.drop i)) underlying148 j8 hg (by rw [jq];simp only [ke];split <;> omega) (fun j u hj=>by rw [bA];exact hJ hg ht i j u hj) (by rw [jq,cp];omega) (fT _)
 have fJ:(w.drew.setRow g C1).heap[g]?=some (.cells C1 179 (0,0)):=setRow_heap w.drew g cur C1 179 (0,0) hg;have eH:(w.drew.setRow g C1).heap[vb]?=some (.cells #[.string p.1,.int .i64 p.2] 179 (0,0)):=(setRow_other w.drew g vb C1 ey).trans hv;have VJ:∀ ty dc,(Builtin.copy_ #[148,148] ty #[.slice (some ⟨g,i*2,none⟩) (n+1 - i) dc,.slice (some ⟨vb,0,none⟩) 1 1]).run prog (w.drew.setRow g C1) = .ok (goInt (Nat.min 1 (n+1 - i))) (w.drew.setRow g C2):=fun ty dc=>by
  have h:=dY (w.drew.setRow g C1) 148 148 ty 179 g (i*2) (n+1 - i) dc ⟨vb,0,none⟩ 1 1 C1 179 (bg [p]) underlying148 j8 fJ (by simp only [a7,aO,ke];split <;> omega) (fun j u hj=>by
   rw [bA];have lW:(#[.string p.1,.int .i64 p.2] : Array Value)[j]?=some u:=by simpa [bg] using hj
   simp [World.cell?,eH,lW]) (by simp [bg,mB];omega) (fT _)
  rw [h,sr,setRow_setRow]
 have HF:=ab ic;have HZ:=ab pB;have mixed:prog.follows Departure.mixedOrders=true:=by kernel_rfl
 have mB:¬ ((i:Int)=(n:Int)):=by omega
 have vT:IntKind.i64.wrap ((i:Int)+1)=(i:Int)+1:=by rw [IntKind.wrap_i64];omega
 have QU:IntKind.i64.wrap ((n:Int)+1)=(n:Int)+1:=by rw [IntKind.wrap_i64];omega
 have WU:((i:Int)+1).toNat=i+1:=by omega
 have abF:((n:Int)+1).toNat=n+1:=by omega
 have aN:(0:Int)≤(i:Int)+1:=by omega
 have aY:¬ (c=i+1):=by omega
 have gH:¬ (c=i):=by omega
 have Q3:(i:Int)≤(n:Int):=by omega
 have b6:(i:Int)≤(n:Int)+1:=by omega
 have VA:i≤n:=by omega
 have acf:i+1≤n+1:=by omega
 rw [← hn] at dV ⊢;clear qM sr ic pB jq fJ eH ht cp hg hv hn hi;go_enter func231,ntmps231;go_wp2_with (simp only [hov])
 go_region_law_o (refine step_copy_runI rfl _ _ 148 148 rfl _ _ (by simp [Act.eval,Act.put]) (by simp [Act.eval,Act.put]) (VK _ _ _) ?_)
 go_wp2_with (at_builtin;refine wpList_copy_runI _ rfl _ _ 148 148 rfl _ _ rfl rfl (VJ _ _) ?_)
 go_ret;exact ⟨rfl,C2,rfl,HZ.out,HF.out⟩
theorem wu(x y:Value)(k:Nat):(Builtin.zeroCells (Value.agg #[x,y]).cells k).size=k*2:=by
 have:(Value.agg #[x,y]).cells=#[x,y]:=rfl;simp [Builtin.zeroCells,this]
theorem tv(g c:Nat)(l:List Lk)(i vb:Nat)(p:Lk)(w:World)(cur:Array Value)(hi:i<l.length)(hm:l.length≤5864062014800)(Ct:l.length≤c)(dV:c<l.length+1)(hg:w.heap[g]?=some (.cells cur 179 (0,0)))(ht:cur.toList.take (l.length*2)=bg l)(hv:w.heap[vb]?=some (.cells #[.string p.1,.int .i64 p.2] 179 (0,0))):Calls prog 231 #[.slice (some ⟨g,0,none⟩) l.length c,.int .i64 (i:Int),.slice (some ⟨vb,0,none⟩) 1 1] w fun e w'=>∃ G:Nat,e = .returned (.slice (some ⟨w.heap.size,0,none⟩) (l.length+1) G)∧l.length+1≤G∧G≤maxLen∧∃ fK:Array Value,w'.heap[w.heap.size]?=some (.cells fK 179 (0,0))∧Below w.heap.size w w'∧fK.size=G*2∧fK.toList.take ((l.length+1)*2)=bg (dD l i p):=by
 obtain ⟨n,hn⟩ : ∃ n,n=l.length:=⟨_,rfl⟩;obtain ⟨i0,AM,nP,GM,OI⟩:=info_parts lV;have j8:(prog.info? 179).map (·.size)=some 2:=by rw [AM];simp [GM]
 have Pe:g<w.heap.size:=(Array.getElem?_eq_some_iff.1 hg).1;have X5:vb<w.heap.size:=(Array.getElem?_eq_some_iff.1 hv).1;have jq:(bg (l.drop i)).length=(n - i)*2:=by rw [a7,ao,hn]
 have l1:(bg (l.take i)).length=i*2:=by rw [a7,ag];omega
 have Q1:(n:Int)+1 - (i:Int)=((n+1 - i:Nat):Int):=by omega
 have Q4:i+(n+1 - i)=n+1:=by omega
 have hold:(Builtin.firstCells i0.size i (.slice (some ⟨g,0,none⟩) i c)).run prog w.drew = .ok (bg (l.take i)).toArray w.drew:=by
  rw [GM];refine run_firstCells_some w.drew 2 i ⟨g,0,none⟩ i c (bg (l.take i)) l1 (fun j v hj=>?_)
  rw [bA,Nat.zero_add];rw [rU,b7] at hj;split at hj
  ·have:=hJ hg ht 0 j v (by simpa using hj)
   simpa using this
  ·cases hj
 obtain ⟨G,hG⟩ : ∃ G,G=grownCap w (n+1) c 179:=⟨_,rfl⟩;obtain ⟨R,hR⟩ : ∃ R:Array Value,R=(bg (l.take i)).toArray++Builtin.zeroCells (Value.agg #[.string ByteArray.empty,.int .i64 0]).cells (n+1 - i)++Builtin.zeroCells (Value.agg #[.string ByteArray.empty,.int .i64 0]).cells (G - (n+1)):=⟨_,rfl⟩;have Vh:∀ ty,(Builtin.append_ #[148,3] ty #[.slice (some ⟨g,0,none⟩) i c,.int .i64 ((n:Int)+1 - (i:Int))]).run prog w =
   .ok (.slice (some ⟨w.heap.size,0,none⟩) (n+1) G) (w.drew.alloc (.cells R 179)):=fun ty=>by
  have h:=Lib.run_append_grow_zeros w 148 3 ty 179 i0 _ .i64 .i64 underlying148 underlying3 AM nP (some ⟨g,0,none⟩) i c (bg (l.take i)) hold (n+1 - i) (by omega) (by omega) (by omega) (by omega) (by rw [OI];omega) (by rw [OI,Q4];exact growslice_fits (by omega) (by omega))
  rw [Q4] at h;rw [Q1,hR,hG];exact h
 have hGn:n+1≤G:=by rw [hG];exact grownCap_ge w _ _ _
 have VS:G≤maxLen:=by rw [hG];exact grownCap_le_maxLen w (n+1) c 179 (by unfold maxLen;omega)
 have VP:R.size=G*2:=by
  rw [hR,gv,gv,wu,wu];simp [l1];omega
 obtain ⟨W1,lf⟩ : ∃ W1,W1=w.drew.alloc (.cells R 179):=⟨_,rfl⟩;have Jk:W1.heap[w.heap.size]?=some (.cells R 179 (0,0)):=by rw [lf];exact heap_alloc_new w.drew _
 have SP:Below w.heap.size w W1:=by rw [lf];exact (aR (Below.refl _ _)).alloc (aj _) _
 have fJ:W1.heap[g]?=some (.cells cur 179 (0,0)):=(SP.block g Pe).trans hg;have eH:W1.heap[vb]?=some (.cells #[.string p.1,.int .i64 p.2] 179 (0,0)):=(SP.block vb X5).trans hv;rw [← lf] at Vh;obtain ⟨C1,qM⟩ : ∃ C:Array Value,C=(R.toList.take (i*2)++bg [p]++R.toList.drop (i*2+(bg [p]).length)).toArray:=⟨_,rfl⟩;have mB:C1.size=G*2:=by rw [qM];simp [bg,VP];omega
 obtain ⟨C2,sr⟩ : ∃ C:Array Value,C=(C1.toList.take ((i+1)*2)++bg (l.drop i)++C1.toList.drop ((i+1)*2+(bg (l.drop i)).length)).toArray:=⟨_,rfl⟩;have pB:C2.size=G*2:=by rw [sr];simp [jq,mB];omega
 have ic:C2.toList.take ((n+1)*2)=bg (dD l i p):=by
  have e0:R.toList.take (i*2)=bg (l.take i):=by
   rw [hR,cP,cP,List.toList_toArray,ax,aF (by omega),ar (by omega)]
  have e1:C1.toList.take ((i+1)*2)=bg (l.take i)++bg [p]:=by
   rw [qM,List.toList_toArray,e0,aF (by simp only [ae,l1,a7,aO];omega),ar (by simp only [ae,l1,a7,aO];omega)]
  rw [sr,List.toList_toArray,e1,dD,dt,show p::l.drop i=[p]++l.drop i from rfl,dt,← ax,aF (by simp only [ae,jq,l1,a7,aO];omega),ar (by simp only [ae,jq,l1,a7,aO];omega)]
 have Vn:vb≠w.heap.size:=by omega
 have BQ:g≠w.heap.size:=by omega
 have Po:∀ ty dc,(Builtin.copy_ #[148,148] ty #[.slice (some ⟨w.heap.size,i*2,none⟩) (n+1 - i) dc,.slice (some ⟨vb,0,none⟩) 1 1]).run prog W1 = .ok (goInt (Nat.min 1 (n+1 - i))) (W1.setRow w.heap.size C1):=fun ty dc=>by
  rw [qM];exact dY W1 148 148 ty 179 w.heap.size (i*2) (n+1 - i) dc ⟨vb,0,none⟩ 1 1 R 179 (bg [p]) underlying148 j8 Jk (by simp only [a7,aO,ke];split <;> omega) (fun j u hj=>by
   rw [bA];have lW:(#[.string p.1,.int .i64 p.2] : Array Value)[j]?=some u:=by simpa [bg] using hj
   simp [World.cell?,eH,lW]) (by simp [bg,VP];omega) (fT _)
 have Jj:(W1.setRow w.heap.size C1).drew.heap[w.heap.size]?=some (.cells C1 179 (0,0)):=setRow_heap W1 w.heap.size R C1 179 (0,0) Jk;have zJ:(W1.setRow w.heap.size C1).drew.heap[g]?=some (.cells cur 179 (0,0)):=(setRow_other W1 w.heap.size g C1 BQ).trans fJ;have Pn:∀ ty dc sc,(Builtin.copy_ #[148,148] ty #[.slice (some ⟨w.heap.size,(i+1)*2,none⟩) (n - i) dc,.slice (some ⟨g,i*2,none⟩) (n - i) sc]).run prog (W1.setRow w.heap.size C1).drew = .ok (goInt (Nat.min (n - i) (n - i))) ((W1.setRow w.heap.size C1).drew.setRow w.heap.size C2):=fun ty dc sc=>by
  rw [sr];exact dY (W1.setRow w.heap.size C1).drew 148 148 ty 179 w.heap.size ((i+1)*2) (n - i) dc ⟨g,i*2,none⟩ (n - i) sc C1 179 (bg (l.drop i)) underlying148 j8 Jj (by rw [jq];simp only [ke];split <;> omega) (fun j u hj=>by rw [bA];exact hJ zJ ht i j u hj) (by rw [jq,mB];omega) (fT _)
 have Px:((W1.setRow w.heap.size C1).drew.setRow w.heap.size C2).heap[w.heap.size]?=some (.cells C2 179 (0,0)):=setRow_heap (W1.setRow w.heap.size C1).drew w.heap.size C1 C2 179 (0,0) Jj;have VV:Below w.heap.size w ((W1.setRow w.heap.size C1).drew.setRow w.heap.size C2):=below_setRow (aR (below_setRow SP (aj _) C1)) (aj _) C2;obtain ⟨s,hs⟩ : ∃ s,s=w.heap.size:=⟨_,rfl⟩;rw [← hs] at Vh Po Pn Px VV ⊢;have HF:=ab ic;have HZ:=ab pB;have HN3:=ab Px;have dH:=ab VV;have HG:=ab VS;have mixed:prog.follows Departure.mixedOrders=true:=by kernel_rfl
 have acK:G≤9223372036854775807:=by unfold maxLen at VS;omega
 have Su:¬ ((i:Int)=(n:Int)):=by omega
 have vT:IntKind.i64.wrap ((i:Int)+1)=(i:Int)+1:=by rw [IntKind.wrap_i64];omega
 have QU:IntKind.i64.wrap ((n:Int)+1)=(n:Int)+1:=by rw [IntKind.wrap_i64];omega
 have Mr:IntKind.i64.wrap ((n:Int)+1 - (i:Int))=(n:Int)+1 - (i:Int):=by rw [IntKind.wrap_i64];omega
 have WU:((i:Int)+1).toNat=i+1:=by omega
 have aN:(0:Int)≤(i:Int)+1:=by omega
 have b6:(i:Int)≤(n:Int)+1:=by omega
 have aY:¬ (G=i+1):=by omega
 have fk:¬ (G=i):=by omega
 have gH:¬ (c=i):=by omega
 have Q3:(i:Int)≤(n:Int):=by omega
 have VA:i≤n:=by omega
 have hic:(i:Int)≤(c:Int):=by omega
 have hcr:(c:Int)<(n:Int)+1:=by omega
 rw [← hn] at dV ⊢;clear qM sr ic pB mB jq fJ eH zJ Jk Jj Px SP VV ht hg hv hi l1 Q1 Q4 hold VP hR hG Pe X5 AM nP GM OI j8 hn VS Vn BQ lf hs;go_enter func231,ntmps231;go_wp2_with (first
  | (at_builtin;refine Lib.wpList_append_run _ rfl _ _ _ _ rfl _ _ rfl rfl _ _ (Vh _) ?_)
  | (at_builtin;refine wpList_copy_runI _ rfl _ _ 148 148 rfl _ _ rfl rfl (Po _ _) ?_))
 go_region_law_o (refine step_copy_runI rfl _ _ 148 148 rfl _ _ (by simp [Act.eval,Act.put]) (by simp [Act.eval,Act.put]) (Pn _ _ _) ?_)
 go_wp2;go_ret;exact ⟨G,rfl,hGn,HG.out,C2,HN3.out,dH.out,HZ.out,HF.out⟩
theorem bQ.row{w:World}{base g c:Nat}{l:List Lk}{cur:Array Value}(hb:base≤g)(hg:w.heap[g]?=some (.cells cur 179 (0,0)))(Ct:l.length≤c)(hc:c≤maxLen)(hs:cur.size=c*2)(ht:cur.toList.take (l.length*2)=bg l):bQ w base (.slice (some ⟨g,0,none⟩) l.length c) l :=
 ⟨a7 l,.inr ⟨g,c,cur,rfl,hb,hg,Ct,hc,hs,ht⟩⟩
theorem fc(l:List Lk)(i:Nat)(p:Lk)(h:i≤l.length):(dD l i p).length=l.length+1:=by
 unfold dD;rw [ae,List.length_cons,ag,ao];omega
theorem xO(l:List Lk)(p:Lk):dD l l.length p=l++[p]:=by simp [dD]
theorem ot(base:Nat)(v:Value)(l:List Lk)(i vb:Nat)(p:Lk)(w:World)(hm:l.length≤5864062014800)(hi:i≤l.length)(ho:bQ w base v l)(dr:base≤w.heap.size)(hv:au w vb #[.string p.1,.int .i64 p.2] 179)(ey:v.ownBlock≠some vb):Calls prog 231 #[v,.int .i64 (i:Int),.slice (some ⟨vb,0,none⟩) 1 1] w fun e w'=>∃ u,e = .returned u∧bQ w' base u (dD l i p)∧Below base w w':=by
 by_cases Q3:i=l.length
 ·subst Q3;rw [xO];refine xI base v l vb p w hm ho dr ⟨_,_,rfl,aj _,fun h=>(by cases h),fun j hj=>⟨_,_,rfl,?_,?_⟩⟩
  ·have:j=0:=by simpa using hj
   subst this;exact hv.c0
  ·have:j=0:=by simpa using hj
   subst this;exact hv.c1
 ·have bX:i<l.length:=by omega
  rcases ho.2 with ⟨_,h0⟩ | ⟨g,c,cur,rfl,hb,hg,Cs,sO,fG,mC⟩
  ·omega
  ·by_cases hr:l.length+1≤c
   ·refine (tu g c l i vb p w cur bX (by unfold maxLen at sO;omega) hr hg fG mC hv (fun h=>ey (by rw [h];rfl))).mono ?_
    rintro e w' ⟨rfl,fK,rfl,h2,h3⟩;refine ⟨_,rfl,?_,below_setRow (aR (Below.refl _ _)) hb fK⟩;have:=bQ.row (l:=dD l i p) hb (setRow_heap w.drew g cur fK 179 (0,0) hg) (by rw [fc l i p hi];exact hr) sO h2 (by rw [fc l i p hi];exact h3)
    rwa [fc l i p hi] at this
   ·refine (tv g c l i vb p w cur bX hm Cs (by omega) hg mC hv).mono ?_
    rintro e w' ⟨G,rfl,h1,h2,fK,h3,h4,h5,h6⟩;refine ⟨_,rfl,?_,h4.mono dr⟩;have:=bQ.row (l:=dD l i p) dr h3 (by rw [fc l i p hi];exact h1) h2 h5 (by rw [fc l i p hi];exact h6)
    rwa [fc l i p hi] at this
end B
end Go.Proofs.YtihmgigfkmofnaaGreatDoor
