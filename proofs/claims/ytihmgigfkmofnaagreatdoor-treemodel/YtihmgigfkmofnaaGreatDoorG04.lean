import Derived.Test.YtihmgigfkmofnaaGreatDoorG03
import Derived.Lib.SlicesDelete
set_option maxHeartbeats 4000000
set_option maxRecDepth 1000000
open Go.Proofs.Tryz
namespace Go.Proofs.YtihmgigfkmofnaaGreatDoor
namespace C
open Go.RowKit Go.Lib
theorem jm(g:Nat)(t:TypeId):∀ (vs:List Value) (o:Nat) (cur:Array Value) (w:World),w.heap[g]?=some (.cells cur t (0,0))→o+vs.length≤cur.size →
  w.setCells g o vs=w.setRow g (cur.toList.take o++vs++cur.toList.drop (o+vs.length)).toArray
 | [],o,cur,w,hg,_=>by
  simp only [World.setCells,List.append_nil,List.length_nil,Nat.add_zero,aG,Array.toArray_toList];rw [setRow_self w g cur t (0,0) hg]
 | v::r,o,cur,w,hg,hl=>by
  have ho:o<cur.size:=by simp at hl;omega
  rw [World.setCells,setCell_eq_setRow w g o cur t (0,0) v hg,jm g t r (o+1) (cur.setIfInBounds o v) _ (setRow_heap w g cur _ t _ hg) (by simp at hl ⊢;omega),setRow_setRow]
  congr 1
  have e:=list_seg_step cur.toList o v r (by simp at hl ⊢;omega)
  simpa [Array.toList_setIfInBounds,Nat.add_assoc] using e
theorem xN(g c:Nat)(l:List Lk)(i m:Nat)(w:World)(cur:Array Value)(hl:l.length=m+1)(hi:i≤m)(Cp:l.length≤c)(hg:w.heap[g]?=some (.cells cur 97 (0,0)))(cx:cur.size=c)(ht:cur.toList.take (l.length)=bm l):Calls prog 168 #[.slice (some ⟨g,0,none⟩) (m+1) c,.int .i64 (i:Int),.int .i64 ((i:Int)+1)] w fun e w'=>e = .returned (.slice (some ⟨g,0,none⟩) m c)∧∃ fN:Array Value,w'=w.drew.setRow g fN∧fN.size=c∧fN.toList.take (m)=bm (cH l i):=by
 obtain ⟨i0,yU,n7,GR,O7⟩:=info_parts lQ;have jF:(bm (l.drop (i+1))).length=(m - i):=by rw [ej,ao,hl];omega
 have l1:(bm (l.take i)).length=i:=by rw [ej,ag];omega
 obtain ⟨A,hA,GY⟩ : ∃ A:Addr,(if c=i+1 then some (⟨g,0,none⟩ : Addr) else some ⟨g,(i+1),none⟩)=some A∧Hid (∀ t u,(bm (l.drop (i+1)))[t]?=some u→w.drew.cell? (A.add t)=some u):=by
  by_cases h:c=i+1
  ·refine ⟨⟨g,0,none⟩,by simp [h],fun t u hu=>?_⟩
   have h0:(bm (l.drop (i+1))).length=0:=by rw [jF];omega
   rw [List.length_eq_zero_iff.1 h0] at hu;simp at hu
  ·refine ⟨⟨g,(i+1),none⟩,by simp [h],fun t u hu=>?_⟩
   rw [bB];exact gZ hg ht (i+1) t u hu
 obtain ⟨C1,qP⟩ : ∃ C:Array Value,C=(cur.toList.take (i)++bm (l.drop (i+1))++cur.toList.drop (i+(bm (l.drop (i+1))).length)).toArray:=⟨_,rfl⟩;have mW:C1.size=c:=by rw [qP];simp [jF,cx];omega
 have iy:w.drew.setCells g (0+i) (bm (l.drop (i+1)))=w.drew.setRow g C1:=by
  rw [Nat.zero_add,qP];exact jm g 97 _ _ cur w.drew hg (by rw [jF,cx];omega)
 have fK:(w.drew.setRow g C1).heap[g]?=some (.cells C1 97 (0,0)):=setRow_heap w.drew g cur C1 97 (0,0) hg;obtain ⟨C2,sq⟩ : ∃ C:Array Value,C=(C1.toList.take (m)++[Value.nilIface]++C1.toList.drop (m+1)).toArray:=⟨_,rfl⟩;have pH:C2.size=c:=by rw [sq];simp [mW];omega
 have rl:∀ ty cc,(Builtin.clear_ #[153] ty #[.slice (some ⟨g,m,none⟩) 1 cc]).run prog (w.drew.setRow g C1) = .ok (.tuple #[]) (w.drew.setRow g C2):=fun ty cc=>by
  rw [lq (w.drew.setRow g C1) 153 97 ty _ underlying153 zeroValue97 rfl rfl g (m) cc C1 97 fK (by omega),sq,setRow_setRow]
 have ic:C2.toList.take (m)=bm (cH l i):=by
  have e1:cur.toList.take (i)=bm (l.take i):=by
   rw [BD,← ht,gW,a8 (by omega)]
  rw [sq,List.toList_toArray,ay,aF (by simp [mW];omega),gW,Nat.min_self,qP,List.toList_toArray,e1,cH,dh,aF (by simp only [ae,jF,l1];omega),aq (by simp only [ae,jF,l1];omega)]
 have s1:Hid ((bm (l.drop (i+1))).length=(m - i)*1):=by show _=_;rw [Nat.mul_one];exact jF
 have s2:Hid (∀ u ∈ bm (l.drop (i+1)),u.oneCell'=true):=fU _;have s3:Hid (∀ t,t<(bm (l.drop (i+1))).length→(w.drew.cell? ⟨g,0+i*1+t,none⟩).isSome=true∧w.drew.frozen? ⟨g,0+i*1+t,none⟩=false):=by
  intro t zr;rw [jF] at zr;refine ⟨?_,by show World.frozen? w _=false;simp [World.frozen?,hg]⟩
  show (World.cell? w _).isSome=true
  simp only [World.cell?,hg];rw [Array.getElem?_eq_getElem (by omega)]
  rfl
 have HW:Hid (w.drew.setCells g (0+i*1) (bm (l.drop (i+1)))=w.drew.setRow g C1):=by show _=_;rw [Nat.mul_one];exact iy
 have HF:=ab ic;have HZ:=ab pH;have mixed:prog.follows Departure.mixedOrders=true:=by kernel_rfl
 have hq:¬ ((i:Int)=(i:Int)+1):=by omega
 have Lb:(0:Int)≤(i:Int)+1:=by omega
 have Jg:(i:Int)≤(i:Int)+1:=by omega
 have VQ:(i:Int)+1≤(m:Int)+1:=by omega
 have hq3:(m:Int)+1≤(c:Int):=by omega
 have Xo:((i:Int)+1).toNat=i+1:=by omega
 have hic:i≤c:=by omega
 have acN:(i:Int)≤(c:Int):=by omega
 have him:(i:Int)≤(m:Int):=by omega
 have K9:i+(m - i)=m:=by omega
 have hmc:¬ c=m:=by omega
 rw [hl] at Cp;clear qP sq ic pH mW fK ht cx hg jF l1 iy hl n7 O7;go_enter func168,ntmps168;go_wp2_with fail;go_region_law_o (refine step_append_room rfl (.tmp 22) (.tmp 25) 153 rfl 97 i0 1 underlying153 yU GR g 0 i c (by simp [Act.eval,Act.put]) A (m - i) (c - (i+1)) (bm (l.drop (i+1))) (by simp [Act.eval,Act.put]) s1.out GY.out s2.out (by omega) s3.out ?_;rw [HW.out,K9])
 go_wp2_with (simp only [rl])
 go_ret;exact ⟨rfl,C2,rfl,HZ.out,HF.out⟩
theorem wV(l:List Lk)(i:Nat)(h:i<l.length):(cH l i).length+1=l.length:=by
 unfold cH;rw [ae,ag,ao];omega
theorem oH(base:Nat)(v:Value)(l:List Lk)(i:Nat)(w:World)(hi:i<l.length)(ho:b7 w base v l):Calls prog 168 #[v,.int .i64 (i:Int),.int .i64 ((i:Int)+1)] w fun e w'=>∃ u,e = .returned u∧b7 w' base u (cH l i)∧Below base w w':=by
 have Xq:=wV l i hi;rcases ho.2 with ⟨_,h0⟩ | ⟨g,c,cur,rfl,hb,hg,Cn,sQ,fs,mX⟩
 ·omega
 ·have h:=xN g c l i (cH l i).length w cur (by omega) (by omega) Cn hg (by rw [fs,Nat.mul_one]) (by rw [Nat.mul_one] at mX;exact mX)
  rw [Xq] at h;refine h.mono ?_
  rintro e w' ⟨rfl,fN,rfl,h2,h3⟩;exact ⟨_,rfl,b7.row (l:=cH l i) hb (setRow_heap w.drew g cur fN 97 (0,0) hg) (by omega) sQ h2 h3,below_setRow (B.aN (Below.refl _ _)) hb fN⟩
end C
namespace T
open Go.RowKit
structure SN where
 ps:List Pr
 f:Int
 lk:List B.Lk
 us:List C.Ch
structure dG(w:World)(b:Nat)(n:SN)(pv lv cv:Value):Prop where
 row:B.ax w b #[pv,.int .i64 n.f,lv,cv] 155
 iD:gK w pv n.ps
 bm:B.cV w lv n.lk
 kids:C.cV w cv n.us
 fine:(∀ p ∈ n.ps,cP p=true)∧n.ps.length≤4000∧(∀ p ∈ n.lk,cW p.1)∧n.lk.length≤4000∧n.us.length≤4001
theorem dG.below{w w':World}{b:Nat}{n:SN}{pv lv cv:Value}(h:dG w b n pv lv cv)(hb:Below w.heap.size w w'):dG w' b n pv lv cv :=
 ⟨h.row.below hb,h.iD.below hb,h.bm.below hb,h.kids.below hb,h.fine⟩
theorem dG.c0{w:World}{b:Nat}{n:SN}{pv lv cv:Value}(h:dG w b n pv lv cv):w.cell? ⟨b,0,none⟩=some pv:=h.row.cell 0 (by simp)
theorem dG.c1{w:World}{b:Nat}{n:SN}{pv lv cv:Value}(h:dG w b n pv lv cv):w.cell? ⟨b,1,none⟩=some (.int .i64 n.f):=h.row.cell 1 (by simp)
theorem dG.c2{w:World}{b:Nat}{n:SN}{pv lv cv:Value}(h:dG w b n pv lv cv):w.cell? ⟨b,2,none⟩=some lv:=h.row.cell 2 (by simp)
theorem dG.c3{w:World}{b:Nat}{n:SN}{pv lv cv:Value}(h:dG w b n pv lv cv):w.cell? ⟨b,3,none⟩=some cv:=h.row.cell 3 (by simp)
theorem ch(b:Nat)(n:SN)(pv lv cv:Value)(w:World)(h:dG w b n pv lv cv):Calls prog 93 #[.pointer (some ⟨b,0,none⟩)] w fun e w'=>e = .returned (.bool (decide (n.us.length=0)))∧w=w':=by
 obtain ⟨a,c,yf⟩:=h.kids.form;subst yf;have p3:=h.c3;obtain ⟨m,hm⟩ : ∃ m,m=n.us.length:=⟨_,rfl⟩;rw [← hm] at p3 ⊢;clear h hm;by_cases h0:m=0
 ·subst h0;go_enter func93,ntmps93;go_wp2;go_ret;exact ⟨rfl,rfl⟩
 ·have hd:decide (m=0)=false:=by simp [h0]
  rw [hd];have h1:((m:Int) == 0)=false:=by simp;omega
  clear hd;go_enter func93,ntmps93;go_wp2;go_ret;exact ⟨rfl,rfl⟩
def SN.sz(n:SN):Nat:=if n.us.length=0 then fL n.ps else B.jL n.lk
theorem Nz{l:List B.Lk}(h:∀ p ∈ l,cW p.1):B.jL l≤262*l.length+6:=by
 induction l with
 | nil=>simp [B.jL]
 | cons p l ih =>
  have a:=ih fun q hq=>h q (dU _ hq)
  have b:=(h p dq).2;rw [B.ot,List.length_cons];unfold B.yQ;omega
theorem dG.okL{w:World}{b:Nat}{n:SN}{pv lv cv:Value}(h:dG w b n pv lv cv):TU n.ps:=fun p hp=>by
 have:=eM (h.fine.1 p hp);omega
theorem dG.uC{w:World}{b:Nat}{n:SN}{pv lv cv:Value}(h:dG w b n pv lv cv):B.UX n.lk:=fun p hp=>by
 have:=(h.fine.2.2.1 p hp).2;omega
theorem dG.Uk{w:World}{b:Nat}{n:SN}{pv lv cv:Value}(h:dG w b n pv lv cv):Calls prog 161 #[pv] w fun e w'=>e = .returned (.int .i64 (fL n.ps:Int))∧Below w.heap.size w w':=by
 refine (Aw pv n.ps w h.okL (by have:=h.fine.2.1;omega) h.iD).mono fun e w' ⟨h1,h2⟩=>⟨?_,h2⟩
 rw [h1,kW (by have:=vG h.fine.1;have:=h.fine.2.1;omega)]
theorem dG.bsize{w:World}{b:Nat}{n:SN}{pv lv cv:Value}(h:dG w b n pv lv cv):Calls prog 156 #[.agg #[.int .i64 n.f,lv]] w fun e w'=>e = .returned (.int .i64 (B.jL n.lk:Int))∧Below w.heap.size w w':=by
 refine (B.A2 n.f lv n.lk w h.uC (by have:=h.fine.2.2.2.1;omega) h.bm).mono fun e w' ⟨h1,h2⟩=>⟨?_,h2⟩
 rw [h1,B.kW (by have:=Nz h.fine.2.2.1;have:=h.fine.2.2.2.1;omega)]
theorem CR(b:Nat)(n:SN)(pv lv cv:Value)(w:World)(h:dG w b n pv lv cv)(h0:n.us.length=0):Calls prog 128 #[.pointer (some ⟨b,0,none⟩)] w fun e w'=>e = .returned (.bool (decide (4072<fL n.ps)))∧Below w.heap.size w w':=by
 have HL:=ab (ch b n pv lv cv w h);rw [show decide (n.us.length=0)=true by simp [h0]] at HL
 have HS:=ab h.Uk;have p0:=h.c0;have p1:=h.c1;have p2:=h.c2;obtain ⟨x,hx⟩ : ∃ x,x=fL n.ps:=⟨_,rfl⟩;rw [← hx] at HS ⊢;clear h h0 hx;by_cases hb:4072<x
 ·rw [show decide (4072<x)=true by simp [hb]]
  have PT:(4072:Int)<(x:Int):=by omega
  go_enter func128,ntmps128;go_wp2_with fail;refine HL.out.mono ?_
  rintro e w1 ⟨rfl,rfl⟩;go_wp2_with fail;refine HS.out.mono ?_
  rintro e w2 ⟨rfl,aO⟩;have HB:=ab aO;clear aO p0 p1 p2;go_wp2;go_ret;exact ⟨rfl,HB.out⟩
 ·rw [show decide (4072<x)=false by simp [hb]]
  have PT:¬ (4072:Int)<(x:Int):=by omega
  have V8:decide ((4072:Int)<(x:Int))=false:=decide_eq_false PT;go_enter func128,ntmps128;go_wp2_with fail;refine HL.out.mono ?_
  rintro e w1 ⟨rfl,rfl⟩;go_wp2_with fail;refine HS.out.mono ?_
  rintro e w2 ⟨rfl,aO⟩;have HB:=ab aO;clear aO p0 p1 p2;go_wp2;go_ret;exact ⟨by first | rfl | (show Ending.returned (Value.bool _)=_;rw [V8]),HB.out⟩
theorem J8(b:Nat)(n:SN)(pv lv cv:Value)(w:World)(h:dG w b n pv lv cv)(h0:¬ n.us.length=0):Calls prog 128 #[.pointer (some ⟨b,0,none⟩)] w fun e w'=>e = .returned (.bool (decide (4072<B.jL n.lk)))∧Below w.heap.size w w':=by
 have HL:=ab (ch b n pv lv cv w h);rw [show decide (n.us.length=0)=false by simp [h0]] at HL
 have HS:=ab h.bsize;have p0:=h.c0;have p1:=h.c1;have p2:=h.c2;obtain ⟨x,hx⟩ : ∃ x,x=B.jL n.lk:=⟨_,rfl⟩;rw [← hx] at HS ⊢;clear h h0 hx;by_cases hb:4072<x
 ·rw [show decide (4072<x)=true by simp [hb]]
  have PT:(4072:Int)<(x:Int):=by omega
  go_enter func128,ntmps128;go_wp2_with fail;refine HL.out.mono ?_
  rintro e w1 ⟨rfl,rfl⟩;go_wp2_with fail;refine HS.out.mono ?_
  rintro e w2 ⟨rfl,aO⟩;have HB:=ab aO;clear aO p0 p1 p2;go_wp2;go_ret;exact ⟨rfl,HB.out⟩
 ·rw [show decide (4072<x)=false by simp [hb]]
  have PT:¬ (4072:Int)<(x:Int):=by omega
  have V8:decide ((4072:Int)<(x:Int))=false:=decide_eq_false PT;go_enter func128,ntmps128;go_wp2_with fail;refine HL.out.mono ?_
  rintro e w1 ⟨rfl,rfl⟩;go_wp2_with fail;refine HS.out.mono ?_
  rintro e w2 ⟨rfl,aO⟩;have HB:=ab aO;clear aO p0 p1 p2;go_wp2;go_ret;exact ⟨by first | rfl | (show Ending.returned (Value.bool _)=_;rw [V8]),HB.out⟩
theorem zd(b:Nat)(n:SN)(pv lv cv:Value)(w:World)(h:dG w b n pv lv cv)(h0:n.us.length=0):Calls prog 123 #[.pointer (some ⟨b,0,none⟩)] w fun e w'=>e = .returned (.bool (decide (fL n.ps<1556)))∧Below w.heap.size w w':=by
 have HL:=ab (ch b n pv lv cv w h);rw [show decide (n.us.length=0)=true by simp [h0]] at HL
 have HS:=ab h.Uk;have p0:=h.c0;have p1:=h.c1;have p2:=h.c2;obtain ⟨x,hx⟩ : ∃ x,x=fL n.ps:=⟨_,rfl⟩;rw [← hx] at HS ⊢;clear h h0 hx;by_cases hb:x<1556
 ·rw [show decide (x<1556)=true by simp [hb]]
  have PT:(x:Int)<1556:=by omega
  go_enter func123,ntmps123;go_wp2_with fail;refine HL.out.mono ?_
  rintro e w1 ⟨rfl,rfl⟩;go_wp2_with fail;refine HS.out.mono ?_
  rintro e w2 ⟨rfl,aO⟩;have HB:=ab aO;clear aO p0 p1 p2;go_wp2;go_ret;exact ⟨rfl,HB.out⟩
 ·rw [show decide (x<1556)=false by simp [hb]]
  have PT:¬ (x:Int)<1556:=by omega
  have V8:decide ((x:Int)<1556)=false:=decide_eq_false PT;go_enter func123,ntmps123;go_wp2_with fail;refine HL.out.mono ?_
  rintro e w1 ⟨rfl,rfl⟩;go_wp2_with fail;refine HS.out.mono ?_
  rintro e w2 ⟨rfl,aO⟩;have HB:=ab aO;clear aO p0 p1 p2;go_wp2;go_ret;exact ⟨by first | rfl | (show Ending.returned (Value.bool _)=_;rw [V8]),HB.out⟩
theorem CQ(b:Nat)(n:SN)(pv lv cv:Value)(w:World)(h:dG w b n pv lv cv)(h0:¬ n.us.length=0):Calls prog 123 #[.pointer (some ⟨b,0,none⟩)] w fun e w'=>e = .returned (.bool (decide (B.jL n.lk<1777)))∧Below w.heap.size w w':=by
 have HL:=ab (ch b n pv lv cv w h);rw [show decide (n.us.length=0)=false by simp [h0]] at HL
 have HS:=ab h.bsize;have p0:=h.c0;have p1:=h.c1;have p2:=h.c2;obtain ⟨x,hx⟩ : ∃ x,x=B.jL n.lk:=⟨_,rfl⟩;rw [← hx] at HS ⊢;clear h h0 hx;by_cases hb:x<1777
 ·rw [show decide (x<1777)=true by simp [hb]]
  have PT:(x:Int)<1777:=by omega
  go_enter func123,ntmps123;go_wp2_with fail;refine HL.out.mono ?_
  rintro e w1 ⟨rfl,rfl⟩;go_wp2_with fail;refine HS.out.mono ?_
  rintro e w2 ⟨rfl,aO⟩;have HB:=ab aO;clear aO p0 p1 p2;go_wp2;go_ret;exact ⟨rfl,HB.out⟩
 ·rw [show decide (x<1777)=false by simp [hb]]
  have PT:¬ (x:Int)<1777:=by omega
  have V8:decide ((x:Int)<1777)=false:=decide_eq_false PT;go_enter func123,ntmps123;go_wp2_with fail;refine HL.out.mono ?_
  rintro e w1 ⟨rfl,rfl⟩;go_wp2_with fail;refine HS.out.mono ?_
  rintro e w2 ⟨rfl,aO⟩;have HB:=ab aO;clear aO p0 p1 p2;go_wp2;go_ret;exact ⟨by first | rfl | (show Ending.returned (Value.bool _)=_;rw [V8]),HB.out⟩
theorem qv(b:Nat)(n:SN)(pv lv cv:Value)(w:World)(h:dG w b n pv lv cv):Calls prog 128 #[.pointer (some ⟨b,0,none⟩)] w fun e w'=>e = .returned (.bool (decide (4072<n.sz)))∧Below w.heap.size w w':=by
 unfold SN.sz;by_cases h0:n.us.length=0
 ·rw [if_pos h0];exact CR b n pv lv cv w h h0
 ·rw [if_neg h0];exact J8 b n pv lv cv w h h0
def SN.min(n:SN):Nat:=if n.us.length=0 then 1556 else 1777
theorem nh(b:Nat)(n:SN)(pv lv cv:Value)(w:World)(h:dG w b n pv lv cv):Calls prog 123 #[.pointer (some ⟨b,0,none⟩)] w fun e w'=>e = .returned (.bool (decide (n.sz<n.min)))∧Below w.heap.size w w':=by
 unfold SN.sz SN.min;by_cases h0:n.us.length=0
 ·rw [if_pos h0,if_pos h0];exact zd b n pv lv cv w h h0
 ·rw [if_neg h0,if_neg h0];exact CQ b n pv lv cv w h h0
def RF(w:World)(n:SN)(e:Ending)(w':World):Prop:=∃ b pv lv cv,e = .returned (.pointer (some ⟨b,0,none⟩))∧dG w' b n pv lv cv∧Below w.heap.size w w'
theorem sm{w:World}{base:Nat}{v:Value}{l:List C.Ch}(h:C.b7 w base v l)(hl:0<l.length):∃ g c,v = .slice (some ⟨g,0,none⟩) l.length c∧base≤g∧g<w.heap.size:=by
 rcases h.2 with ⟨_,h0⟩ | ⟨g,c,cur,hv,hb,hg,_⟩
 ·omega
 ·exact ⟨g,c,hv,hb,(Array.getElem?_eq_some_iff.1 hg).1⟩
theorem ng(b:Nat)(n:SN)(pv lv cv:Value)(i:Nat)(p:C.Ch)(w:World)(h:dG w b n pv lv cv)(hi:i<n.us.length):Calls prog 125 #[.pointer (some ⟨b,0,none⟩),.int .i64 (i:Int),p.val] w fun e w'=>RF w ⟨[],n.f,n.lk,n.us.set i p⟩ e w':=by
 have hf:=h.fine;have HC:=ab (C.eN cv n.us w (by omega) h.kids)
 have p3:=h.c3;have bO:b<w.heap.size:=h.row.lt;have HH:=ab h;obtain ⟨pp,GZ⟩ : ∃ x,x=p.val:=⟨_,rfl⟩;have En:pp.oneCell'=true:=by rw [GZ];exact C.val_one p
 have HP:=ab GZ;rw [← GZ];clear h GZ;obtain ⟨t,x,hx⟩ : ∃ t x,pp = .iface t x:=by
  rw [HP.out];cases p
  ·exact ⟨_,_,rfl⟩
  ·exact ⟨_,_,rfl⟩
 subst hx;obtain ⟨m,hm⟩ : ∃ m,m=n.us.length:=⟨_,rfl⟩;have HM:=ab hm;rw [← hm] at hi hf;clear hm;go_enter func125,ntmps125;go_wp2_with fail;refine HC.out.mono ?_
 rintro e w1 ⟨u,rfl,ho,aP⟩;obtain ⟨g,c,hu,fK,zE⟩:=sm ho (by rw [← HM.out];omega)
 subst hu;have gC:w1.ownsRow w.heap.size 97 1 (.slice (some ⟨g,0,none⟩) n.us.length c) n.us.length (C.bm n.us):=ho;obtain ⟨o1,z1⟩ : ∃ y,w1.cell? ⟨g,i,none⟩=some y:=⟨_,(World.ownsRow.cellAt gC i (by rw [← HM.out];omega)).trans (C.gI n.us i (by rw [← HM.out];exact hi))⟩
 have z2:w1.frozen? ⟨g,i,none⟩=false:=World.ownsRow.frozenAt gC _;have fi:=(World.ownsRow.stored gC i (.iface t x)).1;have zv:(C.bm n.us).set i (.iface t x)=C.bm (n.us.set i p):=by
  unfold C.bm;rw [HP.out,List.map_set]
 rw [zv] at fi;have PR:=aP.setCell (p:=⟨g,i,none⟩) fK (.iface t x);have dK:¬ b=g:=by omega
 have q1:w1.cell? ⟨b,1,none⟩=some (.int .i64 n.f):=(HH.out.below aP).c1;have q2:w1.cell? ⟨b,2,none⟩=some lv:=(HH.out.below aP).c2;have Rz:=HH.out.below PR;have q:=ai (w1.setCell ⟨g,i,none⟩ (.iface t x)) (.cells #[.slice none 0 0,.int .i64 n.f,lv,.slice (some ⟨g,0,none⟩) n.us.length c] 155);have xr:=B.ax.new (w1.setCell ⟨g,i,none⟩ (.iface t x)) #[.slice none 0 0,.int .i64 n.f,lv,.slice (some ⟨g,0,none⟩) n.us.length c] 155;have bM:Hid (dG ((w1.setCell ⟨g,i,none⟩ (.iface t x)).alloc (.cells #[.slice none 0 0,.int .i64 n.f,lv,.slice (some ⟨g,0,none⟩) n.us.length c] 155)) (w1.setCell ⟨g,i,none⟩ (.iface t x)).heap.size ⟨[],n.f,n.lk,n.us.set i p⟩ (.slice none 0 0) lv (.slice (some ⟨g,0,none⟩) n.us.length c)):=by
  refine ⟨xr,gK.nil _,Rz.bm.below q,?_,?_⟩
  ·have:C.b7 (w1.setCell ⟨g,i,none⟩ (.iface t x)) w.heap.size (.slice (some ⟨g,0,none⟩) n.us.length c) (n.us.set i p):=by
    unfold C.b7;rw [cB];exact fi
   exact (this.below q).at
  ·have hf:=HH.out.fine;exact ⟨(fun p hp=>by simp at hp),by simp,hf.2.2.1,hf.2.2.2.1,by rw [cB];exact hf.2.2.2.2⟩
 have nc:=ab (PR.alloc (B:=w.heap.size) (by have:=PR.size;exact this) (.cells #[.slice none 0 0,.int .i64 n.f,lv,.slice (some ⟨g,0,none⟩) n.us.length c] 155))
 obtain ⟨la,lc,nT⟩:=Rz.bm.form;rw [← HM.out] at bM nc ⊢;have Yy:(w1.setCell ⟨g,i,none⟩ (.iface t x)).heap.size=w1.heap.size:=by simp
 rw [Yy] at bM;have hiI:(i:Int)<(m:Int):=by omega
 have yU:(0:Int)≤(i:Int):=by omega
 clear HC p3 ho gC fi zv PR Rz q xr nT Yy;go_wp2;go_ret;exact ⟨_,_,_,_,rfl,bM.out,nc.out⟩
end T
namespace B
open Go.RowKit Go.Lib
theorem rU(l:List Lk)(i:Nat):bm (l.take i)=(bm l).take (i*2):=by
 induction l generalizing i with
 | nil=>simp [bm]
 | cons p l ih =>
  cases i with
  | zero=>simp [bm]
  | succ i=>rw [List.take_succ_cons,ep,ep,ih,show (i+1)*2=i*2+1+1 by omega,List.take_succ_cons,List.take_succ_cons]
theorem DT(l:List Lk)(i:Nat):bm (l.drop i)=(bm l).drop (i*2):=by
 induction l generalizing i with
 | nil=>simp [bm]
 | cons p l ih =>
  cases i with
  | zero=>simp
  | succ i=>rw [List.drop_succ_cons,ep,ih,show (i+1)*2=i*2+1+1 by omega,List.drop_succ_cons,List.drop_succ_cons]
theorem ed{P:Program}(w:World)(dT sT ty elem:TypeId)(g o Hq Wt:Nat)(a:Addr)(Gh Vm:Nat)(cur:Array Value)(t:TypeId)(cs:List Value)(hu:P.underlying dT=some (.slice elem))(hs:(P.info? elem).map (·.size)=some 2)(hg:w.heap[g]?=some (.cells cur t (0,0)))(hn:cs.length=Nat.min Gh Hq*2)(GY:∀ j v,cs[j]?=some v→w.cell? (a.add j)=some v)(eE:o+cs.length≤cur.size)(h1:∀ v ∈ cs,v.oneCell'=true):(Builtin.copy_ #[dT,sT] ty #[.slice (some ⟨g,o,none⟩) Hq Wt,.slice (some a) Gh Vm]).run P w = .ok (goInt (Nat.min Gh Hq)) (w.setRow g (cur.toList.take o++cs++cur.toList.drop (o+cs.length)).toArray):=by
 have hl:=run_loadCells_list (P:=P) w a cs GY;have fi:=run_storeCells_at P g o t cs 0 cur w hg (by simpa using eE) h1
 cases hq:P.info? elem with
 | none=>simp [hq] at hs
 | some i =>
  have hi:i.size=2:=by simpa [hq] using hs
  simp [Builtin.copy_,run_underlying hu,Builtin.lenOf,Builtin.firstCells,sizeOf,typeInfo,hq,hi,← hn,hl,fi]
theorem lq{P:Program}(w:World)(t e ty:TypeId)(x y:Value)(ht:P.underlying t=some (.slice e))(hv:∀ w,(zeroValue e).run P w = .ok (.agg #[x,y]) w)(hx:x.oneCell'=true)(hy:y.oneCell'=true)(g o c:Nat)(cur:Array Value)(tt:TypeId)(hg:w.heap[g]?=some (.cells cur tt (0,0)))(eE:o+2≤cur.size):(Builtin.clear_ #[t] ty #[.slice (some ⟨g,o,none⟩) 1 c]).run P w = .ok (.tuple #[]) (w.setRow g (cur.toList.take o++[x,y]++cur.toList.drop (o+2)).toArray):=by
 have Xi:(Builtin.zeroCells (Value.agg #[x,y]).cells 1).toList=[x,y]:=by
  have:(Value.agg #[x,y]).cells=#[x,y]:=rfl;rw [this];simp [Builtin.zeroCells,Array.range]
 have fi:=run_storeCells_at P g o tt [x,y] 0 cur w hg (by simpa using eE) (by intro v SV;simp at SV;rcases SV with rfl | rfl <;> assumption)
 simp [Builtin.clear_,run_underlying ht,hv,Xi,fi]
theorem xK(base:Nat)(v:Value)(l:List Lk)(vb:Nat)(p:Lk)(w:World)(hm:l.length≤5864062014800)(ho:b7 w base v l)(dy:base≤w.heap.size)(hv:cV w (.slice (some ⟨vb,0,none⟩) 1 1) [p]):Calls prog 231 #[v,.int .i64 (l.length:Int),.slice (some ⟨vb,0,none⟩) 1 1] w fun e w'=>∃ u,e = .returned u∧b7 w' base u (l++[p])∧Below base w w':=by
 obtain ⟨a',c',w1,bg,aE,hg⟩:=fo base v _ l [p] w ho hv (by simp;omega) dy
 have aP:Below base w w1:=(Below.refl base w).grown hg dy (fun k hk=>(ho.dn k hk).1)
 have HO:=ab aE;have HB:=ab aP;have di:∃ a c,v = .slice a l.length c∧l.length≤c:=by
  obtain ⟨a,c,rfl,hle,_⟩:=ho.at;exact ⟨a,c,rfl,hle⟩
 obtain ⟨a,c,rfl,hle⟩:=di;rw [show ([p] : List Lk).length=1 from rfl] at bg
 obtain ⟨n,hn⟩ : ∃ n,n=l.length:=⟨_,rfl⟩;rw [← hn] at bg hle hm ⊢;have HN:=ab hn;clear aE hg aP ho hv hn;by_cases uL:c=n
 ·go_enter func231,ntmps231;go_wp2_with (first | (at_builtin;refine wpList_append_run 148 rfl (.tmp 23) (.tmp 24) rfl rfl _ _ rfl rfl _ _ bg ?_))
  clear bg;go_ret;exact ⟨_,rfl,by have:=HO.out;rwa [show l.length + [p].length=n+1 by rw [HN.out];rfl] at this,HB.out⟩
 ·go_enter func231,ntmps231;go_wp2_with (first | (at_builtin;refine wpList_append_run 148 rfl (.tmp 23) (.tmp 24) rfl rfl _ _ rfl rfl _ _ bg ?_))
  clear bg;go_ret;exact ⟨_,rfl,by have:=HO.out;rwa [show l.length + [p].length=n+1 by rw [HN.out];rfl] at this,HB.out⟩
theorem gZ{w:World}{g:Nat}{cur:Array Value}{t:TypeId}{l:List Lk}(hg:w.heap[g]?=some (.cells cur t (0,0)))(ht:cur.toList.take (l.length*2)=bm l)(i:Nat):∀ j u,(bm (l.drop i))[j]?=some u→w.cell? ⟨g,i*2+j,none⟩=some u:=by
 intro j u h;rw [DT,← ht,cN,cy] at h;split at h
 ·rw [Array.getElem?_toList] at h;simp [World.cell?,hg,h]
 ·cases h
theorem Of(w:World)(g vb i n1 c1:Nat)(cur vs:Array Value)(tA tB:TypeId)(dK:vb≠g)(hg:w.heap[g]?=some (.cells cur tA (0,0)))(hv:w.heap[vb]?=some (.cells vs tB (0,0)))(h0:cur.size≠0):(callFunc 251 #[.slice (some ⟨vb,0,none⟩) 1 1,.slice (some ⟨g,i,none⟩) n1 c1]).run prog w = .ok (.value (.bool false)) w:=by
 rw [run_callFunc_extern func251 (by kernel_rfl) (by kernel_rfl) (by kernel_rfl) (e:=Extern.SlicesOverlaps.overlaps #[148,148] #[4]) (by kernel_rfl),
  Lib.run_overlaps_apart w 148 4 179 underlying148 2 sizeOf179 ⟨vb,0,none⟩ ⟨g,i,none⟩ 1 1 n1 c1 dK tB tA vs.size cur.size (by simp [World.shape?,hv]) (by simp [World.shape?,hg]) h0 (by simp [World.frozen?,hv]) (by simp [World.frozen?,hv])]
 rfl
theorem tD(g c:Nat)(l:List Lk)(i vb:Nat)(p:Lk)(w:World)(cur:Array Value)(hi:i<l.length)(acX:c≤9223372036854775807)(dZ:l.length+1≤c)(hg:w.heap[g]?=some (.cells cur 179 (0,0)))(cx:cur.size=c*2)(ht:cur.toList.take (l.length*2)=bm l)(hv:w.heap[vb]?=some (.cells #[.string p.1,.int .i64 p.2] 179 (0,0)))(dK:vb≠g):Calls prog 231 #[.slice (some ⟨g,0,none⟩) l.length c,.int .i64 (i:Int),.slice (some ⟨vb,0,none⟩) 1 1] w fun e w'=>e = .returned (.slice (some ⟨g,0,none⟩) (l.length+1) c)∧∃ fN:Array Value,w'=w.drew.setRow g fN∧fN.size=c*2∧fN.toList.take ((l.length+1)*2)=bm (dI l i p):=by
 obtain ⟨n,hn⟩ : ∃ n,n=l.length:=⟨_,rfl⟩;have hov:=fun j n1 c1=>Of w g vb j n1 c1 cur _ _ _ dK hg hv (by omega)
 have jy:(prog.info? 179).map (·.size)=some 2:=by kernel_rfl
 have jF:(bm (l.drop i)).length=(n - i)*2:=by rw [aR,ao,hn]
 obtain ⟨C1,qP⟩ : ∃ C:Array Value,C=(cur.toList.take ((i+1)*2)++bm (l.drop i)++cur.toList.drop ((i+1)*2+(bm (l.drop i)).length)).toArray:=⟨_,rfl⟩;have mW:C1.size=c*2:=by rw [qP];simp [jF,cx];omega
 obtain ⟨C2,sq⟩ : ∃ C:Array Value,C=(C1.toList.take (i*2)++bm [p]++C1.toList.drop (i*2+(bm [p]).length)).toArray:=⟨_,rfl⟩;have pH:C2.size=c*2:=by rw [sq];simp [bm,mW];omega
 have ic:C2.toList.take ((n+1)*2)=bm (dI l i p):=by
  have e1:cur.toList.take (i*2)=bm (l.take i):=by
   rw [rU,← ht,gW,a8 (by omega)]
  have l1:(bm (l.take i)).length=i*2:=by rw [aR,ag];omega
  have e2:C1.toList.take (i*2)=bm (l.take i):=by
   rw [qP,List.toList_toArray,ay,aF (by simp [cx];omega),gW,a8 (by omega),e1]
  have e3:C1.toList.drop (i*2+(bm [p]).length)=bm (l.drop i)++cur.toList.drop ((i+1)*2+(bm (l.drop i)).length):=by
   rw [qP,List.toList_toArray,ay,il (by simp [cx,bm];omega),dB (by simp [cx,bm];omega)]
   rfl
  rw [sq,List.toList_toArray,e2,e3,dI,dh,show p::l.drop i=[p]++l.drop i from rfl,dh,← ay,← ay,aF (by simp only [ae,jF,l1,aR,aS];omega),aq (by simp only [ae,jF,l1,aR,aS];omega)]
 have Wc:∀ ty dc sc,(Builtin.copy_ #[148,148] ty #[.slice (some ⟨g,(i+1)*2,none⟩) (n - i) dc,.slice (some ⟨g,i*2,none⟩) (n+1 - i) sc]).run prog w.drew = .ok (goInt (Nat.min (n+1 - i) (n - i))) (w.drew.setRow g C1):=fun ty dc sc=>by
  rw [qP];exact ed w.drew 148 148 ty 179 g ((i+1)*2) (n - i) dc ⟨g,i*2,none⟩ (n+1 - i) sc cur 179 (bm (l.drop i)) underlying148 jy hg (by rw [jF];simp only [kN];split <;> omega) (fun j u hj=>by rw [bB];exact gZ hg ht i j u hj) (by rw [jF,cx];omega) (fU _)
 have fK:(w.drew.setRow g C1).heap[g]?=some (.cells C1 179 (0,0)):=setRow_heap w.drew g cur C1 179 (0,0) hg;have dX:(w.drew.setRow g C1).heap[vb]?=some (.cells #[.string p.1,.int .i64 p.2] 179 (0,0)):=(setRow_other w.drew g vb C1 dK).trans hv;have V9:∀ ty dc,(Builtin.copy_ #[148,148] ty #[.slice (some ⟨g,i*2,none⟩) (n+1 - i) dc,.slice (some ⟨vb,0,none⟩) 1 1]).run prog (w.drew.setRow g C1) = .ok (goInt (Nat.min 1 (n+1 - i))) (w.drew.setRow g C2):=fun ty dc=>by
  have h:=ed (w.drew.setRow g C1) 148 148 ty 179 g (i*2) (n+1 - i) dc ⟨vb,0,none⟩ 1 1 C1 179 (bm [p]) underlying148 jy fK (by simp only [aR,aS,kN];split <;> omega) (fun j u hj=>by
   rw [bB];have l6:(#[.string p.1,.int .i64 p.2] : Array Value)[j]?=some u:=by simpa [bm] using hj
   simp [World.cell?,dX,l6]) (by simp [bm,mW];omega) (fU _)
  rw [h,sq,setRow_setRow]
 have HF:=ab ic;have HZ:=ab pH;have mixed:prog.follows Departure.mixedOrders=true:=by kernel_rfl
 have mW:¬ ((i:Int)=(n:Int)):=by omega
 have vS:IntKind.i64.wrap ((i:Int)+1)=(i:Int)+1:=by rw [IntKind.wrap_i64];omega
 have Ri:IntKind.i64.wrap ((n:Int)+1)=(n:Int)+1:=by rw [IntKind.wrap_i64];omega
 have Xo:((i:Int)+1).toNat=i+1:=by omega
 have acd:((n:Int)+1).toNat=n+1:=by omega
 have aP:(0:Int)≤(i:Int)+1:=by omega
 have aO:¬ (c=i+1):=by omega
 have eO:¬ (c=i):=by omega
 have Ru:(i:Int)≤(n:Int):=by omega
 have bF:(i:Int)≤(n:Int)+1:=by omega
 have V3:i≤n:=by omega
 have acK:i+1≤n+1:=by omega
 rw [← hn] at dZ ⊢;clear qP sq ic pH jF fK dX ht cx hg hv hn hi;go_enter func231,ntmps231;go_wp2_with (simp only [hov])
 go_region_law_o (refine step_copy_runI rfl _ _ 148 148 rfl _ _ (by simp [Act.eval,Act.put]) (by simp [Act.eval,Act.put]) (Wc _ _ _) ?_)
 go_wp2_with (at_builtin;refine wpList_copy_runI _ rfl _ _ 148 148 rfl _ _ rfl rfl (V9 _ _) ?_)
 go_ret;exact ⟨rfl,C2,rfl,HZ.out,HF.out⟩
theorem wk(x y:Value)(k:Nat):(Builtin.zeroCells (Value.agg #[x,y]).cells k).size=k*2:=by
 have:(Value.agg #[x,y]).cells=#[x,y]:=rfl;simp [Builtin.zeroCells,this]
theorem tE(g c:Nat)(l:List Lk)(i vb:Nat)(p:Lk)(w:World)(cur:Array Value)(hi:i<l.length)(hm:l.length≤5864062014800)(Cp:l.length≤c)(dZ:c<l.length+1)(hg:w.heap[g]?=some (.cells cur 179 (0,0)))(ht:cur.toList.take (l.length*2)=bm l)(hv:w.heap[vb]?=some (.cells #[.string p.1,.int .i64 p.2] 179 (0,0))):Calls prog 231 #[.slice (some ⟨g,0,none⟩) l.length c,.int .i64 (i:Int),.slice (some ⟨vb,0,none⟩) 1 1] w fun e w'=>∃ G:Nat,e = .returned (.slice (some ⟨w.heap.size,0,none⟩) (l.length+1) G)∧l.length+1≤G∧G≤maxLen∧∃ fN:Array Value,w'.heap[w.heap.size]?=some (.cells fN 179 (0,0))∧Below w.heap.size w w'∧fN.size=G*2∧fN.toList.take ((l.length+1)*2)=bm (dI l i p):=by
 obtain ⟨n,hn⟩ : ∃ n,n=l.length:=⟨_,rfl⟩;obtain ⟨i0,yU,n7,GR,O7⟩:=info_parts lQ;have jy:(prog.info? 179).map (·.size)=some 2:=by rw [yU];simp [GR]
 have PA:g<w.heap.size:=(Array.getElem?_eq_some_iff.1 hg).1;have Yq:vb<w.heap.size:=(Array.getElem?_eq_some_iff.1 hv).1;have jF:(bm (l.drop i)).length=(n - i)*2:=by rw [aR,ao,hn]
 have l1:(bm (l.take i)).length=i*2:=by rw [aR,ag];omega
 have Rr:(n:Int)+1 - (i:Int)=((n+1 - i:Nat):Int):=by omega
 have Rv:i+(n+1 - i)=n+1:=by omega
 have hold:(Builtin.firstCells i0.size i (.slice (some ⟨g,0,none⟩) i c)).run prog w.drew = .ok (bm (l.take i)).toArray w.drew:=by
  rw [GR];refine run_firstCells_some w.drew 2 i ⟨g,0,none⟩ i c (bm (l.take i)) l1 (fun j v hj=>?_)
  rw [bB,Nat.zero_add];rw [rU,cy] at hj;split at hj
  ·have:=gZ hg ht 0 j v (by simpa using hj)
   simpa using this
  ·cases hj
 obtain ⟨G,hG⟩ : ∃ G,G=grownCap w (n+1) c 179:=⟨_,rfl⟩;obtain ⟨R,hR⟩ : ∃ R:Array Value,R=(bm (l.take i)).toArray++Builtin.zeroCells (Value.agg #[.string ByteArray.empty,.int .i64 0]).cells (n+1 - i)++Builtin.zeroCells (Value.agg #[.string ByteArray.empty,.int .i64 0]).cells (G - (n+1)):=⟨_,rfl⟩;have VN:∀ ty,(Builtin.append_ #[148,3] ty #[.slice (some ⟨g,0,none⟩) i c,.int .i64 ((n:Int)+1 - (i:Int))]).run prog w =
   .ok (.slice (some ⟨w.heap.size,0,none⟩) (n+1) G) (w.drew.alloc (.cells R 179)):=fun ty=>by
  have h:=Lib.run_append_grow_zeros w 148 3 ty 179 i0 _ .i64 .i64 underlying148 underlying3 yU n7 (some ⟨g,0,none⟩) i c (bm (l.take i)) hold (n+1 - i) (by omega) (by omega) (by omega) (by omega) (by rw [O7];omega) (by rw [O7,Rv];exact growslice_fits (by omega) (by omega))
  rw [Rv] at h;rw [Rr,hR,hG];exact h
 have hGn:n+1≤G:=by rw [hG];exact grownCap_ge w _ _ _
 have Wn:G≤maxLen:=by rw [hG];exact grownCap_le_maxLen w (n+1) c 179 (by unfold maxLen;omega)
 have Wj:R.size=G*2:=by
  rw [hR,ew,ew,wk,wk];simp [l1];omega
 obtain ⟨W1,iy⟩ : ∃ W1,W1=w.drew.alloc (.cells R 179):=⟨_,rfl⟩;have Jl:W1.heap[w.heap.size]?=some (.cells R 179 (0,0)):=by rw [iy];exact heap_alloc_new w.drew _
 have FK:Below w.heap.size w W1:=by rw [iy];exact (aN (Below.refl _ _)).alloc (aj _) _
 have fK:W1.heap[g]?=some (.cells cur 179 (0,0)):=(FK.block g PA).trans hg;have dX:W1.heap[vb]?=some (.cells #[.string p.1,.int .i64 p.2] 179 (0,0)):=(FK.block vb Yq).trans hv;rw [← iy] at VN;obtain ⟨C1,qP⟩ : ∃ C:Array Value,C=(R.toList.take (i*2)++bm [p]++R.toList.drop (i*2+(bm [p]).length)).toArray:=⟨_,rfl⟩;have mW:C1.size=G*2:=by rw [qP];simp [bm,Wj];omega
 obtain ⟨C2,sq⟩ : ∃ C:Array Value,C=(C1.toList.take ((i+1)*2)++bm (l.drop i)++C1.toList.drop ((i+1)*2+(bm (l.drop i)).length)).toArray:=⟨_,rfl⟩;have pH:C2.size=G*2:=by rw [sq];simp [jF,mW];omega
 have ic:C2.toList.take ((n+1)*2)=bm (dI l i p):=by
  have e0:R.toList.take (i*2)=bm (l.take i):=by
   rw [hR,b6,b6,List.toList_toArray,ay,aF (by omega),aq (by omega)]
  have e1:C1.toList.take ((i+1)*2)=bm (l.take i)++bm [p]:=by
   rw [qP,List.toList_toArray,e0,aF (by simp only [ae,l1,aR,aS];omega),aq (by simp only [ae,l1,aR,aS];omega)]
  rw [sq,List.toList_toArray,e1,dI,dh,show p::l.drop i=[p]++l.drop i from rfl,dh,← ay,aF (by simp only [ae,jF,l1,aR,aS];omega),aq (by simp only [ae,jF,l1,aR,aS];omega)]
 have VU:vb≠w.heap.size:=by omega
 have BL:g≠w.heap.size:=by omega
 have PN:∀ ty dc,(Builtin.copy_ #[148,148] ty #[.slice (some ⟨w.heap.size,i*2,none⟩) (n+1 - i) dc,.slice (some ⟨vb,0,none⟩) 1 1]).run prog W1 = .ok (goInt (Nat.min 1 (n+1 - i))) (W1.setRow w.heap.size C1):=fun ty dc=>by
  rw [qP];exact ed W1 148 148 ty 179 w.heap.size (i*2) (n+1 - i) dc ⟨vb,0,none⟩ 1 1 R 179 (bm [p]) underlying148 jy Jl (by simp only [aR,aS,kN];split <;> omega) (fun j u hj=>by
   rw [bB];have l6:(#[.string p.1,.int .i64 p.2] : Array Value)[j]?=some u:=by simpa [bm] using hj
   simp [World.cell?,dX,l6]) (by simp [bm,Wj];omega) (fU _)
 have Jk:(W1.setRow w.heap.size C1).drew.heap[w.heap.size]?=some (.cells C1 179 (0,0)):=setRow_heap W1 w.heap.size R C1 179 (0,0) Jl;have zE:(W1.setRow w.heap.size C1).drew.heap[g]?=some (.cells cur 179 (0,0)):=(setRow_other W1 w.heap.size g C1 BL).trans fK;have PM:∀ ty dc sc,(Builtin.copy_ #[148,148] ty #[.slice (some ⟨w.heap.size,(i+1)*2,none⟩) (n - i) dc,.slice (some ⟨g,i*2,none⟩) (n - i) sc]).run prog (W1.setRow w.heap.size C1).drew = .ok (goInt (Nat.min (n - i) (n - i))) ((W1.setRow w.heap.size C1).drew.setRow w.heap.size C2):=fun ty dc sc=>by
  rw [sq];exact ed (W1.setRow w.heap.size C1).drew 148 148 ty 179 w.heap.size ((i+1)*2) (n - i) dc ⟨g,i*2,none⟩ (n - i) sc C1 179 (bm (l.drop i)) underlying148 jy Jk (by rw [jF];simp only [kN];split <;> omega) (fun j u hj=>by rw [bB];exact gZ zE ht i j u hj) (by rw [jF,mW];omega) (fU _)
 have PY:((W1.setRow w.heap.size C1).drew.setRow w.heap.size C2).heap[w.heap.size]?=some (.cells C2 179 (0,0)):=setRow_heap (W1.setRow w.heap.size C1).drew w.heap.size C1 C2 179 (0,0) Jk;have Wo:Below w.heap.size w ((W1.setRow w.heap.size C1).drew.setRow w.heap.size C2):=below_setRow (aN (below_setRow FK (aj _) C1)) (aj _) C2;obtain ⟨s,hs⟩ : ∃ s,s=w.heap.size:=⟨_,rfl⟩;rw [← hs] at VN PN PM PY Wo ⊢;have HF:=ab ic;have HZ:=ab pH;have HN3:=ab PY;have dD:=ab Wo;have HG:=ab Wn;have mixed:prog.follows Departure.mixedOrders=true:=by kernel_rfl
 have adg:G≤9223372036854775807:=by unfold maxLen at Wn;omega
 have Jg:¬ ((i:Int)=(n:Int)):=by omega
 have vS:IntKind.i64.wrap ((i:Int)+1)=(i:Int)+1:=by rw [IntKind.wrap_i64];omega
 have Ri:IntKind.i64.wrap ((n:Int)+1)=(n:Int)+1:=by rw [IntKind.wrap_i64];omega
 have MK:IntKind.i64.wrap ((n:Int)+1 - (i:Int))=(n:Int)+1 - (i:Int):=by rw [IntKind.wrap_i64];omega
 have Xo:((i:Int)+1).toNat=i+1:=by omega
 have aP:(0:Int)≤(i:Int)+1:=by omega
 have bF:(i:Int)≤(n:Int)+1:=by omega
 have aO:¬ (G=i+1):=by omega
 have mB:¬ (G=i):=by omega
 have eO:¬ (c=i):=by omega
 have Ru:(i:Int)≤(n:Int):=by omega
 have V3:i≤n:=by omega
 have hic:(i:Int)≤(c:Int):=by omega
 have hcr:(c:Int)<(n:Int)+1:=by omega
 rw [← hn] at dZ ⊢;clear qP sq ic pH mW jF fK dX zE Jl Jk PY FK Wo ht hg hv hi l1 Rr Rv hold Wj hR hG PA Yq yU n7 GR O7 jy hn Wn VU BL iy hs;go_enter func231,ntmps231;go_wp2_with (first
  | (at_builtin;refine Lib.wpList_append_run _ rfl _ _ _ _ rfl _ _ rfl rfl _ _ (VN _) ?_)
  | (at_builtin;refine wpList_copy_runI _ rfl _ _ 148 148 rfl _ _ rfl rfl (PN _ _) ?_))
 go_region_law_o (refine step_copy_runI rfl _ _ 148 148 rfl _ _ (by simp [Act.eval,Act.put]) (by simp [Act.eval,Act.put]) (PM _ _ _) ?_)
 go_wp2;go_ret;exact ⟨G,rfl,hGn,HG.out,C2,HN3.out,dD.out,HZ.out,HF.out⟩
theorem b7.row{w:World}{base g c:Nat}{l:List Lk}{cur:Array Value}(hb:base≤g)(hg:w.heap[g]?=some (.cells cur 179 (0,0)))(Cp:l.length≤c)(hc:c≤maxLen)(hs:cur.size=c*2)(ht:cur.toList.take (l.length*2)=bm l):b7 w base (.slice (some ⟨g,0,none⟩) l.length c) l :=
 ⟨aR l,.inr ⟨g,c,cur,rfl,hb,hg,Cp,hc,hs,ht⟩⟩
theorem fe(l:List Lk)(i:Nat)(p:Lk)(h:i≤l.length):(dI l i p).length=l.length+1:=by
 unfold dI;rw [ae,List.length_cons,ag,ao];omega
theorem xQ(l:List Lk)(p:Lk):dI l l.length p=l++[p]:=by simp [dI]
theorem oG(base:Nat)(v:Value)(l:List Lk)(i vb:Nat)(p:Lk)(w:World)(hm:l.length≤5864062014800)(hi:i≤l.length)(ho:b7 w base v l)(dy:base≤w.heap.size)(hv:ax w vb #[.string p.1,.int .i64 p.2] 179)(dK:v.ownBlock≠some vb):Calls prog 231 #[v,.int .i64 (i:Int),.slice (some ⟨vb,0,none⟩) 1 1] w fun e w'=>∃ u,e = .returned u∧b7 w' base u (dI l i p)∧Below base w w':=by
 by_cases Ru:i=l.length
 ·subst Ru;rw [xQ];refine xK base v l vb p w hm ho dy ⟨_,_,rfl,aj _,fun h=>(by cases h),fun j hj=>⟨_,_,rfl,?_,?_⟩⟩
  ·have:j=0:=by simpa using hj
   subst this;exact hv.c0
  ·have:j=0:=by simpa using hj
   subst this;exact hv.c1
 ·have bP:i<l.length:=by omega
  rcases ho.2 with ⟨_,h0⟩ | ⟨g,c,cur,rfl,hb,hg,Cn,sQ,fs,mX⟩
  ·omega
  ·by_cases hr:l.length+1≤c
   ·refine (tD g c l i vb p w cur bP (by unfold maxLen at sQ;omega) hr hg fs mX hv (fun h=>dK (by rw [h];rfl))).mono ?_
    rintro e w' ⟨rfl,fN,rfl,h2,h3⟩;refine ⟨_,rfl,?_,below_setRow (aN (Below.refl _ _)) hb fN⟩;have:=b7.row (l:=dI l i p) hb (setRow_heap w.drew g cur fN 179 (0,0) hg) (by rw [fe l i p hi];exact hr) sQ h2 (by rw [fe l i p hi];exact h3)
    rwa [fe l i p hi] at this
   ·refine (tE g c l i vb p w cur bP hm Cn (by omega) hg mX hv).mono ?_
    rintro e w' ⟨G,rfl,h1,h2,fN,h3,h4,h5,h6⟩;refine ⟨_,rfl,?_,h4.mono dy⟩;have:=b7.row (l:=dI l i p) dy h3 (by rw [fe l i p hi];exact h1) h2 h5 (by rw [fe l i p hi];exact h6)
    rwa [fe l i p hi] at this
end B
end Go.Proofs.YtihmgigfkmofnaaGreatDoor
