import Derived.Test.YtihmgigfkmofnaaGreatDoorG04
import Derived.Deep.RegionLaw
set_option maxHeartbeats 8000000
set_option maxRecDepth 1000000
open Go.Proofs.Tryz
namespace Go.Proofs.YtihmgigfkmofnaaGreatDoor
namespace B
open Go.RowKit Go.Lib
theorem je(g:Nat)(t:TypeId):∀ (vs:List Value) (o:Nat) (cur:Array Value) (w:World),w.heap[g]?=some (.cells cur t (0,0))→o+vs.length≤cur.size →
  w.setCells g o vs=w.setRow g (cur.toList.take o++vs++cur.toList.drop (o+vs.length)).toArray
 | [],o,cur,w,hg,_=>by
  simp only [World.setCells,List.append_nil,List.length_nil,Nat.add_zero,aH,Array.toArray_toList];rw [setRow_self w g cur t (0,0) hg]
 | v::r,o,cur,w,hg,hl=>by
  have ho:o<cur.size:=by simp at hl;omega
  rw [World.setCells,setCell_eq_setRow w g o cur t (0,0) v hg,je g t r (o+1) (cur.setIfInBounds o v) _ (setRow_heap w g cur _ t _ hg) (by simp at hl ⊢;omega),setRow_setRow]
  congr 1
  have e:=list_seg_step cur.toList o v r (by simp at hl ⊢;omega)
  simpa [Array.toList_setIfInBounds,Nat.add_assoc] using e
theorem xV(g c:Nat)(l:List Lk)(i m:Nat)(w:World)(cur:Array Value)(hl:l.length=m+1)(hi:i≤m)(Cq:l.length≤c)(hg:w.heap[g]?=some (.cells cur 179 (0,0)))(b8:cur.size=c*2)(ht:cur.toList.take (l.length*2)=bh l):Calls prog 208 #[.slice (some ⟨g,0,none⟩) (m+1) c,.int .i64 (i:Int),.int .i64 ((i:Int)+1)] w fun e w'=>e = .returned (.slice (some ⟨g,0,none⟩) m c)∧∃ fJ:Array Value,w'=w.drew.setRow g fJ∧fJ.size=c*2∧fJ.toList.take (m*2)=bh (cA l i):=by
 obtain ⟨i0,yW,mV,GV,Pu⟩:=info_parts lO;have jB:(bh (l.drop (i+1))).length=(m - i)*2:=by rw [aT,ao,hl];omega
 have l1:(bh (l.take i)).length=i*2:=by rw [aT,ag];omega
 obtain ⟨A,hA,G2⟩ : ∃ A:Addr,(if c=i+1 then some (⟨g,0,none⟩ : Addr) else some ⟨g,(i+1)*2,none⟩)=some A∧Hid (∀ t u,(bh (l.drop (i+1)))[t]?=some u→w.drew.cell? (A.add t)=some u):=by
  by_cases h:c=i+1
  ·refine ⟨⟨g,0,none⟩,by simp [h],fun t u hu=>?_⟩
   have h0:(bh (l.drop (i+1))).length=0:=by rw [jB];omega
   rw [List.length_eq_zero_iff.1 h0] at hu;simp at hu
  ·refine ⟨⟨g,(i+1)*2,none⟩,by simp [h],fun t u hu=>?_⟩
   rw [bt];exact gZ hg ht (i+1) t u hu
 obtain ⟨C1,qF⟩ : ∃ C:Array Value,C=(cur.toList.take (i*2)++bh (l.drop (i+1))++cur.toList.drop (i*2+(bh (l.drop (i+1))).length)).toArray:=⟨_,rfl⟩;have mU:C1.size=c*2:=by rw [qF];simp [jB,b8];omega
 have gL:w.drew.setCells g (0+i*2) (bh (l.drop (i+1)))=w.drew.setRow g C1:=by
  rw [Nat.zero_add,qF];exact je g 179 _ _ cur w.drew hg (by rw [jB,b8];omega)
 have fO:(w.drew.setRow g C1).heap[g]?=some (.cells C1 179 (0,0)):=setRow_heap w.drew g cur C1 179 (0,0) hg;obtain ⟨C2,rT⟩ : ∃ C:Array Value,C=(C1.toList.take (m*2)++[Value.string ⟨#[]⟩,Value.int .i64 0]++C1.toList.drop (m*2+2)).toArray:=⟨_,rfl⟩;have py:C2.size=c*2:=by rw [rT];simp [mU];omega
 have pP:∀ ty cc,(Builtin.clear_ #[148] ty #[.slice (some ⟨g,m*2,none⟩) 1 cc]).run prog (w.drew.setRow g C1) = .ok (.tuple #[]) (w.drew.setRow g C2):=fun ty cc=>by
  rw [kZ (w.drew.setRow g C1) 148 179 ty _ _ underlying148 zeroValue179 rfl rfl g (m*2) cc C1 179 fO (by omega),rT,setRow_setRow]
 have ic:C2.toList.take (m*2)=bh (cA l i):=by
  have e1:cur.toList.take (i*2)=bh (l.take i):=by
   rw [xO,← ht,fM,a6 (by omega)]
  rw [rT,List.toList_toArray,ay,aG (by simp [mU];omega),fM,lB,qF,List.toList_toArray,e1,cA,cZ,aG (by simp only [ae,jB,l1];omega),al (by simp only [ae,jB,l1];omega)]
 have s1:Hid ((bh (l.drop (i+1))).length=(m - i)*2):=jB;have s2:Hid (∀ u ∈ bh (l.drop (i+1)),u.oneCell'=true):=gh _;have s3:Hid (∀ t,t<(bh (l.drop (i+1))).length→(w.drew.cell? ⟨g,0+i*2+t,none⟩).isSome=true∧w.drew.frozen? ⟨g,0+i*2+t,none⟩=false):=by
  intro t zu;rw [jB] at zu;refine ⟨?_,by show World.frozen? w _=false;simp [World.frozen?,hg]⟩
  show (World.cell? w _).isSome=true
  simp only [World.cell?,hg];rw [Array.getElem?_eq_getElem (by omega)]
  rfl
 have HW:Hid (w.drew.setCells g (0+i*2) (bh (l.drop (i+1)))=w.drew.setRow g C1):=gL;have HF:=ab ic;have HZ:=ab py;have mixed:prog.follows Departure.mixedOrders=true:=by kernel_rfl
 have hq:¬ ((i:Int)=(i:Int)+1):=by omega
 have RF:(0:Int)≤(i:Int)+1:=by omega
 have PF:(i:Int)≤(i:Int)+1:=by omega
 have X0:(i:Int)+1≤(m:Int)+1:=by omega
 have hq3:(m:Int)+1≤(c:Int):=by omega
 have XX:((i:Int)+1).toNat=i+1:=by omega
 have hic:i≤c:=by omega
 have adF:(i:Int)≤(c:Int):=by omega
 have him:(i:Int)≤(m:Int):=by omega
 have Lg:i+(m - i)=m:=by omega
 have hmc:¬ c=m:=by omega
 rw [hl] at Cq;clear qF rT ic py mU fO ht b8 hg jB l1 gL hl mV Pu;go_enter func208,ntmps208;go_wp2_with fail;go_region_law_o (refine step_append_room rfl (.tmp 22) (.tmp 25) 148 rfl 179 i0 2 underlying148 yW GV g 0 i c (by simp [Act.eval,Act.put]) A (m - i) (c - (i+1)) (bh (l.drop (i+1))) (by simp [Act.eval,Act.put]) s1.out G2.out s2.out (by omega) s3.out ?_;rw [HW.out,Lg])
 go_wp2_with (simp only [pP])
 go_ret;exact ⟨rfl,C2,rfl,HZ.out,HF.out⟩
theorem w9(l:List Lk)(i:Nat)(h:i<l.length):(cA l i).length+1=l.length:=by
 unfold cA;rw [ae,ag,ao];omega
theorem oz(base:Nat)(v:Value)(l:List Lk)(i:Nat)(w:World)(hi:i<l.length)(ho:b7 w base v l):Calls prog 208 #[v,.int .i64 (i:Int),.int .i64 ((i:Int)+1)] w fun e w'=>∃ u,e = .returned u∧b7 w' base u (cA l i)∧Below base w w':=by
 have XZ:=w9 l i hi;rcases ho.2 with ⟨_,h0⟩ | ⟨g,c,cur,rfl,hb,hg,BQ,sB,fI,mf⟩
 ·omega
 ·have h:=xV g c l i (cA l i).length w cur (by omega) (by omega) BQ hg fI mf
  rw [XZ] at h;refine h.mono ?_
  rintro e w' ⟨rfl,fJ,rfl,h2,h3⟩;exact ⟨_,rfl,b7.row (l:=cA l i) hb (setRow_heap w.drew g cur fJ 179 (0,0) hg) (by omega) sB h2 h3,below_setRow (aK (Below.refl _ _)) hb fJ⟩
end B
open Go.RowKit
def jS(A:Nat→Addr)(w:World):Prop:=dy 4 eV A w∧w.cell? ⟨11,0,none⟩=some (.iface 360 (.pointer (some (A 11))))
theorem jS.below{A:Nat→Addr}{w w':World}(h:jS A w)(hb:Below w.heap.size w w'):jS A w' :=
 ⟨h.1.keep hb,(hb.cell (p:=⟨11,0,none⟩) (World.block_lt_of_cell? w _ h.2)).trans h.2⟩
theorem dy.J2{n m:Nat}{G:Nat→Nat}{A:Nat→Addr}{w:World}(h:dy n G A w)(hm:m≤n):dy m G A w :=
 ⟨fun i hi=>h.1 i (by omega),fun i j hi hj he=>h.2 i j (by omega) (by omega) he⟩
theorem fh(p:Option Addr)(w:World):(binOp .neq 32 (.iface 360 (.pointer p)) .nilIface).run prog w = .ok (.bool true) w:=by
 have h2:∀ d:Nat,(Op.equalIn (d+1) 32 (.iface 360 (.pointer p)) .nilIface).run prog w = .ok false w:=fun d=>by
  simp [Op.equalIn,run_underlying underlying32]
 simp only [binOp];simp [Op.equal,Op.maxDepth,h2 9999]
def gC(A:Nat→Addr):Option Nat→Value
 | none=>.nilIface
 | some k=>.iface 360 (.pointer (some (A k)))
namespace B
def MP(A:Nat→Addr)(w:World):Prop:=w.cell? ⟨0,0,none⟩=some (.iface 360 (.pointer (some (A 0))))
theorem MP.below{A:Nat→Addr}{w w':World}(h:MP A w)(hb:Below w.heap.size w w'):MP A w':=(hb.cell (p:=⟨0,0,none⟩) (World.block_lt_of_cell? w _ h)).trans h
theorem _root_.Go.Proofs.YtihmgigfkmofnaaGreatDoor.jS.a{A:Nat→Addr}{w:World}(h:jS A w):MP A w:=(h.1.1 0 (by decide)).1
def zE(l:List Lk)(i:Int):Bool:=decide (0≤i) && decide (i≤(l.length:Int))
theorem Mt(f i:Int)(v:Value)(l:List Lk)(w:World)(hr:di w v l):Calls prog 160 #[.agg #[.int .i64 f,v],.int .i64 i] w fun e w'=>e = .returned (.bool (zE l i))∧Below w.heap.size w w':=by
 obtain ⟨a,c,hv⟩:=hr.form;subst hv;obtain ⟨n,hn⟩ : ∃ n,n=l.length:=⟨_,rfl⟩;have HG:Hid (zE l i=(decide (0≤i) && decide (i≤(n:Int)))):=by show _=_;rw [hn];rfl
 rw [← hn];have HB:=ab (ai w (.cells #[.int .i64 f,.slice a n c] 150));clear hr hn;by_cases h0:0≤i
 ·by_cases h1:i≤(n:Int)
  ·go_enter func160,ntmps160;go_wp2;go_ret;exact ⟨by rw [HG.out];simp [h0,h1],HB.out⟩
  ·go_enter func160,ntmps160;go_wp2;go_ret;exact ⟨by rw [HG.out];simp [h0,h1],HB.out⟩
 ·have HF:Hid (zE l i=false):=by show _=_;rw [HG.out];simp [h0]
  clear HG;go_enter func160,ntmps160;go_wp2;go_ret;exact ⟨by rw [HF.out];rfl,HB.out⟩
def qc(l:List Lk)(i:Int):Bool:=decide (0≤i) && decide (i<(l.length:Int))
theorem Ms(f i:Int)(v:Value)(l:List Lk)(w:World)(hr:di w v l):Calls prog 207 #[.agg #[.int .i64 f,v],.int .i64 i] w fun e w'=>e = .returned (.bool (qc l i))∧Below w.heap.size w w':=by
 obtain ⟨a,c,hv⟩:=hr.form;subst hv;obtain ⟨n,hn⟩ : ∃ n,n=l.length:=⟨_,rfl⟩;have HG:Hid (qc l i=(decide (0≤i) && decide (i<(n:Int)))):=by show _=_;rw [hn];rfl
 rw [← hn];have HB:=ab (ai w (.cells #[.int .i64 f,.slice a n c] 150));clear hr hn;by_cases h0:0≤i
 ·by_cases h1:i<(n:Int)
  ·go_enter func207,ntmps207;go_wp2;go_ret;exact ⟨by rw [HG.out];simp [h0,h1],HB.out⟩
  ·go_enter func207,ntmps207;go_wp2;go_ret;exact ⟨by rw [HG.out];simp [h0,h1],HB.out⟩
 ·have HF:Hid (qc l i=false):=by show _=_;rw [HG.out];simp [h0]
  clear HG;go_enter func207,ntmps207;go_wp2;go_ret;exact ⟨by rw [HF.out];rfl,HB.out⟩
theorem au.one{w:World}{b:Nat}{x y:Value}{t:TypeId}(h:au w b #[x,y] t)(y':Value):au (w.setCell ⟨b,1,none⟩ y') b #[x,y'] t:=by
 have:=vE h x y';have e:w.setCell ⟨b,0,none⟩ x=w:=by
  unfold au at h;rw [setCell_eq_setRow w b 0 #[x,y] t (0,0) x h];exact setRow_self w b #[x,y] t (0,0) h
 rwa [e] at this
theorem Ml(A:Nat→Addr)(f i:Int)(v:Value)(l:List Lk)(w:World)(hm:l.length≤5864062014800)(hr:di w v l)(hE:MP A w):Calls prog 167 #[.agg #[.int .i64 f,v],.int .i64 i] w fun e w'=>((qc l i=true∧∃ u,e = .returned (.tuple #[.agg #[.int .i64 f,u],.nilIface])∧b7 w' w.heap.size u (cA l i.toNat))∨(qc l i=false∧e = .returned (.tuple #[.agg #[.int .i64 0,.slice none 0 0],.iface 360 (.pointer (some (A 0)))])))∧Below w.heap.size w w':=by
 obtain ⟨a,cap,hv⟩:=hr.form;subst hv;obtain ⟨n,hn⟩ : ∃ n,n=l.length:=⟨_,rfl⟩;rw [← hn] at hm hr ⊢;have q0:=ai w (.cells #[.int .i64 f,.slice a n cap] 150);have x0:=au.new w #[.int .i64 f,.slice a n cap] 150;have s0:(w.alloc (.cells #[.int .i64 f,.slice a n cap] 150)).heap.size=w.heap.size+1:=by simp
 generalize Cw:w.alloc (.cells #[.int .i64 f,.slice a n cap] 150)=W0 at *;have q1:=ai W0 (.cells #[.int .i64 0,.slice none 0 0] 150);have x1:=au.new W0 #[.int .i64 0,.slice none 0 0] 150;have s1:(W0.alloc (.cells #[.int .i64 0,.slice none 0 0] 150)).heap.size=W0.heap.size+1:=by simp
 generalize gL:W0.alloc (.cells #[.int .i64 0,.slice none 0 0] 150)=W1 at *;have Ie:=ab (x0.below q1);have zL:=ab x1;have HQ:=ab (Below.next q0 q1);have HR:=ab (hr.below (Below.next q0 q1));have HE:=ab (hE.below (Below.next q0 q1));have HS:Hid (W0.heap.size=w.heap.size+1∧W1.heap.size=w.heap.size+2):=⟨s0,by rw [s1,s0]⟩
 have b1:¬ w.heap.size=W0.heap.size:=by omega
 have b2:¬ W0.heap.size=w.heap.size:=by omega
 have oH:0<w.heap.size:=World.block_lt_of_cell? w _ hE;have b3:¬ 0=W0.heap.size:=by omega
 have b4:¬ W0.heap.size=0:=by omega
 have HN:=ab hn;have HH:=ab (Ms f i _ l W1 HR.out);have p0:=Ie.out.c0;have p1:=Ie.out.c1;clear q0 x0 q1 x1 hr hE hn s0 s1 oH;go_enter func167,ntmps167;go_wp2_with fail;refine HH.out.mono ?_
 rintro e w1 ⟨rfl,aM⟩;have bN:=ab aM;clear aM HH p0 p1;by_cases hg:qc l i=true
 ·rw [hg];have HG:=ab hg;simp only [qc,bU,decide_eq_true_eq] at hg;obtain ⟨k,hk⟩ : ∃ k:Nat,i=(k:Int):=⟨i.toNat,by omega⟩
  subst hk;have de:k<l.length:=by omega
  have HK:=ab de;have p0:=(Ie.out.below bN.out).c0;have p1:=(Ie.out.below bN.out).c1;have sq:=ab (eU (.slice a n cap) l w1 (by have:=HN.out;omega) (HR.out.below bN.out))
  clear de;go_wp2_with fail;refine sq.out.mono ?_
  rintro e w2 ⟨u2,rfl,ja,aS⟩;have HD:=ab (oz w1.heap.size u2 l k w2 HK.out ja);have vR:IntKind.i64.wrap ((k:Int)+1)=(k:Int)+1:=by have:=HK.out;have:=HN.out;rw [IntKind.wrap_i64];omega
  have bG:=ab aS;clear aS ja sq p0 p1;go_wp2_with fail;refine HD.out.mono ?_
  rintro e w3 ⟨u,rfl,lF,bQ⟩;have HBw:Hid (Below W1.heap.size W1 w3):=Below.next bN.out (bG.out.trans bQ);obtain ⟨ua,uc,hu⟩:=lF.form;obtain ⟨un,Za⟩ : ∃ n,n=(cA l k).length:=⟨_,rfl⟩;rw [← Za] at hu;subst hu;have HO:=ab lF;clear Za;have mh:=ab bN.out.size;have x0:=Ie.out.below HBw.out;have x1:=zL.out.below HBw.out;have p0:=x0.c0;have p1:=x0.c1;have p2:=x0.free 1;have p3:=x1.c0;have p4:=x1.c1;have p5:=x1.free 0;have p6:=x1.free 1;have ajD:=ab x0;have Ic:=ab x1;clear bQ lF x0 x1 bG HD;go_wp2_with fail;have hx:=Ic.out.other (j:=1) b2 (.slice ua un uc);have ho:=HO.out.put (g:=w.heap.size) (j:=1) (fun h=>by have:=(HO.out.dF _ h).1;have:=mh.out;have:=HS.out;omega) (.slice ua un uc)
  have ja:=(ho.xh (g:=W0.heap.size) (by have:=mh.out;have:=HS.out;omega) (.int .i64 f) (.slice ua un uc)).mono (b2:=w.heap.size) (by have:=mh.out;have:=HS.out;omega)
  have bO:=b9 (b:=W0.heap.size) (x:=.int .i64 f) (y:=.slice ua un uc) ((HQ.out.trans (HBw.out.mono (by have:=HS.out;omega))).setCell (p:=⟨w.heap.size,1,none⟩) (aj _) (.slice ua un uc)) (by have:=HS.out;omega)
  exact bodyPost_ret (aN rfl _ _ W0.heap.size 150 _ (0,0) _ rfl (hx.two _ _) underlying150 rfl (by kernel_rfl)) rfl ⟨.inl ⟨HG.out,_,rfl,ja⟩,bO⟩
 ·rw [Bool.not_eq_true] at hg;rw [hg];have HG:=ab hg;have x1:=zL.out.below bN.out;have e0:w1.cell? ⟨0,0,none⟩=some (.iface 360 (.pointer (some (A 0)))):=HE.out.below bN.out;have p3:=x1.c0;have p4:=x1.c1;have p5:=x1.free 0;have p6:=x1.free 1;have Ic:=ab x1;clear x1;go_wp2_with fail;go_region_held3 (fun w'=>w'.cell? ⟨0,0,none⟩=some (.iface 360 (.pointer (some (A 0))))) (go_keep) (fail)
  all_goals
   go_wp2_with fail;exact bodyPost_ret (aN rfl _ _ W0.heap.size 150 _ (0,0) _ rfl (Ic.out.two _ _).drew underlying150 rfl (by kernel_rfl)) rfl ⟨.inr ⟨HG.out,rfl⟩,aK (b9 (Below.next HQ.out bN.out) (by have:=HS.out;omega))⟩
theorem QV(A:Nat→Addr)(f i:Int)(v:Value)(l:List Lk)(w:World)(hm:l.length≤5864062014800)(hr:di w v l)(hE:jS A w) :
  Calls prog 167 #[.agg #[.int .i64 f,v],.int .i64 i] w fun e w' =>
   ((qc l i=true∧∃ u,e = .returned (.tuple #[.agg #[.int .i64 f,u],.nilIface])∧b7 w' w.heap.size u (cA l i.toNat))∨(qc l i=false∧e = .returned (.tuple #[.agg #[.int .i64 0,.slice none 0 0],.iface 360 (.pointer (some (A 0)))])))∧Below w.heap.size w w':=Ml A f i v l w hm hr hE.a
theorem Mq(A:Nat→Addr)(f i:Int)(v:Value)(l:List Lk)(key:ByteArray)(c:Int)(w:World)(hm:l.length≤5864062014800)(hr:di w v l)(hE:MP A w):Calls prog 203 #[.agg #[.int .i64 f,v],.int .i64 i,.agg #[.string key,.int .i64 c]] w fun e w'=>((zE l i=true∧∃ u,e = .returned (.tuple #[.agg #[.int .i64 f,u],.nilIface])∧b7 w' w.heap.size u (dJ l i.toNat (key,c)))∨(zE l i=false∧e = .returned (.tuple #[.agg #[.int .i64 0,.slice none 0 0],.iface 360 (.pointer (some (A 0)))])))∧Below w.heap.size w w':=by
 obtain ⟨a,cap,hv⟩:=hr.form;subst hv;obtain ⟨n,hn⟩ : ∃ n,n=l.length:=⟨_,rfl⟩;rw [← hn] at hm hr ⊢;have q0:=ai w (.cells #[.int .i64 f,.slice a n cap] 150);have x0:=au.new w #[.int .i64 f,.slice a n cap] 150;have s0:(w.alloc (.cells #[.int .i64 f,.slice a n cap] 150)).heap.size=w.heap.size+1:=by simp
 generalize hWa:w.alloc (.cells #[.int .i64 f,.slice a n cap] 150)=Wa at *;have qa:=ai Wa (.cells #[.string key,.int .i64 c] 179);have xa:=au.new Wa #[.string key,.int .i64 c] 179;have sa:(Wa.alloc (.cells #[.string key,.int .i64 c] 179)).heap.size=Wa.heap.size+1:=by simp
 generalize Cw:Wa.alloc (.cells #[.string key,.int .i64 c] 179)=W0 at *;have q1:=ai W0 (.cells #[.int .i64 0,.slice none 0 0] 150);have x1:=au.new W0 #[.int .i64 0,.slice none 0 0] 150;have s1:(W0.alloc (.cells #[.int .i64 0,.slice none 0 0] 150)).heap.size=W0.heap.size+1:=by simp
 generalize gL:W0.alloc (.cells #[.int .i64 0,.slice none 0 0] 150)=W1 at *;have Ie:=ab (x0.below (Below.next qa q1));have vr:=ab (xa.below q1);have zL:=ab x1;have hq:=Below.next (Below.next q0 qa) q1;have HQ:=ab hq;have HR:=ab (hr.below hq);have HE:=ab (hE.below hq);have HS:Hid (Wa.heap.size=w.heap.size+1∧W0.heap.size=w.heap.size+2∧W1.heap.size=w.heap.size+3):=⟨s0,by rw [sa,s0],by rw [s1,sa,s0]⟩
 have b1:¬ w.heap.size=W0.heap.size:=by omega
 have b2:¬ W0.heap.size=w.heap.size:=by omega
 have oH:0<w.heap.size:=World.block_lt_of_cell? w _ hE;have b3:¬ 0=W0.heap.size:=by omega
 have b4:¬ W0.heap.size=0:=by omega
 have HN:=ab hn;have HH:=ab (Mt f i _ l W1 HR.out);have sq:Hid (∀ W,Below W1.heap.size W1 W→Calls prog 209 #[.slice a n cap] W fun e w'=>∃ ua uc,e = .returned (.slice ua n uc)∧b7 w' W.heap.size (.slice ua n uc) l∧Below W.heap.size W w'):=fun W h=>by
  refine (eU (.slice a n cap) l W (by have:=HN.out;omega) (HR.out.below h)).mono ?_
  rintro e w' ⟨u,rfl,ho,hb⟩;obtain ⟨ua,uc,hu⟩:=ho.form;rw [← HN.out] at hu;subst hu;exact ⟨ua,uc,rfl,ho,hb⟩
 have HIN:Hid (∀ (k:Nat) (W:World) (ua:Option Addr) (uc base vb:Nat),k≤n→W1.heap.size≤base→base≤W.heap.size→b7 W base (.slice ua n uc) l→au W vb #[.string key,.int .i64 c] 179→(Value.slice ua n uc).ownBlock≠some vb→Below W1.heap.size W1 W→Calls prog 231 #[.slice ua n uc,.int .i64 (k:Int),.slice (some ⟨vb,0,none⟩) 1 1] W fun e w'=>∃ va vc,e = .returned (.slice va (n+1) vc)∧b7 w' W1.heap.size (.slice va (n+1) vc) (dJ l k (key,c))∧Below W1.heap.size W1 w'):=fun k W ua uc base vb hk aM aS ho bE dH h=>by
  refine (oy base (.slice ua n uc) l k vb (key,c) W (by have:=HN.out;omega) (by have:=HN.out;omega) ho aS bE dH).mono ?_
  rintro e w' ⟨u,rfl,ho,hb⟩;obtain ⟨va,vc,hu⟩:=ho.form;rw [ff l k _ (by have:=HN.out;omega),← HN.out] at hu
  subst hu;exact ⟨va,vc,rfl,ho.mono aM,h.trans (hb.mono aM)⟩
 have p0:=Ie.out.c0;have p1:=Ie.out.c1;clear q0 x0 qa xa q1 x1 hr hE hn s0 s1 sa oH hq;go_enter func203,ntmps203;go_wp2_with fail;refine HH.out.mono ?_
 rintro e w1 ⟨rfl,aM⟩;have bN:=ab aM;clear aM HH p0 p1;by_cases hg:zE l i=true
 ·rw [hg];have HG:=ab hg;simp only [zE,bU,decide_eq_true_eq] at hg;obtain ⟨k,hk⟩ : ∃ k:Nat,i=(k:Int):=⟨i.toNat,by omega⟩
  subst hk;have HK:Hid (k≤n):=by have:=HN.out;show k≤n;omega
  have XO:=ab bN.out.size;have p0:=(Ie.out.below bN.out).c0;have p1:=(Ie.out.below bN.out).c1;have p2:=(vr.out.below bN.out).c0;have p3:=(vr.out.below bN.out).c1;have p4:=World.new_ne w1 _ p1;clear hg;go_wp2_with fail;refine wp_region_held_drew (S:=(fun w'=>w'.cell? ⟨Wa.heap.size,0,none⟩=some (.string key)∧w'.cell? ⟨Wa.heap.size,1,none⟩=some (.int .i64 c))) (by kernel_rfl) ⟨p2,p3⟩ (fun gv=>?_)
  refine wpAnyH_take (i:=0) (oi:={ dst:=some 14,op:=Op.fieldAddr 150 (Operand.tmp 3) 1,type:=0,pos := "branch.go:226",after:=#[],guard:=none }) (v:=?_) rfl (by kernel_rfl) (by kernel_rfl) (by kernel_rfl) (fun _ _ _ h=>h) (Or.inl ⟨by rfl,?_⟩) (by assumption) ?_
  rotate_left
  ·(intro w' yo;(try dsimp only at yo);go_simp;try with_reducible rfl)
  simp only [Act.put,aC,List.set_cons_zero,List.set_cons_succ];refine wpAnyH_take (i:=3) (oi:={ dst:=some 17,op:=Op.move (Operand.tmp 1),type:=3,pos := "branch.go:226",after:=#[],guard:=none }) (v:=?_) rfl (by kernel_rfl) (by kernel_rfl) (by kernel_rfl) (fun _ _ _ h=>h) (Or.inl ⟨by rfl,?_⟩) (by assumption) ?_
  rotate_left
  ·(intro w' yo;(try dsimp only at yo);go_simp;try with_reducible rfl)
  simp only [Act.put,aC,List.set_cons_zero,List.set_cons_succ];refine wpAnyH_take (i:=4) (oi:={ dst:=some 18,op:=Op.load 179 (Operand.tmp 5),type:=179,pos := "branch.go:226",after:=#[],guard:=none }) (v:=?_) rfl (by kernel_rfl) (by kernel_rfl) (by kernel_rfl) (fun _ _ _ h=>h) (Or.inl ⟨by rfl,?_⟩) (by assumption) ?_
  rotate_left
  ·(intro w' yo;(try dsimp only at yo);go_simp;try with_reducible rfl)
  simp only [Act.put,aC,List.set_cons_zero,List.set_cons_succ];refine wpAnyH_ready (rs:=[1,5]) (by kernel_rfl) (by simp) ?_
  refine AllReadyH.cons rfl (fun K hK=>?_) (AllReadyH.cons rfl (fun K hK=>?_) AllReadyH.nil)
  focus
   clear gv;go_simp
   refine hK.out _ _ ⟨p2,p3⟩ (fun gv=>?_)
   clear hK K;refine wpAnyH_ready (rs:=[2,5]) (by kernel_rfl) (by simp) ?_
   refine AllReadyH.cons rfl (fun K hK=>?_) (AllReadyH.cons rfl (fun K hK=>?_) AllReadyH.nil)
   focus
    clear gv;go_simp
    refine (sq.out _ bN.out.drew).mono ?_
    rintro e w2 ⟨ua,uc,rfl,ja,aS⟩;have bG:=ab (Below.next bN.out (du aS));have jE:=ab ja;have lD:=ab (show w1.heap.size≤w2.heap.size from aS.size)
    have d2:=(vr.out.below bG.out).c0;have d3:=(vr.out.below bG.out).c1;clear ja aS;refine hK.out _ _ ⟨d2,d3⟩ (fun gv=>?_)
    clear hK K;refine wpAnyH_ready (rs:=[5]) (by kernel_rfl) (by simp) ?_
    refine AllReadyH.cons rfl (fun K hK=>?_) AllReadyH.nil
    clear gv;go_simp
    have q5:=ai w2 (.cells #[.string key,.int .i64 c] 179);have x5:=au.new w2 #[.string key,.int .i64 c] 179;have iu:=ab (Below.next bG.out q5);have HO5:=ab (jE.out.below q5);have Eu:(Value.slice ua n uc).ownBlock≠some w2.heap.size:=fun h=>by have:=(jE.out.dF _ h).2;omega
    have HK5:=ab (HIN.out k (w2.alloc (.cells #[.string key,.int .i64 c] 179)) ua uc w1.heap.size w2.heap.size HK.out XO.out (ar lD.out q5.size) HO5.out x5 Eu iu.out);have d2:=(vr.out.below iu.out).c0;have d3:=(vr.out.below iu.out).c1;generalize w2.alloc (.cells #[.string key,.int .i64 c] 179)=W5 at *;clear q5 x5 Eu;refine hK.out _ _ ⟨d2,d3⟩ (fun gv=>?_)
    clear hK K
   rotate_left;focus
    clear gv;go_simp
    have q5:=ai w1 (.cells #[.string key,.int .i64 c] 179);have x5:=au.new w1 #[.string key,.int .i64 c] 179;have s5:(w1.alloc (.cells #[.string key,.int .i64 c] 179)).heap.size=w1.heap.size+1:=by simp
    have iu:=ab (Below.next bN.out q5);have zK:=ab x5.drew;have sG:Hid ((w1.alloc (.cells #[.string key,.int .i64 c] 179)).heap.size=w1.heap.size+1):=s5;have d2:=(vr.out.below iu.out).c0;have d3:=(vr.out.below iu.out).c1;have d1:=(Ie.out.below iu.out).c1;clear q5 x5 s5;refine hK.out _ _ ⟨d2,d3⟩ (fun gv=>?_)
    clear hK K;refine wpAnyH_ready (rs:=[2]) (by kernel_rfl) (by simp) ?_
    refine AllReadyH.cons rfl (fun K hK=>?_) AllReadyH.nil
    clear gv;go_simp
    refine (sq.out _ iu.out.drew).mono ?_
    rintro e w2 ⟨ua,uc,rfl,ja,aS⟩;have bG:=ab (Below.next iu.out (du aS));have jE:=ab ja;have HXV:=ab (zK.out.below aS);have Eu:(Value.slice ua n uc).ownBlock≠some w1.heap.size:=fun h=>by have:=(ja.dF _ h).1;have:=sG.out;have e:(w1.alloc (.cells #[.string key,.int .i64 c] 179)).drew.heap.size=(w1.alloc (.cells #[.string key,.int .i64 c] 179)).heap.size:=rfl;omega
    have HK5:=ab (HIN.out k w2 ua uc _ w1.heap.size HK.out (ar XO.out (by have:=sG.out;show w1.heap.size≤(w1.alloc (.cells #[.string key,.int .i64 c] 179)).heap.size;omega)) aS.size jE.out HXV.out Eu bG.out)
    have d2:=(vr.out.below bG.out).c0;have d3:=(vr.out.below bG.out).c1;clear ja aS Eu;refine hK.out _ _ ⟨d2,d3⟩ (fun gv=>?_)
    clear hK K
  rotate_left 2
  focus
   clear gv;go_simp
   have q5:=ai w1 (.cells #[.string key,.int .i64 c] 179);have x5:=au.new w1 #[.string key,.int .i64 c] 179;have s5:(w1.alloc (.cells #[.string key,.int .i64 c] 179)).heap.size=w1.heap.size+1:=by simp
   have iu:=ab (Below.next bN.out q5);have zK:=ab x5.drew;have sG:Hid ((w1.alloc (.cells #[.string key,.int .i64 c] 179)).heap.size=w1.heap.size+1):=s5;have d2:=(vr.out.below iu.out).c0;have d3:=(vr.out.below iu.out).c1;have d1:=(Ie.out.below iu.out).c1;clear q5 x5 s5;refine hK.out _ _ ⟨d2,d3⟩ (fun gv=>?_)
   clear hK K;refine wpAnyH_ready (rs:=[1]) (by kernel_rfl) (by simp) ?_
   refine AllReadyH.cons rfl (fun K hK=>?_) AllReadyH.nil
   clear gv;go_simp
   refine hK.out _ _ ⟨d2,d3⟩ (fun gv=>?_)
   clear hK K;refine wpAnyH_ready (rs:=[2]) (by kernel_rfl) (by simp) ?_
   refine AllReadyH.cons rfl (fun K hK=>?_) AllReadyH.nil
   clear gv;go_simp
   refine (sq.out _ iu.out.drew).mono ?_
   rintro e w2 ⟨ua,uc,rfl,ja,aS⟩;have bG:=ab (Below.next iu.out (du aS));have jE:=ab ja;have HXV:=ab (zK.out.below aS);have Eu:(Value.slice ua n uc).ownBlock≠some w1.heap.size:=fun h=>by have:=(ja.dF _ h).1;have:=sG.out;have e:(w1.alloc (.cells #[.string key,.int .i64 c] 179)).drew.heap.size=(w1.alloc (.cells #[.string key,.int .i64 c] 179)).heap.size:=rfl;omega
   have HK5:=ab (HIN.out k w2 ua uc _ w1.heap.size HK.out (ar XO.out (by have:=sG.out;show w1.heap.size≤(w1.alloc (.cells #[.string key,.int .i64 c] 179)).heap.size;omega)) aS.size jE.out HXV.out Eu bG.out)
   have d2:=(vr.out.below bG.out).c0;have d3:=(vr.out.below bG.out).c1;clear ja aS Eu;refine hK.out _ _ ⟨d2,d3⟩ (fun gv=>?_)
   clear hK K
  all_goals
   refine wpAnyH_ready (rs:=[6]) (by kernel_rfl) (by simp) ?_
   refine AllReadyH.cons rfl (fun K hK=>?_) AllReadyH.nil
   clear gv;go_simp
   refine HK5.out.mono ?_
   rintro e w3 ⟨va,vc,rfl,lF,bQ⟩;have eG:=ab bQ;have zN:=ab lF;have x0:=Ie.out.below bQ;have e1:=x0.c1;have e2:=x0.free 1;have d2:=(vr.out.below eG.out).c0;have d3:=(vr.out.below eG.out).c1;clear lF bQ x0;refine hK.out _ _ ⟨d2,d3⟩ (fun gv=>?_)
   clear hK K;clear d2 d3;refine wpAnyH_take (i:=7) (oi:={ dst:=some 21,op:=Op.fieldAddr 150 (Operand.tmp 3) 1,type:=0,pos := "branch.go:226",after:=#[{ on:=0,ground:=Ground.phase },{ on:=1,ground:=Ground.phase },{ on:=2,ground:=Ground.phase },{ on:=3,ground:=Ground.phase },{ on:=4,ground:=Ground.phase },{ on:=5,ground:=Ground.phase },{ on:=6,ground:=Ground.phase }],guard:=none }) (v:=?_) rfl (by kernel_rfl) (by kernel_rfl) (by kernel_rfl) (fun _ _ _ h=>h) (Or.inl ⟨by rfl,?_⟩) (by assumption) ?_
   rotate_left
   ·(intro w' yo;(try dsimp only at yo);go_simp;try with_reducible rfl)
   simp only [Act.put,aC,List.set_cons_zero,List.set_cons_succ];refine wpAnyH_ready (rs:=[8]) (by kernel_rfl) (by simp) ?_
   refine AllReadyH.cons rfl (fun K hK=>?_) AllReadyH.nil
   clear gv;go_simp
   refine hK.out _ _ ⟨?_,?_⟩ (fun gv=>?_)
   ·rw [World.cell?_setCell_far _ _ _ _ (by have:=HS.out;show w.heap.size≠Wa.heap.size;omega)];exact (vr.out.below eG.out).c0
   ·rw [World.cell?_setCell_far _ _ _ _ (by have:=HS.out;show w.heap.size≠Wa.heap.size;omega)];exact (vr.out.below eG.out).c1
   clear hK K;refine wpAnyH_done (by kernel_rfl) ?_ _
   clear gv;have x0:=Ie.out.below eG.out;have x1:=zL.out.below eG.out;have y0:=x0.c0;have y3:=x1.c0;have y4:=x1.c1;have y5:=x1.free 0;have y6:=x1.free 1;have Ic:=ab x1;clear x0 x1;go_wp2_with fail;have hx:=Ic.out.other (j:=1) b2 (.slice va (n+1) vc);have ho:=zN.out.put (g:=w.heap.size) (j:=1) (fun h=>by have:=(zN.out.dF _ h).1;have:=HS.out;omega) (.slice va (n+1) vc)
   have ja:=(ho.xh (g:=W0.heap.size) (by have:=HS.out;omega) (.int .i64 f) (.slice va (n+1) vc)).mono (b2:=w.heap.size) (by have:=HS.out;omega)
   have bO:=b9 (b:=W0.heap.size) (x:=.int .i64 f) (y:=.slice va (n+1) vc) ((HQ.out.trans (eG.out.mono (by have:=HS.out;omega))).setCell (p:=⟨w.heap.size,1,none⟩) (aj _) (.slice va (n+1) vc)) (by have:=HS.out;omega)
   exact bodyPost_ret (aN rfl _ _ W0.heap.size 150 _ (0,0) _ rfl (hx.two _ _) underlying150 rfl (by kernel_rfl)) rfl ⟨.inl ⟨HG.out,_,rfl,ja⟩,bO⟩
 ·rw [Bool.not_eq_true] at hg;rw [hg];have HG:=ab hg;have x1:=zL.out.below bN.out;have e0:w1.cell? ⟨0,0,none⟩=some (.iface 360 (.pointer (some (A 0)))):=HE.out.below bN.out;have p3:=x1.c0;have p4:=x1.c1;have p5:=x1.free 0;have p6:=x1.free 1;have Ic:=ab x1;clear x1;go_wp2_with fail;go_region_held3 (fun w'=>w'.cell? ⟨0,0,none⟩=some (.iface 360 (.pointer (some (A 0))))) (go_keep) (fail)
  all_goals
   go_wp2_with fail;exact bodyPost_ret (aN rfl _ _ W0.heap.size 150 _ (0,0) _ rfl (Ic.out.two _ _).drew underlying150 rfl (by kernel_rfl)) rfl ⟨.inr ⟨HG.out,rfl⟩,aK (b9 (Below.next HQ.out bN.out) (by have:=HS.out;omega))⟩
theorem QX(A:Nat→Addr)(f i:Int)(v:Value)(l:List Lk)(key:ByteArray)(c:Int)(w:World)(hm:l.length≤5864062014800)(hr:di w v l)(hE:jS A w) :
  Calls prog 203 #[.agg #[.int .i64 f,v],.int .i64 i,.agg #[.string key,.int .i64 c]] w fun e w' =>
   ((zE l i=true∧∃ u,e = .returned (.tuple #[.agg #[.int .i64 f,u],.nilIface])∧b7 w' w.heap.size u (dJ l i.toNat (key,c)))∨(zE l i=false∧e = .returned (.tuple #[.agg #[.int .i64 0,.slice none 0 0],.iface 360 (.pointer (some (A 0)))])))∧Below w.heap.size w w':=Mq A f i v l key c w hm hr hE.a
end B
namespace T
theorem wz(A:Nat→Addr)(b:Nat)(n:SN)(pv lv cv:Value)(i:Nat)(w:World)(h:dQ w b n pv lv cv)(hi:i<n.lk.length)(hlen:n.us.length=n.lk.length+1)(hE:jS A w):Calls prog 127 #[.pointer (some ⟨b,0,none⟩),.int .i64 (i:Int)] w fun e w'=>RX w ⟨[],n.f,B.cA n.lk i,C.cA n.us (i+1)⟩ e w':=by
 have hf:=h.fine;have aa9:Hid (Calls prog 167 #[.agg #[.int .i64 n.f,lv],.int .i64 (i:Int)] w fun e w'=>∃ (ua:Option Addr) (um uc:Nat),e = .returned (.tuple #[.agg #[.int .i64 n.f,.slice ua um uc],.nilIface])∧B.b7 w' w.heap.size (.slice ua um uc) (B.cA n.lk i)∧Below w.heap.size w w'):=by
  refine (B.QV A n.f (i:Int) lv n.lk w (by omega) h.bh hE).mono fun e w' ⟨hv,hb⟩=>?_
  rcases hv with ⟨_,u,he,ho⟩ | ⟨hg,_⟩
  ·obtain ⟨ua,uc,hu⟩:=ho.form;subst hu;exact ⟨_,_,_,he,ho,hb⟩
  ·exfalso
   simp only [B.qc,Bool.and_eq_false_iff,decide_eq_false_iff_not] at hg;omega
 have p1:=h.c1;have p2:=h.c2;have HH:=ab h;have bO:b<w.heap.size:=h.row.lt;obtain ⟨j,hj⟩ : ∃ j,j=i+1:=⟨_,rfl⟩;have vR:IntKind.i64.wrap ((i:Int)+1)=(j:Int):=by rw [IntKind.wrap_i64];omega
 have GY:IntKind.i64.wrap ((i:Int)+2)=(j:Int)+1:=by rw [IntKind.wrap_i64];omega
 have HJ:Hid (j<n.us.length∧n.us.length≤4001):=⟨by omega,by omega⟩
 have HF:=ab hf;have HI:=ab hi;rw [← hj];clear h hf hE hi hlen hj;go_enter func127,ntmps127;go_wp2_with fail;refine aa9.out.mono ?_
 rintro e w1 ⟨ua,um,uc,rfl,ho,aM⟩;have q2:=ai w1 (.cells #[.int .i64 n.f,.slice ua um uc] 150);have x2:=B.au.new w1 #[.int .i64 n.f,.slice ua um uc] 150;have HO:=ab (ho.below q2);have bG:=ab (Below.next aM q2);have nO:=ab x2;have fi:¬ b=w1.heap.size:=by have:=aM.size;omega
 clear aa9 p1 p2 ho aM q2 x2;go_wp2_with fail;generalize w1.alloc (.cells #[.int .i64 n.f,.slice ua um uc] 150)=W2 at *;generalize w1.heap.size=k2 at *;have k0:=nO.out.c0;have k1:=nO.out.c1;have k3:=(HH.out.below bG.out).c3;obtain ⟨ca,cc,yl⟩:=HH.out.kids.form;have sq:Hid (∀ W,Below W2.heap.size W2 W→Calls prog 164 #[cv] W fun e w'=>∃ (g c:Nat),e = .returned (.slice (some ⟨g,0,none⟩) n.us.length c)∧C.b7 w' W.heap.size (.slice (some ⟨g,0,none⟩) n.us.length c) n.us∧Below W.heap.size W w'):=fun W hW=>by
  refine (C.eU cv n.us W (by have:=HJ.out;omega) ((HH.out.below (Below.next bG.out hW)).kids)).mono fun e w' ⟨u,h1,h2,h3⟩=>?_
  obtain ⟨g,c,hu,_,_⟩:=rS h2 (by have:=HJ.out;omega)
  subst hu;exact ⟨g,c,h1,h2,h3⟩
 subst yl;have Ys:Hid (k2<W2.heap.size∧b<W2.heap.size):=⟨nO.out.lt,by have:=bG.out.size;omega⟩
 have vu:Hid ((C.cA n.us j).length≤4001∧(B.cA n.lk i).length≤4000∧∀ p ∈ B.cA n.lk i,cP p.1):=by
  have h1:=HJ.out;have h2:=HF.out;refine ⟨by unfold C.cA;rw [ae,ag,ao];omega,by unfold B.cA;rw [ae,ag,ao];omega,fun p hp=>?_⟩
  unfold B.cA at hp;rcases List.mem_append.1 hp with h | h
  ·exact h2.2.2.1 p (bn h)
  ·exact h2.2.2.1 p (bH h)
 go_region_held3 (fun w'=>w'.cell? ⟨k2,0,none⟩=some (.int .i64 n.f)∧w'.cell? ⟨k2,1,none⟩=some (.slice ua um uc)∧w'.cell? ⟨b,3,none⟩=some (.slice ca n.us.length cc)) (go_keep)
  (first
   | (go_at_call 164;refine (sq.out _ (Below.refl _ _).drew).mono ?_;rintro e w3 ⟨g,c,rfl,lF,bQ⟩;have zN:=ab lF;have eG:=ab (B.du bQ);have m0:=(nO.out.below eG.out).c0;have m1:=(nO.out.below eG.out).c1;have m3:=(HH.out.below (Below.next bG.out eG.out)).c3;clear lF bQ)
   | (go_at_call 168;refine (C.oz _ _ n.us j _ HJ.out.1 zN.out).mono ?_;rintro e w4 ⟨u4,rfl,PK,fW⟩;obtain ⟨a4,c4,hu4⟩:=PK.form;subst hu4;have Yr:=ab PK;have iY:Hid (Below W2.heap.size W2 w4):=eG.out.trans fW;have m0:=(nO.out.below iY.out).c0;have m1:=(nO.out.below iY.out).c1;have m3:=(HH.out.below (Below.next bG.out iY.out)).c3;clear PK fW))
 all_goals (
  have q:=ai w4 (.cells #[.slice none 0 0,.int .i64 n.f,.slice ua um uc,.slice a4 (C.cA n.us j).length c4] 155);have xr:=B.au.new w4 #[.slice none 0 0,.int .i64 n.f,.slice ua um uc,.slice a4 (C.cA n.us j).length c4] 155;have HR:Hid (dQ (w4.alloc (.cells #[.slice none 0 0,.int .i64 n.f,.slice ua um uc,.slice a4 (C.cA n.us j).length c4] 155)) w4.heap.size ⟨[],n.f,B.cA n.lk i,C.cA n.us j⟩ (.slice none 0 0) (.slice ua um uc) (.slice a4 (C.cA n.us j).length c4)):=⟨xr,gM.nil _,((HO.out.below iY.out).below q).at,(Yr.out.below q).at,(fun p hp=>by simp at hp),by simp,vu.out.2.2,vu.out.2.1,vu.out.1⟩
  have lI:=ab (Below.next (Below.next bG.out iY.out) q);clear q xr;go_wp2;go_ret;exact ⟨_,_,_,_,rfl,HR.out,lI.out⟩)
theorem bP(p:C.Ch):∃ t x,p.val = .iface t x:=by
 cases p
 ·exact ⟨_,_,rfl⟩
 ·exact ⟨_,_,rfl⟩
theorem J0(A:Nat→Addr)(b:Nat)(n:SN)(pv lv cv:Value)(i:Nat)(key:ByteArray)(p:C.Ch)(w:World)(h:dQ w b n pv lv cv)(hi:i≤n.lk.length)(hlen:n.us.length=n.lk.length+1)(eh:n.lk.length≤3999)(hk:cP key)(hE:jS A w):Calls prog 163 #[.pointer (some ⟨b,0,none⟩),.int .i64 (i:Int),.string key,p.val] w fun e w'=>RX w ⟨[],n.f,B.dJ n.lk i (key,0),C.dJ n.us (i+1) p⟩ e w':=by
 have hf:=h.fine;have abp:Hid (Calls prog 203 #[.agg #[.int .i64 n.f,lv],.int .i64 (i:Int),.agg #[.string key,.int .i64 0]] w fun e w'=>∃ (ua:Option Addr) (um uc:Nat),e = .returned (.tuple #[.agg #[.int .i64 n.f,.slice ua um uc],.nilIface])∧B.b7 w' w.heap.size (.slice ua um uc) (B.dJ n.lk i (key,0))∧Below w.heap.size w w'):=by
  refine (B.QX A n.f (i:Int) lv n.lk key 0 w (by omega) h.bh hE).mono fun e w' ⟨hv,hb⟩=>?_
  rcases hv with ⟨_,u,he,ho⟩ | ⟨hg,_⟩
  ·obtain ⟨ua,uc,hu⟩:=ho.form;subst hu;exact ⟨_,_,_,he,ho,hb⟩
  ·exfalso
   simp only [B.zE,Bool.and_eq_false_iff,decide_eq_false_iff_not] at hg;omega
 have p1:=h.c1;have p2:=h.c2;have HH:=ab h;have bO:b<w.heap.size:=h.row.lt;obtain ⟨j,hj⟩ : ∃ j,j=i+1:=⟨_,rfl⟩;have vR:IntKind.i64.wrap ((i:Int)+1)=(j:Int):=by rw [IntKind.wrap_i64];omega
 have HJ:Hid (j≤n.us.length∧1≤n.us.length∧n.us.length≤4000):=⟨by omega,by omega,by omega⟩
 have vu:Hid ((C.dJ n.us j p).length≤4001∧(B.dJ n.lk i (key,0)).length≤4000∧∀ q ∈ B.dJ n.lk i (key,0),cP q.1):=by
  refine ⟨by unfold C.dJ;rw [ae,List.length_cons,ag,ao];omega,by unfold B.dJ;rw [ae,List.length_cons,ag,ao];omega,fun q hq=>?_⟩
  unfold B.dJ at hq;rcases List.mem_append.1 hq with h | h
  ·exact hf.2.2.1 q (bn h)
  ·rcases List.mem_cons.1 h with rfl | h
   ·exact hk
   ·exact hf.2.2.1 q (bH h)
 rw [← hj];clear h hf hE hi hlen hj eh hk;obtain ⟨pt,px,iV⟩:=bP p;rw [iV];have HPV:=ab iV;clear iV;go_enter func163,ntmps163;go_wp2_with fail;refine abp.out.mono ?_
 rintro e w1 ⟨ua,um,uc,rfl,ho,aM⟩;have q2:=ai w1 (.cells #[.int .i64 n.f,.slice ua um uc] 150);have x2:=B.au.new w1 #[.int .i64 n.f,.slice ua um uc] 150;have HO:=ab (ho.below q2);have bG:=ab (Below.next aM q2);have nO:=ab x2;clear abp p1 p2 ho aM q2 x2;go_wp2_with fail;generalize w1.alloc (.cells #[.int .i64 n.f,.slice ua um uc] 150)=W2 at *;generalize w1.heap.size=k2 at *;have k0:=nO.out.c0;have k1:=nO.out.c1;have k3:=(HH.out.below bG.out).c3;obtain ⟨ca,cc,yl⟩:=HH.out.kids.form;have sq:Hid (∀ W,Below W2.heap.size W2 W→Calls prog 164 #[cv] W fun e w'=>∃ (g c:Nat),e = .returned (.slice (some ⟨g,0,none⟩) n.us.length c)∧C.b7 w' W.heap.size (.slice (some ⟨g,0,none⟩) n.us.length c) n.us∧Below W.heap.size W w'):=fun W hW=>by
  refine (C.eU cv n.us W (by have:=HJ.out;omega) ((HH.out.below (Below.next bG.out hW)).kids)).mono fun e w' ⟨u,h1,h2,h3⟩=>?_
  obtain ⟨g,c,hu,_,_⟩:=rS h2 (by have:=HJ.out;omega)
  subst hu;exact ⟨g,c,h1,h2,h3⟩
 have abq:Hid (∀ (W:World) (base g c vb:Nat),C.b7 W base (.slice (some ⟨g,0,none⟩) n.us.length c) n.us→base≤W.heap.size→B.au W vb #[.iface pt px] 97→g≠vb→Calls prog 204 #[.slice (some ⟨g,0,none⟩) n.us.length c,.int .i64 (j:Int),.slice (some ⟨vb,0,none⟩) 1 1] W fun e w'=>∃ (a4:Option Addr) (c4:Nat),e = .returned (.slice a4 (C.dJ n.us j p).length c4)∧C.b7 w' base (.slice a4 (C.dJ n.us j p).length c4) (C.dJ n.us j p)∧Below base W w'):=fun W base g c vb h1 h2 h3 h4=>by
  refine (C.oy base _ n.us j vb p W (by have:=HJ.out;omega) HJ.out.1 h1 h2 (by rw [HPV.out];exact h3) (fun e=>h4 (by simpa [Value.ownBlock] using e))).mono fun e w' ⟨u,g1,g2,g3⟩=>?_
  obtain ⟨a4,c4,hu⟩:=g2.form;subst hu;exact ⟨a4,c4,g1,g2,g3⟩
 subst yl;have q5:=ai W2 (.cells #[.iface pt px] 97);have x5:=B.au.new W2 #[.iface pt px] 97;have s5:(W2.alloc (.cells #[.iface pt px] 97)).heap.size=W2.heap.size+1:=by simp
 obtain ⟨y0,y1,y3⟩ : (W2.alloc (.cells #[.iface pt px] 97)).cell? ⟨k2,0,none⟩=some (.int .i64 n.f)∧(W2.alloc (.cells #[.iface pt px] 97)).cell? ⟨k2,1,none⟩=some (.slice ua um uc)∧(W2.alloc (.cells #[.iface pt px] 97)).cell? ⟨b,3,none⟩=some (.slice ca n.us.length cc):=⟨(nO.out.below q5).c0,(nO.out.below q5).c1,(HH.out.below (Below.next bG.out q5)).c3⟩;have f0:=World.new_ne W2 _ k0;have f3:=World.new_ne W2 _ k3;generalize hW5:W2.alloc (.cells #[.iface pt px] 97)=W5 at *;have Fw:=ab q5;have zK:=ab x5;have sG:=ab s5;clear q5 x5 s5;go_region_held3 (fun w'=>w'.cell? ⟨k2,0,none⟩=some (.int .i64 n.f)∧w'.cell? ⟨k2,1,none⟩=some (.slice ua um uc)∧w'.cell? ⟨b,3,none⟩=some (.slice ca n.us.length cc)) (go_keep)
  (first
   | (go_at_call 164;refine (sq.out _ ?_).mono ?_;(first | exact (Below.refl _ _).drew | exact Fw.out.drew);rintro e w3 ⟨g,c,rfl,lF,bQ⟩;have eG:Hid (Below W2.heap.size W2 w3):=(by first | exact B.du bQ | exact Below.next Fw.out (B.du bQ));have zN:=ab lF;have RY:=ab bQ;(try (have aew:=ab (zK.out.drew.below bQ)));have m0:=(nO.out.below eG.out).c0;have m1:=(nO.out.below eG.out).c1;have m3:=(HH.out.below (Below.next bG.out eG.out)).c3;have e0:=World.new_ne w3 _ m0;have e3:=World.new_ne w3 _ m3;clear lF bQ)
   | (go_at_call 204;(first
       | (refine (abq.out _ _ _ _ _ zN.out RY.out.size aew.out (by have h1:=(zN.out.dF g rfl).1;have h2:=sG.out;show g≠W2.heap.size;show g≠_;simp only [World.drew] at h1;omega)).mono ?_;rintro e w4 ⟨a4,c4,rfl,PK,fW⟩;have Yr:=ab PK;have iY:Hid (Below W2.heap.size W2 w4):=(eG.out.trans (fW.mono (by have:=sG.out;show W2.heap.size≤W5.heap.size;omega))))
       | (refine (abq.out _ _ _ _ _ (zN.out.below (ai w3 (.cells #[.iface pt px] 97))) (ar RY.out.size (ai w3 (.cells #[.iface pt px] 97)).size) (B.au.new w3 #[.iface pt px] 97) (by have h1:=(zN.out.dF g rfl).2;omega)).mono ?_;rintro e w4 ⟨a4,c4,rfl,PK,fW⟩;have Yr:=ab PK;have iY:Hid (Below W2.heap.size W2 w4):=((Below.next eG.out (ai w3 (.cells #[.iface pt px] 97))).trans fW))
      );have m0:=(nO.out.below iY.out).c0;have m1:=(nO.out.below iY.out).c1;have m3:=(HH.out.below (Below.next bG.out iY.out)).c3;clear PK fW))
 all_goals (
  have q:=ai w4 (.cells #[.slice none 0 0,.int .i64 n.f,.slice ua um uc,.slice a4 (C.dJ n.us j p).length c4] 155);have xr:=B.au.new w4 #[.slice none 0 0,.int .i64 n.f,.slice ua um uc,.slice a4 (C.dJ n.us j p).length c4] 155;have HR:Hid (dQ (w4.alloc (.cells #[.slice none 0 0,.int .i64 n.f,.slice ua um uc,.slice a4 (C.dJ n.us j p).length c4] 155)) w4.heap.size ⟨[],n.f,B.dJ n.lk i (key,0),C.dJ n.us j p⟩ (.slice none 0 0) (.slice ua um uc) (.slice a4 (C.dJ n.us j p).length c4)):=⟨xr,gM.nil _,((HO.out.below iY.out).below q).at,(Yr.out.below q).at,(fun p hp=>by simp at hp),by simp,vu.out.2.2,vu.out.2.1,vu.out.1⟩
  have lI:=ab (Below.next (Below.next bG.out iY.out) q);clear q xr;go_wp2;go_ret;exact ⟨_,_,_,_,rfl,HR.out,lI.out⟩)
end T
end Go.Proofs.YtihmgigfkmofnaaGreatDoor
