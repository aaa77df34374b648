import Derived.Test.YtihmgigfkmofnaaGreatDoorG04
import Derived.Deep.RegionLaw
set_option maxHeartbeats 8000000
set_option maxRecDepth 1000000
open Go.Proofs.Tryz
namespace Go.Proofs.YtihmgigfkmofnaaGreatDoor
namespace B
open Go.RowKit Go.Lib
theorem iY(g:Nat)(t:TypeId):∀ (vs:List Value) (o:Nat) (cur:Array Value) (w:World),w.heap[g]?=some (.cells cur t (0,0))→o+vs.length≤cur.size →
  w.setCells g o vs=w.setRow g (cur.toList.take o++vs++cur.toList.drop (o+vs.length)).toArray
 | [],o,cur,w,hg,_=>by
  simp only [World.setCells,List.append_nil,List.length_nil,Nat.add_zero,aH,Array.toArray_toList];rw [setRow_self w g cur t (0,0) hg]
 | v::r,o,cur,w,hg,hl=>by
  have ho:o<cur.size:=by simp at hl;omega
  rw [World.setCells,setCell_eq_setRow w g o cur t (0,0) v hg,iY g t r (o+1) (cur.setIfInBounds o v) _ (setRow_heap w g cur _ t _ hg) (by simp at hl ⊢;omega),setRow_setRow]
  congr 1
  have e:=list_seg_step cur.toList o v r (by simp at hl ⊢;omega)
  simpa [Array.toList_setIfInBounds,Nat.add_assoc] using e
theorem xq(g c:Nat)(l:List Lk)(i m:Nat)(w:World)(cur:Array Value)(hl:l.length=m+1)(hi:i≤m)(B6:l.length≤c)(hg:w.heap[g]?=some (.cells cur 179 (0,0)))(b7:cur.size=c*2)(ht:cur.toList.take (l.length*2)=a8 l):Calls prog 208 #[.slice (some ⟨g,0,none⟩) (m+1) c,.int .i64 (i:Int),.int .i64 ((i:Int)+1)] w fun e w'=>e = .returned (.slice (some ⟨g,0,none⟩) m c)∧∃ fL:Array Value,w'=w.drew.setRow g fL∧fL.size=c*2∧fL.toList.take (m*2)=a8 (cA l i):=by
 obtain ⟨i0,yy,nK,GA,OU⟩:=info_parts lB;have jw:(a8 (l.drop (i+1))).length=(m - i)*2:=by rw [aS,ao,hl];omega
 have l1:(a8 (l.take i)).length=i*2:=by rw [aS,ag];omega
 obtain ⟨A,hA,GJ⟩ : ∃ A:Addr,(if c=i+1 then some (⟨g,0,none⟩ : Addr) else some ⟨g,(i+1)*2,none⟩)=some A∧Hid (∀ t u,(a8 (l.drop (i+1)))[t]?=some u→w.drew.cell? (A.add t)=some u):=by
  by_cases h:c=i+1
  ·refine ⟨⟨g,0,none⟩,by simp [h],fun t u hu=>?_⟩
   have h0:(a8 (l.drop (i+1))).length=0:=by rw [jw];omega
   rw [List.length_eq_zero_iff.1 h0] at hu;simp at hu
  ·refine ⟨⟨g,(i+1)*2,none⟩,by simp [h],fun t u hu=>?_⟩
   rw [bz];exact gT hg ht (i+1) t u hu
 obtain ⟨C1,qv⟩ : ∃ C:Array Value,C=(cur.toList.take (i*2)++a8 (l.drop (i+1))++cur.toList.drop (i*2+(a8 (l.drop (i+1))).length)).toArray:=⟨_,rfl⟩;have mG:C1.size=c*2:=by rw [qv];simp [jw,b7];omega
 have gF:w.drew.setCells g (0+i*2) (a8 (l.drop (i+1)))=w.drew.setRow g C1:=by
  rw [Nat.zero_add,qv];exact iY g 179 _ _ cur w.drew hg (by rw [jw,b7];omega)
 have fG:(w.drew.setRow g C1).heap[g]?=some (.cells C1 179 (0,0)):=setRow_heap w.drew g cur C1 179 (0,0) hg;obtain ⟨C2,rJ⟩ : ∃ C:Array Value,C=(C1.toList.take (m*2)++[Value.string ⟨#[]⟩,Value.int .i64 0]++C1.toList.drop (m*2+2)).toArray:=⟨_,rfl⟩;have o7:C2.size=c*2:=by rw [rJ];simp [mG];omega
 have qN:∀ ty cc,(Builtin.clear_ #[148] ty #[.slice (some ⟨g,m*2,none⟩) 1 cc]).run prog (w.drew.setRow g C1) = .ok (.tuple #[]) (w.drew.setRow g C2):=fun ty cc=>by
  rw [kS (w.drew.setRow g C1) 148 179 ty _ _ underlying148 zeroValue179 rfl rfl g (m*2) cc C1 179 fG (by omega),rJ,setRow_setRow]
 have gY:C2.toList.take (m*2)=a8 (cA l i):=by
  have e1:cur.toList.take (i*2)=a8 (l.take i):=by
   rw [xg,← ht,gQ,a7 (by omega)]
  rw [rJ,List.toList_toArray,ax,aF (by simp [mG];omega),gQ,Nat.min_self,qv,List.toList_toArray,e1,cA,cZ,aF (by simp only [ae,jw,l1];omega),al (by simp only [ae,jw,l1];omega)]
 have s1:Hid ((a8 (l.drop (i+1))).length=(m - i)*2):=jw;have s2:Hid (∀ u ∈ a8 (l.drop (i+1)),u.oneCell'=true):=fU _;have s3:Hid (∀ t,t<(a8 (l.drop (i+1))).length→(w.drew.cell? ⟨g,0+i*2+t,none⟩).isSome=true∧w.drew.frozen? ⟨g,0+i*2+t,none⟩=false):=by
  intro t yT;rw [jw] at yT;refine ⟨?_,by show World.frozen? w _=false;simp [World.frozen?,hg]⟩
  show (World.cell? w _).isSome=true
  simp only [World.cell?,hg];rw [Array.getElem?_eq_getElem (by omega)]
  rfl
 have HW:Hid (w.drew.setCells g (0+i*2) (a8 (l.drop (i+1)))=w.drew.setRow g C1):=gF;have HF:=ab gY;have HZ:=ab o7;have mixed:prog.follows Departure.mixedOrders=true:=by kernel_rfl
 have hq:¬ ((i:Int)=(i:Int)+1):=by omega
 have Q8:(0:Int)≤(i:Int)+1:=by omega
 have O5:(i:Int)≤(i:Int)+1:=by omega
 have Xq:(i:Int)+1≤(m:Int)+1:=by omega
 have hq3:(m:Int)+1≤(c:Int):=by omega
 have Xn:((i:Int)+1).toNat=i+1:=by omega
 have hic:i≤c:=by omega
 have ac9:(i:Int)≤(c:Int):=by omega
 have him:(i:Int)≤(m:Int):=by omega
 have KV:i+(m - i)=m:=by omega
 have hmc:¬ c=m:=by omega
 rw [hl] at B6;clear qv rJ gY o7 mG fG ht b7 hg jw l1 gF hl nK OU;go_enter func208,ntmps208;go_wp2_with fail;go_region_law_o (refine step_append_room rfl (.tmp 22) (.tmp 25) 148 rfl 179 i0 2 underlying148 yy GA g 0 i c (by simp [Act.eval,Act.put]) A (m - i) (c - (i+1)) (a8 (l.drop (i+1))) (by simp [Act.eval,Act.put]) s1.out GJ.out s2.out (by omega) s3.out ?_;rw [HW.out,KV])
 go_wp2_with (simp only [qN])
 go_ret;exact ⟨rfl,C2,rfl,HZ.out,HF.out⟩
theorem wC(l:List Lk)(i:Nat)(h:i<l.length):(cA l i).length+1=l.length:=by
 unfold cA;rw [ae,ag,ao];omega
theorem ou(base:Nat)(v:Value)(l:List Lk)(i:Nat)(w:World)(hi:i<l.length)(ho:b6 w base v l):Calls prog 208 #[v,.int .i64 (i:Int),.int .i64 ((i:Int)+1)] w fun e w'=>∃ u,e = .returned u∧b6 w' base u (cA l i)∧Below base w w':=by
 have Xp:=wC l i hi;rcases ho.2 with ⟨_,h0⟩ | ⟨g,c,cur,rfl,hb,hg,B4,sf,fH,mH⟩
 ·omega
 ·have h:=xq g c l i (cA l i).length w cur (by omega) (by omega) B4 hg fH mH
  rw [Xp] at h;refine h.mono ?_
  rintro e w' ⟨rfl,fL,rfl,h2,h3⟩;exact ⟨_,rfl,b6.row (l:=cA l i) hb (setRow_heap w.drew g cur fL 179 (0,0) hg) (by omega) sf h2 h3,below_setRow (aO (Below.refl _ _)) hb fL⟩
end B
open Go.RowKit
def jL(A:Nat→Addr)(w:World):Prop:=dA 4 eR A w∧w.cell? ⟨11,0,none⟩=some (.iface 360 (.pointer (some (A 11))))
theorem jL.below{A:Nat→Addr}{w w':World}(h:jL A w)(hb:Below w.heap.size w w'):jL A w' :=
 ⟨h.1.keep hb,(hb.cell (p:=⟨11,0,none⟩) (World.block_lt_of_cell? w _ h.2)).trans h.2⟩
theorem dA.JJ{n m:Nat}{G:Nat→Nat}{A:Nat→Addr}{w:World}(h:dA n G A w)(hm:m≤n):dA m G A w :=
 ⟨fun i hi=>h.1 i (by omega),fun i j hi hj he=>h.2 i j (by omega) (by omega) he⟩
theorem eZ(p:Option Addr)(w:World):(binOp .neq 32 (.iface 360 (.pointer p)) .nilIface).run prog w = .ok (.bool true) w:=by
 have h2:∀ d:Nat,(Op.equalIn (d+1) 32 (.iface 360 (.pointer p)) .nilIface).run prog w = .ok false w:=fun d=>by
  simp [Op.equalIn,run_underlying underlying32]
 simp only [binOp];simp [Op.equal,Op.maxDepth,h2 9999]
def ig(A:Nat→Addr):Option Nat→Value
 | none=>.nilIface
 | some k=>.iface 360 (.pointer (some (A k)))
namespace B
def Mw(A:Nat→Addr)(w:World):Prop:=w.cell? ⟨0,0,none⟩=some (.iface 360 (.pointer (some (A 0))))
theorem Mw.below{A:Nat→Addr}{w w':World}(h:Mw A w)(hb:Below w.heap.size w w'):Mw A w':=(hb.cell (p:=⟨0,0,none⟩) (World.block_lt_of_cell? w _ h)).trans h
theorem _root_.Go.Proofs.YtihmgigfkmofnaaGreatDoor.jL.a{A:Nat→Addr}{w:World}(h:jL A w):Mw A w:=(h.1.1 0 (by decide)).1
def zd(l:List Lk)(i:Int):Bool:=decide (0≤i) && decide (i≤(l.length:Int))
theorem Mc(f i:Int)(v:Value)(l:List Lk)(w:World)(hr:di w v l):Calls prog 160 #[.agg #[.int .i64 f,v],.int .i64 i] w fun e w'=>e = .returned (.bool (zd l i))∧Below w.heap.size w w':=by
 obtain ⟨a,c,hv⟩:=hr.form;subst hv;obtain ⟨n,hn⟩ : ∃ n,n=l.length:=⟨_,rfl⟩;have HG:Hid (zd l i=(decide (0≤i) && decide (i≤(n:Int)))):=by show _=_;rw [hn];rfl
 rw [← hn];have HB:=ab (ai w (.cells #[.int .i64 f,.slice a n c] 150));clear hr hn;by_cases h0:0≤i
 ·by_cases h1:i≤(n:Int)
  ·go_enter func160,ntmps160;go_wp2;go_ret;exact ⟨by rw [HG.out];simp [h0,h1],HB.out⟩
  ·go_enter func160,ntmps160;go_wp2;go_ret;exact ⟨by rw [HG.out];simp [h0,h1],HB.out⟩
 ·have HF:Hid (zd l i=false):=by show _=_;rw [HG.out];simp [h0]
  clear HG;go_enter func160,ntmps160;go_wp2;go_ret;exact ⟨by rw [HF.out];rfl,HB.out⟩
def pS(l:List Lk)(i:Int):Bool:=decide (0≤i) && decide (i<(l.length:Int))
theorem Mb(f i:Int)(v:Value)(l:List Lk)(w:World)(hr:di w v l):Calls prog 207 #[.agg #[.int .i64 f,v],.int .i64 i] w fun e w'=>e = .returned (.bool (pS l i))∧Below w.heap.size w w':=by
 obtain ⟨a,c,hv⟩:=hr.form;subst hv;obtain ⟨n,hn⟩ : ∃ n,n=l.length:=⟨_,rfl⟩;have HG:Hid (pS l i=(decide (0≤i) && decide (i<(n:Int)))):=by show _=_;rw [hn];rfl
 rw [← hn];have HB:=ab (ai w (.cells #[.int .i64 f,.slice a n c] 150));clear hr hn;by_cases h0:0≤i
 ·by_cases h1:i<(n:Int)
  ·go_enter func207,ntmps207;go_wp2;go_ret;exact ⟨by rw [HG.out];simp [h0,h1],HB.out⟩
  ·go_enter func207,ntmps207;go_wp2;go_ret;exact ⟨by rw [HG.out];simp [h0,h1],HB.out⟩
 ·have HF:Hid (pS l i=false):=by show _=_;rw [HG.out];simp [h0]
  clear HG;go_enter func207,ntmps207;go_wp2;go_ret;exact ⟨by rw [HF.out];rfl,HB.out⟩
theorem au.one{w:World}{b:Nat}{x y:Value}{t:TypeId}(h:au w b #[x,y] t)(y':Value):au (w.setCell ⟨b,1,none⟩ y') b #[x,y'] t:=by
 have:=vf h x y';have e:w.setCell ⟨b,0,none⟩ x=w:=by
  unfold au at h;rw [setCell_eq_setRow w b 0 #[x,y] t (0,0) x h];exact setRow_self w b #[x,y] t (0,0) h
 rwa [e] at this
theorem L5(A:Nat→Addr)(f i:Int)(v:Value)(l:List Lk)(w:World)(hm:l.length≤5864062014800)(hr:di w v l)(hE:Mw A w):Calls prog 167 #[.agg #[.int .i64 f,v],.int .i64 i] w fun e w'=>((pS l i=true∧∃ u,e = .returned (.tuple #[.agg #[.int .i64 f,u],.nilIface])∧b6 w' w.heap.size u (cA l i.toNat))∨(pS l i=false∧e = .returned (.tuple #[.agg #[.int .i64 0,.slice none 0 0],.iface 360 (.pointer (some (A 0)))])))∧Below w.heap.size w w':=by
 obtain ⟨a,cap,hv⟩:=hr.form;subst hv;obtain ⟨n,hn⟩ : ∃ n,n=l.length:=⟨_,rfl⟩;rw [← hn] at hm hr ⊢;have q0:=ai w (.cells #[.int .i64 f,.slice a n cap] 150);have x0:=au.new w #[.int .i64 f,.slice a n cap] 150;have s0:(w.alloc (.cells #[.int .i64 f,.slice a n cap] 150)).heap.size=w.heap.size+1:=by simp
 generalize Cc:w.alloc (.cells #[.int .i64 f,.slice a n cap] 150)=W0 at *;have q1:=ai W0 (.cells #[.int .i64 0,.slice none 0 0] 150);have x1:=au.new W0 #[.int .i64 0,.slice none 0 0] 150;have s1:(W0.alloc (.cells #[.int .i64 0,.slice none 0 0] 150)).heap.size=W0.heap.size+1:=by simp
 generalize gF:W0.alloc (.cells #[.int .i64 0,.slice none 0 0] 150)=W1 at *;have Hr:=ab (x0.below q1);have zk:=ab x1;have HQ:=ab (Below.next q0 q1);have HR:=ab (hr.below (Below.next q0 q1));have HE:=ab (hE.below (Below.next q0 q1));have HS:Hid (W0.heap.size=w.heap.size+1∧W1.heap.size=w.heap.size+2):=⟨s0,by rw [s1,s0]⟩
 have b1:¬ w.heap.size=W0.heap.size:=by omega
 have b2:¬ W0.heap.size=w.heap.size:=by omega
 have pR:0<w.heap.size:=World.block_lt_of_cell? w _ hE;have b3:¬ 0=W0.heap.size:=by omega
 have b4:¬ W0.heap.size=0:=by omega
 have HN:=ab hn;have HH:=ab (Mb f i _ l W1 HR.out);have p0:=Hr.out.c0;have p1:=Hr.out.c1;clear q0 x0 q1 x1 hr hE hn s0 s1 pR;go_enter func167,ntmps167;go_wp2_with fail;refine HH.out.mono ?_
 rintro e w1 ⟨rfl,aL⟩;have bP:=ab aL;clear aL HH p0 p1;by_cases hg:pS l i=true
 ·rw [hg];have HG:=ab hg;simp only [pS,cz,decide_eq_true_eq] at hg;obtain ⟨k,hk⟩ : ∃ k:Nat,i=(k:Int):=⟨i.toNat,by omega⟩
  subst hk;have cL:k<l.length:=by omega
  have HK:=ab cL;have p0:=(Hr.out.below bP.out).c0;have p1:=(Hr.out.below bP.out).c1;have uX:=ab (eM (.slice a n cap) l w1 (by have:=HN.out;omega) (HR.out.below bP.out))
  clear cL;go_wp2_with fail;refine uX.out.mono ?_
  rintro e w2 ⟨u2,rfl,jE,aU⟩;have HD:=ab (ou w1.heap.size u2 l k w2 HK.out jE);have vw:IntKind.i64.wrap ((k:Int)+1)=(k:Int)+1:=by have:=HK.out;have:=HN.out;rw [IntKind.wrap_i64];omega
  have bH:=ab aU;clear aU jE uX p0 p1;go_wp2_with fail;refine HD.out.mono ?_
  rintro e w3 ⟨u,rfl,lJ,bT⟩;have HBw:Hid (Below W1.heap.size W1 w3):=Below.next bP.out (bH.out.trans bT);obtain ⟨ua,uc,hu⟩:=lJ.form;obtain ⟨un,Yz⟩ : ∃ n,n=(cA l k).length:=⟨_,rfl⟩;rw [← Yz] at hu;subst hu;have HO:=ab lJ;clear Yz;have lT:=ab bP.out.size;have x0:=Hr.out.below HBw.out;have x1:=zk.out.below HBw.out;have p0:=x0.c0;have p1:=x0.c1;have p2:=x0.free 1;have p3:=x1.c0;have p4:=x1.c1;have p5:=x1.free 0;have p6:=x1.free 1;have ajd:=ab x0;have Hq:=ab x1;clear bT lJ x0 x1 bH HD;go_wp2_with fail;have hx:=Hq.out.other (j:=1) b2 (.slice ua un uc);have ho:=HO.out.put (g:=w.heap.size) (j:=1) (fun h=>by have:=(HO.out.dr _ h).1;have:=lT.out;have:=HS.out;omega) (.slice ua un uc)
  have jE:=(ho.wG (g:=W0.heap.size) (by have:=lT.out;have:=HS.out;omega) (.int .i64 f) (.slice ua un uc)).mono (b2:=w.heap.size) (by have:=lT.out;have:=HS.out;omega)
  have bO:=b9 (b:=W0.heap.size) (x:=.int .i64 f) (y:=.slice ua un uc) ((HQ.out.trans (HBw.out.mono (by have:=HS.out;omega))).setCell (p:=⟨w.heap.size,1,none⟩) (aj _) (.slice ua un uc)) (by have:=HS.out;omega)
  exact bodyPost_ret (aK rfl _ _ W0.heap.size 150 _ (0,0) _ rfl (hx.two _ _) underlying150 rfl (by kernel_rfl)) rfl ⟨.inl ⟨HG.out,_,rfl,jE⟩,bO⟩
 ·rw [Bool.not_eq_true] at hg;rw [hg];have HG:=ab hg;have x1:=zk.out.below bP.out;have e0:w1.cell? ⟨0,0,none⟩=some (.iface 360 (.pointer (some (A 0)))):=HE.out.below bP.out;have p3:=x1.c0;have p4:=x1.c1;have p5:=x1.free 0;have p6:=x1.free 1;have Hq:=ab x1;clear x1;go_wp2_with fail;go_region_held3 (fun w'=>w'.cell? ⟨0,0,none⟩=some (.iface 360 (.pointer (some (A 0))))) (go_keep) (fail)
  all_goals
   go_wp2_with fail;exact bodyPost_ret (aK rfl _ _ W0.heap.size 150 _ (0,0) _ rfl (Hq.out.two _ _).drew underlying150 rfl (by kernel_rfl)) rfl ⟨.inr ⟨HG.out,rfl⟩,aO (b9 (Below.next HQ.out bP.out) (by have:=HS.out;omega))⟩
theorem Qp(A:Nat→Addr)(f i:Int)(v:Value)(l:List Lk)(w:World)(hm:l.length≤5864062014800)(hr:di w v l)(hE:jL A w) :
  Calls prog 167 #[.agg #[.int .i64 f,v],.int .i64 i] w fun e w' =>
   ((pS l i=true∧∃ u,e = .returned (.tuple #[.agg #[.int .i64 f,u],.nilIface])∧b6 w' w.heap.size u (cA l i.toNat))∨(pS l i=false∧e = .returned (.tuple #[.agg #[.int .i64 0,.slice none 0 0],.iface 360 (.pointer (some (A 0)))])))∧Below w.heap.size w w':=L5 A f i v l w hm hr hE.a
theorem L9(A:Nat→Addr)(f i:Int)(v:Value)(l:List Lk)(key:ByteArray)(c:Int)(w:World)(hm:l.length≤5864062014800)(hr:di w v l)(hE:Mw A w):Calls prog 203 #[.agg #[.int .i64 f,v],.int .i64 i,.agg #[.string key,.int .i64 c]] w fun e w'=>((zd l i=true∧∃ u,e = .returned (.tuple #[.agg #[.int .i64 f,u],.nilIface])∧b6 w' w.heap.size u (dF l i.toNat (key,c)))∨(zd l i=false∧e = .returned (.tuple #[.agg #[.int .i64 0,.slice none 0 0],.iface 360 (.pointer (some (A 0)))])))∧Below w.heap.size w w':=by
 obtain ⟨a,cap,hv⟩:=hr.form;subst hv;obtain ⟨n,hn⟩ : ∃ n,n=l.length:=⟨_,rfl⟩;rw [← hn] at hm hr ⊢;have q0:=ai w (.cells #[.int .i64 f,.slice a n cap] 150);have x0:=au.new w #[.int .i64 f,.slice a n cap] 150;have s0:(w.alloc (.cells #[.int .i64 f,.slice a n cap] 150)).heap.size=w.heap.size+1:=by simp
 generalize hWa:w.alloc (.cells #[.int .i64 f,.slice a n cap] 150)=Wa at *;have qa:=ai Wa (.cells #[.string key,.int .i64 c] 179);have xa:=au.new Wa #[.string key,.int .i64 c] 179;have sa:(Wa.alloc (.cells #[.string key,.int .i64 c] 179)).heap.size=Wa.heap.size+1:=by simp
 generalize Cc:Wa.alloc (.cells #[.string key,.int .i64 c] 179)=W0 at *;have q1:=ai W0 (.cells #[.int .i64 0,.slice none 0 0] 150);have x1:=au.new W0 #[.int .i64 0,.slice none 0 0] 150;have s1:(W0.alloc (.cells #[.int .i64 0,.slice none 0 0] 150)).heap.size=W0.heap.size+1:=by simp
 generalize gF:W0.alloc (.cells #[.int .i64 0,.slice none 0 0] 150)=W1 at *;have Hr:=ab (x0.below (Below.next qa q1));have uW:=ab (xa.below q1);have zk:=ab x1;have hq:=Below.next (Below.next q0 qa) q1;have HQ:=ab hq;have HR:=ab (hr.below hq);have HE:=ab (hE.below hq);have HS:Hid (Wa.heap.size=w.heap.size+1∧W0.heap.size=w.heap.size+2∧W1.heap.size=w.heap.size+3):=⟨s0,by rw [sa,s0],by rw [s1,sa,s0]⟩
 have b1:¬ w.heap.size=W0.heap.size:=by omega
 have b2:¬ W0.heap.size=w.heap.size:=by omega
 have pR:0<w.heap.size:=World.block_lt_of_cell? w _ hE;have b3:¬ 0=W0.heap.size:=by omega
 have b4:¬ W0.heap.size=0:=by omega
 have HN:=ab hn;have HH:=ab (Mc f i _ l W1 HR.out);have uX:Hid (∀ W,Below W1.heap.size W1 W→Calls prog 209 #[.slice a n cap] W fun e w'=>∃ ua uc,e = .returned (.slice ua n uc)∧b6 w' W.heap.size (.slice ua n uc) l∧Below W.heap.size W w'):=fun W h=>by
  refine (eM (.slice a n cap) l W (by have:=HN.out;omega) (HR.out.below h)).mono ?_
  rintro e w' ⟨u,rfl,ho,hb⟩;obtain ⟨ua,uc,hu⟩:=ho.form;rw [← HN.out] at hu;subst hu;exact ⟨ua,uc,rfl,ho,hb⟩
 have HIN:Hid (∀ (k:Nat) (W:World) (ua:Option Addr) (uc base vb:Nat),k≤n→W1.heap.size≤base→base≤W.heap.size→b6 W base (.slice ua n uc) l→au W vb #[.string key,.int .i64 c] 179→(Value.slice ua n uc).ownBlock≠some vb→Below W1.heap.size W1 W→Calls prog 231 #[.slice ua n uc,.int .i64 (k:Int),.slice (some ⟨vb,0,none⟩) 1 1] W fun e w'=>∃ va vc,e = .returned (.slice va (n+1) vc)∧b6 w' W1.heap.size (.slice va (n+1) vc) (dF l k (key,c))∧Below W1.heap.size W1 w'):=fun k W ua uc base vb hk aL aU ho bE dE h=>by
  refine (ot base (.slice ua n uc) l k vb (key,c) W (by have:=HN.out;omega) (by have:=HN.out;omega) ho aU bE dE).mono ?_
  rintro e w' ⟨u,rfl,ho,hb⟩;obtain ⟨va,vc,hu⟩:=ho.form;rw [eY l k _ (by have:=HN.out;omega),← HN.out] at hu
  subst hu;exact ⟨va,vc,rfl,ho.mono aL,h.trans (hb.mono aL)⟩
 have p0:=Hr.out.c0;have p1:=Hr.out.c1;clear q0 x0 qa xa q1 x1 hr hE hn s0 s1 sa pR hq;go_enter func203,ntmps203;go_wp2_with fail;refine HH.out.mono ?_
 rintro e w1 ⟨rfl,aL⟩;have bP:=ab aL;clear aL HH p0 p1;by_cases hg:zd l i=true
 ·rw [hg];have HG:=ab hg;simp only [zd,cz,decide_eq_true_eq] at hg;obtain ⟨k,hk⟩ : ∃ k:Nat,i=(k:Int):=⟨i.toNat,by omega⟩
  subst hk;have HK:Hid (k≤n):=by have:=HN.out;show k≤n;omega
  have Xd:=ab bP.out.size;have p0:=(Hr.out.below bP.out).c0;have p1:=(Hr.out.below bP.out).c1;have p2:=(uW.out.below bP.out).c0;have p3:=(uW.out.below bP.out).c1;have p4:=World.new_ne w1 _ p1;clear hg;go_wp2_with fail;refine wp_region_held_drew (S:=(fun w'=>w'.cell? ⟨Wa.heap.size,0,none⟩=some (.string key)∧w'.cell? ⟨Wa.heap.size,1,none⟩=some (.int .i64 c))) (by kernel_rfl) ⟨p2,p3⟩ (fun gk=>?_)
  refine wpAnyH_take (i:=0) (oi:={ dst:=some 14,op:=Op.fieldAddr 150 (Operand.tmp 3) 1,type:=0,pos := "branch.go:226",after:=#[],guard:=none }) (v:=?_) rfl (by kernel_rfl) (by kernel_rfl) (by kernel_rfl) (fun _ _ _ h=>h) (Or.inl ⟨by rfl,?_⟩) (by assumption) ?_
  rotate_left
  ·(intro w' xM;(try dsimp only at xM);go_simp;try with_reducible rfl)
  simp only [Act.put,aC,List.set_cons_zero,List.set_cons_succ];refine wpAnyH_take (i:=3) (oi:={ dst:=some 17,op:=Op.move (Operand.tmp 1),type:=3,pos := "branch.go:226",after:=#[],guard:=none }) (v:=?_) rfl (by kernel_rfl) (by kernel_rfl) (by kernel_rfl) (fun _ _ _ h=>h) (Or.inl ⟨by rfl,?_⟩) (by assumption) ?_
  rotate_left
  ·(intro w' xM;(try dsimp only at xM);go_simp;try with_reducible rfl)
  simp only [Act.put,aC,List.set_cons_zero,List.set_cons_succ];refine wpAnyH_take (i:=4) (oi:={ dst:=some 18,op:=Op.load 179 (Operand.tmp 5),type:=179,pos := "branch.go:226",after:=#[],guard:=none }) (v:=?_) rfl (by kernel_rfl) (by kernel_rfl) (by kernel_rfl) (fun _ _ _ h=>h) (Or.inl ⟨by rfl,?_⟩) (by assumption) ?_
  rotate_left
  ·(intro w' xM;(try dsimp only at xM);go_simp;try with_reducible rfl)
  simp only [Act.put,aC,List.set_cons_zero,List.set_cons_succ];refine wpAnyH_ready (rs:=[1,5]) (by kernel_rfl) (by simp) ?_
  refine AllReadyH.cons rfl (fun K hK=>?_) (AllReadyH.cons rfl (fun K hK=>?_) AllReadyH.nil)
  focus
   clear gk;go_simp
   refine hK.out _ _ ⟨p2,p3⟩ (fun gk=>?_)
   clear hK K;refine wpAnyH_ready (rs:=[2,5]) (by kernel_rfl) (by simp) ?_
   refine AllReadyH.cons rfl (fun K hK=>?_) (AllReadyH.cons rfl (fun K hK=>?_) AllReadyH.nil)
   focus
    clear gk;go_simp
    refine (uX.out _ bP.out.drew).mono ?_
    rintro e w2 ⟨ua,uc,rfl,jE,aU⟩;have bH:=ab (Below.next bP.out (dq aU));have jP:=ab jE;have ll:=ab (show w1.heap.size≤w2.heap.size from aU.size)
    have d2:=(uW.out.below bH.out).c0;have d3:=(uW.out.below bH.out).c1;clear jE aU;refine hK.out _ _ ⟨d2,d3⟩ (fun gk=>?_)
    clear hK K;refine wpAnyH_ready (rs:=[5]) (by kernel_rfl) (by simp) ?_
    refine AllReadyH.cons rfl (fun K hK=>?_) AllReadyH.nil
    clear gk;go_simp
    have q5:=ai w2 (.cells #[.string key,.int .i64 c] 179);have x5:=au.new w2 #[.string key,.int .i64 c] 179;have iW:=ab (Below.next bH.out q5);have HO5:=ab (jP.out.below q5);have D7:(Value.slice ua n uc).ownBlock≠some w2.heap.size:=fun h=>by have:=(jP.out.dr _ h).2;omega
    have HK5:=ab (HIN.out k (w2.alloc (.cells #[.string key,.int .i64 c] 179)) ua uc w1.heap.size w2.heap.size HK.out Xd.out (ar ll.out q5.size) HO5.out x5 D7 iW.out);have d2:=(uW.out.below iW.out).c0;have d3:=(uW.out.below iW.out).c1;generalize w2.alloc (.cells #[.string key,.int .i64 c] 179)=W5 at *;clear q5 x5 D7;refine hK.out _ _ ⟨d2,d3⟩ (fun gk=>?_)
    clear hK K
   rotate_left;focus
    clear gk;go_simp
    have q5:=ai w1 (.cells #[.string key,.int .i64 c] 179);have x5:=au.new w1 #[.string key,.int .i64 c] 179;have s5:(w1.alloc (.cells #[.string key,.int .i64 c] 179)).heap.size=w1.heap.size+1:=by simp
    have iW:=ab (Below.next bP.out q5);have zj:=ab x5.drew;have sq:Hid ((w1.alloc (.cells #[.string key,.int .i64 c] 179)).heap.size=w1.heap.size+1):=s5;have d2:=(uW.out.below iW.out).c0;have d3:=(uW.out.below iW.out).c1;have d1:=(Hr.out.below iW.out).c1;clear q5 x5 s5;refine hK.out _ _ ⟨d2,d3⟩ (fun gk=>?_)
    clear hK K;refine wpAnyH_ready (rs:=[2]) (by kernel_rfl) (by simp) ?_
    refine AllReadyH.cons rfl (fun K hK=>?_) AllReadyH.nil
    clear gk;go_simp
    refine (uX.out _ iW.out.drew).mono ?_
    rintro e w2 ⟨ua,uc,rfl,jE,aU⟩;have bH:=ab (Below.next iW.out (dq aU));have jP:=ab jE;have HXV:=ab (zj.out.below aU);have D7:(Value.slice ua n uc).ownBlock≠some w1.heap.size:=fun h=>by have:=(jE.dr _ h).1;have:=sq.out;have e:(w1.alloc (.cells #[.string key,.int .i64 c] 179)).drew.heap.size=(w1.alloc (.cells #[.string key,.int .i64 c] 179)).heap.size:=rfl;omega
    have HK5:=ab (HIN.out k w2 ua uc _ w1.heap.size HK.out (ar Xd.out (by have:=sq.out;show w1.heap.size≤(w1.alloc (.cells #[.string key,.int .i64 c] 179)).heap.size;omega)) aU.size jP.out HXV.out D7 bH.out)
    have d2:=(uW.out.below bH.out).c0;have d3:=(uW.out.below bH.out).c1;clear jE aU D7;refine hK.out _ _ ⟨d2,d3⟩ (fun gk=>?_)
    clear hK K
  rotate_left 2
  focus
   clear gk;go_simp
   have q5:=ai w1 (.cells #[.string key,.int .i64 c] 179);have x5:=au.new w1 #[.string key,.int .i64 c] 179;have s5:(w1.alloc (.cells #[.string key,.int .i64 c] 179)).heap.size=w1.heap.size+1:=by simp
   have iW:=ab (Below.next bP.out q5);have zj:=ab x5.drew;have sq:Hid ((w1.alloc (.cells #[.string key,.int .i64 c] 179)).heap.size=w1.heap.size+1):=s5;have d2:=(uW.out.below iW.out).c0;have d3:=(uW.out.below iW.out).c1;have d1:=(Hr.out.below iW.out).c1;clear q5 x5 s5;refine hK.out _ _ ⟨d2,d3⟩ (fun gk=>?_)
   clear hK K;refine wpAnyH_ready (rs:=[1]) (by kernel_rfl) (by simp) ?_
   refine AllReadyH.cons rfl (fun K hK=>?_) AllReadyH.nil
   clear gk;go_simp
   refine hK.out _ _ ⟨d2,d3⟩ (fun gk=>?_)
   clear hK K;refine wpAnyH_ready (rs:=[2]) (by kernel_rfl) (by simp) ?_
   refine AllReadyH.cons rfl (fun K hK=>?_) AllReadyH.nil
   clear gk;go_simp
   refine (uX.out _ iW.out.drew).mono ?_
   rintro e w2 ⟨ua,uc,rfl,jE,aU⟩;have bH:=ab (Below.next iW.out (dq aU));have jP:=ab jE;have HXV:=ab (zj.out.below aU);have D7:(Value.slice ua n uc).ownBlock≠some w1.heap.size:=fun h=>by have:=(jE.dr _ h).1;have:=sq.out;have e:(w1.alloc (.cells #[.string key,.int .i64 c] 179)).drew.heap.size=(w1.alloc (.cells #[.string key,.int .i64 c] 179)).heap.size:=rfl;omega
   have HK5:=ab (HIN.out k w2 ua uc _ w1.heap.size HK.out (ar Xd.out (by have:=sq.out;show w1.heap.size≤(w1.alloc (.cells #[.string key,.int .i64 c] 179)).heap.size;omega)) aU.size jP.out HXV.out D7 bH.out)
   have d2:=(uW.out.below bH.out).c0;have d3:=(uW.out.below bH.out).c1;clear jE aU D7;refine hK.out _ _ ⟨d2,d3⟩ (fun gk=>?_)
   clear hK K
  all_goals
   refine wpAnyH_ready (rs:=[6]) (by kernel_rfl) (by simp) ?_
   refine AllReadyH.cons rfl (fun K hK=>?_) AllReadyH.nil
   clear gk;go_simp
   refine HK5.out.mono ?_
   rintro e w3 ⟨va,vc,rfl,lJ,bT⟩;have eG:=ab bT;have BY:=ab lJ;have x0:=Hr.out.below bT;have e1:=x0.c1;have e2:=x0.free 1;have d2:=(uW.out.below eG.out).c0;have d3:=(uW.out.below eG.out).c1;clear lJ bT x0;refine hK.out _ _ ⟨d2,d3⟩ (fun gk=>?_)
   clear hK K;clear d2 d3;refine wpAnyH_take (i:=7) (oi:={ dst:=some 21,op:=Op.fieldAddr 150 (Operand.tmp 3) 1,type:=0,pos := "branch.go:226",after:=#[{ on:=0,ground:=Ground.phase },{ on:=1,ground:=Ground.phase },{ on:=2,ground:=Ground.phase },{ on:=3,ground:=Ground.phase },{ on:=4,ground:=Ground.phase },{ on:=5,ground:=Ground.phase },{ on:=6,ground:=Ground.phase }],guard:=none }) (v:=?_) rfl (by kernel_rfl) (by kernel_rfl) (by kernel_rfl) (fun _ _ _ h=>h) (Or.inl ⟨by rfl,?_⟩) (by assumption) ?_
   rotate_left
   ·(intro w' xM;(try dsimp only at xM);go_simp;try with_reducible rfl)
   simp only [Act.put,aC,List.set_cons_zero,List.set_cons_succ];refine wpAnyH_ready (rs:=[8]) (by kernel_rfl) (by simp) ?_
   refine AllReadyH.cons rfl (fun K hK=>?_) AllReadyH.nil
   clear gk;go_simp
   refine hK.out _ _ ⟨?_,?_⟩ (fun gk=>?_)
   ·rw [World.cell?_setCell_far _ _ _ _ (by have:=HS.out;show w.heap.size≠Wa.heap.size;omega)];exact (uW.out.below eG.out).c0
   ·rw [World.cell?_setCell_far _ _ _ _ (by have:=HS.out;show w.heap.size≠Wa.heap.size;omega)];exact (uW.out.below eG.out).c1
   clear hK K;refine wpAnyH_done (by kernel_rfl) ?_ _
   clear gk;have x0:=Hr.out.below eG.out;have x1:=zk.out.below eG.out;have y0:=x0.c0;have y3:=x1.c0;have y4:=x1.c1;have y5:=x1.free 0;have y6:=x1.free 1;have Hq:=ab x1;clear x0 x1;go_wp2_with fail;have hx:=Hq.out.other (j:=1) b2 (.slice va (n+1) vc);have ho:=BY.out.put (g:=w.heap.size) (j:=1) (fun h=>by have:=(BY.out.dr _ h).1;have:=HS.out;omega) (.slice va (n+1) vc)
   have jE:=(ho.wG (g:=W0.heap.size) (by have:=HS.out;omega) (.int .i64 f) (.slice va (n+1) vc)).mono (b2:=w.heap.size) (by have:=HS.out;omega)
   have bO:=b9 (b:=W0.heap.size) (x:=.int .i64 f) (y:=.slice va (n+1) vc) ((HQ.out.trans (eG.out.mono (by have:=HS.out;omega))).setCell (p:=⟨w.heap.size,1,none⟩) (aj _) (.slice va (n+1) vc)) (by have:=HS.out;omega)
   exact bodyPost_ret (aK rfl _ _ W0.heap.size 150 _ (0,0) _ rfl (hx.two _ _) underlying150 rfl (by kernel_rfl)) rfl ⟨.inl ⟨HG.out,_,rfl,jE⟩,bO⟩
 ·rw [Bool.not_eq_true] at hg;rw [hg];have HG:=ab hg;have x1:=zk.out.below bP.out;have e0:w1.cell? ⟨0,0,none⟩=some (.iface 360 (.pointer (some (A 0)))):=HE.out.below bP.out;have p3:=x1.c0;have p4:=x1.c1;have p5:=x1.free 0;have p6:=x1.free 1;have Hq:=ab x1;clear x1;go_wp2_with fail;go_region_held3 (fun w'=>w'.cell? ⟨0,0,none⟩=some (.iface 360 (.pointer (some (A 0))))) (go_keep) (fail)
  all_goals
   go_wp2_with fail;exact bodyPost_ret (aK rfl _ _ W0.heap.size 150 _ (0,0) _ rfl (Hq.out.two _ _).drew underlying150 rfl (by kernel_rfl)) rfl ⟨.inr ⟨HG.out,rfl⟩,aO (b9 (Below.next HQ.out bP.out) (by have:=HS.out;omega))⟩
theorem Qr(A:Nat→Addr)(f i:Int)(v:Value)(l:List Lk)(key:ByteArray)(c:Int)(w:World)(hm:l.length≤5864062014800)(hr:di w v l)(hE:jL A w) :
  Calls prog 203 #[.agg #[.int .i64 f,v],.int .i64 i,.agg #[.string key,.int .i64 c]] w fun e w' =>
   ((zd l i=true∧∃ u,e = .returned (.tuple #[.agg #[.int .i64 f,u],.nilIface])∧b6 w' w.heap.size u (dF l i.toNat (key,c)))∨(zd l i=false∧e = .returned (.tuple #[.agg #[.int .i64 0,.slice none 0 0],.iface 360 (.pointer (some (A 0)))])))∧Below w.heap.size w w':=L9 A f i v l key c w hm hr hE.a
end B
namespace T
theorem vL(A:Nat→Addr)(b:Nat)(n:SN)(pv lv cv:Value)(i:Nat)(w:World)(h:dH w b n pv lv cv)(hi:i<n.lk.length)(hlen:n.us.length=n.lk.length+1)(hE:jL A w):Calls prog 127 #[.pointer (some ⟨b,0,none⟩),.int .i64 (i:Int)] w fun e w'=>Ru w ⟨[],n.f,B.cA n.lk i,C.cA n.us (i+1)⟩ e w':=by
 have hf:=h.fine;have aaC:Hid (Calls prog 167 #[.agg #[.int .i64 n.f,lv],.int .i64 (i:Int)] w fun e w'=>∃ (ua:Option Addr) (um uc:Nat),e = .returned (.tuple #[.agg #[.int .i64 n.f,.slice ua um uc],.nilIface])∧B.b6 w' w.heap.size (.slice ua um uc) (B.cA n.lk i)∧Below w.heap.size w w'):=by
  refine (B.Qp A n.f (i:Int) lv n.lk w (by omega) h.a8 hE).mono fun e w' ⟨hv,hb⟩=>?_
  rcases hv with ⟨_,u,he,ho⟩ | ⟨hg,_⟩
  ·obtain ⟨ua,uc,hu⟩:=ho.form;subst hu;exact ⟨_,_,_,he,ho,hb⟩
  ·exfalso
   simp only [B.pS,Bool.and_eq_false_iff,decide_eq_false_iff_not] at hg;omega
 have p1:=h.c1;have p2:=h.c2;have HH:=ab h;have bO:b<w.heap.size:=h.row.lt;obtain ⟨j,hj⟩ : ∃ j,j=i+1:=⟨_,rfl⟩;have vw:IntKind.i64.wrap ((i:Int)+1)=(j:Int):=by rw [IntKind.wrap_i64];omega
 have Q6:IntKind.i64.wrap ((i:Int)+2)=(j:Int)+1:=by rw [IntKind.wrap_i64];omega
 have HJ:Hid (j<n.us.length∧n.us.length≤4001):=⟨by omega,by omega⟩
 have HF:=ab hf;have HI:=ab hi;rw [← hj];clear h hf hE hi hlen hj;go_enter func127,ntmps127;go_wp2_with fail;refine aaC.out.mono ?_
 rintro e w1 ⟨ua,um,uc,rfl,ho,aL⟩;have q2:=ai w1 (.cells #[.int .i64 n.f,.slice ua um uc] 150);have x2:=B.au.new w1 #[.int .i64 n.f,.slice ua um uc] 150;have HO:=ab (ho.below q2);have bH:=ab (Below.next aL q2);have nB:=ab x2;have eU:¬ b=w1.heap.size:=by have:=aL.size;omega
 clear aaC p1 p2 ho aL q2 x2;go_wp2_with fail;generalize w1.alloc (.cells #[.int .i64 n.f,.slice ua um uc] 150)=W2 at *;generalize w1.heap.size=k2 at *;have k0:=nB.out.c0;have k1:=nB.out.c1;have k3:=(HH.out.below bH.out).c3;obtain ⟨ca,cc,xJ⟩:=HH.out.kids.form;have uX:Hid (∀ W,Below W2.heap.size W2 W→Calls prog 164 #[cv] W fun e w'=>∃ (g c:Nat),e = .returned (.slice (some ⟨g,0,none⟩) n.us.length c)∧C.b6 w' W.heap.size (.slice (some ⟨g,0,none⟩) n.us.length c) n.us∧Below W.heap.size W w'):=fun W hW=>by
  refine (C.eM cv n.us W (by have:=HJ.out;omega) ((HH.out.below (Below.next bH.out hW)).kids)).mono fun e w' ⟨u,h1,h2,h3⟩=>?_
  obtain ⟨g,c,hu,_,_⟩:=rI h2 (by have:=HJ.out;omega)
  subst hu;exact ⟨g,c,h1,h2,h3⟩
 subst xJ;have Va:Hid (k2<W2.heap.size∧b<W2.heap.size):=⟨nB.out.lt,by have:=bH.out.size;omega⟩
 have BV:Hid ((C.cA n.us j).length≤4001∧(B.cA n.lk i).length≤4000∧∀ p ∈ B.cA n.lk i,cQ p.1):=by
  have h1:=HJ.out;have h2:=HF.out;refine ⟨by unfold C.cA;rw [ae,ag,ao];omega,by unfold B.cA;rw [ae,ag,ao];omega,fun p hp=>?_⟩
  unfold B.cA at hp;rcases List.mem_append.1 hp with h | h
  ·exact h2.2.2.1 p (bF h)
  ·exact h2.2.2.1 p (bG h)
 go_region_held3 (fun w'=>w'.cell? ⟨k2,0,none⟩=some (.int .i64 n.f)∧w'.cell? ⟨k2,1,none⟩=some (.slice ua um uc)∧w'.cell? ⟨b,3,none⟩=some (.slice ca n.us.length cc)) (go_keep)
  (first
   | (go_at_call 164;refine (uX.out _ (Below.refl _ _).drew).mono ?_;rintro e w3 ⟨g,c,rfl,lJ,bT⟩;have BY:=ab lJ;have eG:=ab (B.dq bT);have m0:=(nB.out.below eG.out).c0;have m1:=(nB.out.below eG.out).c1;have m3:=(HH.out.below (Below.next bH.out eG.out)).c3;clear lJ bT)
   | (go_at_call 168;refine (C.ou _ _ n.us j _ HJ.out.1 BY.out).mono ?_;rintro e w4 ⟨u4,rfl,Ux,gj⟩;obtain ⟨a4,c4,hu4⟩:=Ux.form;subst hu4;have XP:=ab Ux;have iU:Hid (Below W2.heap.size W2 w4):=eG.out.trans gj;have m0:=(nB.out.below iU.out).c0;have m1:=(nB.out.below iU.out).c1;have m3:=(HH.out.below (Below.next bH.out iU.out)).c3;clear Ux gj))
 all_goals (
  have q:=ai w4 (.cells #[.slice none 0 0,.int .i64 n.f,.slice ua um uc,.slice a4 (C.cA n.us j).length c4] 155);have xr:=B.au.new w4 #[.slice none 0 0,.int .i64 n.f,.slice ua um uc,.slice a4 (C.cA n.us j).length c4] 155;have HR:Hid (dH (w4.alloc (.cells #[.slice none 0 0,.int .i64 n.f,.slice ua um uc,.slice a4 (C.cA n.us j).length c4] 155)) w4.heap.size ⟨[],n.f,B.cA n.lk i,C.cA n.us j⟩ (.slice none 0 0) (.slice ua um uc) (.slice a4 (C.cA n.us j).length c4)):=⟨xr,gG.nil _,((HO.out.below iU.out).below q).at,(XP.out.below q).at,(fun p hp=>by simp at hp),by simp,BV.out.2.2,BV.out.2.1,BV.out.1⟩
  have mJ:=ab (Below.next (Below.next bH.out iU.out) q);clear q xr;go_wp2;go_ret;exact ⟨_,_,_,_,rfl,HR.out,mJ.out⟩)
theorem bM(p:C.Ch):∃ t x,p.val = .iface t x:=by
 cases p
 ·exact ⟨_,_,rfl⟩
 ·exact ⟨_,_,rfl⟩
theorem JH(A:Nat→Addr)(b:Nat)(n:SN)(pv lv cv:Value)(i:Nat)(key:ByteArray)(p:C.Ch)(w:World)(h:dH w b n pv lv cv)(hi:i≤n.lk.length)(hlen:n.us.length=n.lk.length+1)(dW:n.lk.length≤3999)(hk:cQ key)(hE:jL A w):Calls prog 163 #[.pointer (some ⟨b,0,none⟩),.int .i64 (i:Int),.string key,p.val] w fun e w'=>Ru w ⟨[],n.f,B.dF n.lk i (key,0),C.dF n.us (i+1) p⟩ e w':=by
 have hf:=h.fine;have aaT:Hid (Calls prog 203 #[.agg #[.int .i64 n.f,lv],.int .i64 (i:Int),.agg #[.string key,.int .i64 0]] w fun e w'=>∃ (ua:Option Addr) (um uc:Nat),e = .returned (.tuple #[.agg #[.int .i64 n.f,.slice ua um uc],.nilIface])∧B.b6 w' w.heap.size (.slice ua um uc) (B.dF n.lk i (key,0))∧Below w.heap.size w w'):=by
  refine (B.Qr A n.f (i:Int) lv n.lk key 0 w (by omega) h.a8 hE).mono fun e w' ⟨hv,hb⟩=>?_
  rcases hv with ⟨_,u,he,ho⟩ | ⟨hg,_⟩
  ·obtain ⟨ua,uc,hu⟩:=ho.form;subst hu;exact ⟨_,_,_,he,ho,hb⟩
  ·exfalso
   simp only [B.zd,Bool.and_eq_false_iff,decide_eq_false_iff_not] at hg;omega
 have p1:=h.c1;have p2:=h.c2;have HH:=ab h;have bO:b<w.heap.size:=h.row.lt;obtain ⟨j,hj⟩ : ∃ j,j=i+1:=⟨_,rfl⟩;have vw:IntKind.i64.wrap ((i:Int)+1)=(j:Int):=by rw [IntKind.wrap_i64];omega
 have HJ:Hid (j≤n.us.length∧1≤n.us.length∧n.us.length≤4000):=⟨by omega,by omega,by omega⟩
 have BV:Hid ((C.dF n.us j p).length≤4001∧(B.dF n.lk i (key,0)).length≤4000∧∀ q ∈ B.dF n.lk i (key,0),cQ q.1):=by
  refine ⟨by unfold C.dF;rw [ae,List.length_cons,ag,ao];omega,by unfold B.dF;rw [ae,List.length_cons,ag,ao];omega,fun q hq=>?_⟩
  unfold B.dF at hq;rcases List.mem_append.1 hq with h | h
  ·exact hf.2.2.1 q (bF h)
  ·rcases List.mem_cons.1 h with rfl | h
   ·exact hk
   ·exact hf.2.2.1 q (bG h)
 rw [← hj];clear h hf hE hi hlen hj dW hk;obtain ⟨pt,px,iS⟩:=bM p;rw [iS];have HPV:=ab iS;clear iS;go_enter func163,ntmps163;go_wp2_with fail;refine aaT.out.mono ?_
 rintro e w1 ⟨ua,um,uc,rfl,ho,aL⟩;have q2:=ai w1 (.cells #[.int .i64 n.f,.slice ua um uc] 150);have x2:=B.au.new w1 #[.int .i64 n.f,.slice ua um uc] 150;have HO:=ab (ho.below q2);have bH:=ab (Below.next aL q2);have nB:=ab x2;clear aaT p1 p2 ho aL q2 x2;go_wp2_with fail;generalize w1.alloc (.cells #[.int .i64 n.f,.slice ua um uc] 150)=W2 at *;generalize w1.heap.size=k2 at *;have k0:=nB.out.c0;have k1:=nB.out.c1;have k3:=(HH.out.below bH.out).c3;obtain ⟨ca,cc,xJ⟩:=HH.out.kids.form;have uX:Hid (∀ W,Below W2.heap.size W2 W→Calls prog 164 #[cv] W fun e w'=>∃ (g c:Nat),e = .returned (.slice (some ⟨g,0,none⟩) n.us.length c)∧C.b6 w' W.heap.size (.slice (some ⟨g,0,none⟩) n.us.length c) n.us∧Below W.heap.size W w'):=fun W hW=>by
  refine (C.eM cv n.us W (by have:=HJ.out;omega) ((HH.out.below (Below.next bH.out hW)).kids)).mono fun e w' ⟨u,h1,h2,h3⟩=>?_
  obtain ⟨g,c,hu,_,_⟩:=rI h2 (by have:=HJ.out;omega)
  subst hu;exact ⟨g,c,h1,h2,h3⟩
 have aaU:Hid (∀ (W:World) (base g c vb:Nat),C.b6 W base (.slice (some ⟨g,0,none⟩) n.us.length c) n.us→base≤W.heap.size→B.au W vb #[.iface pt px] 97→g≠vb→Calls prog 204 #[.slice (some ⟨g,0,none⟩) n.us.length c,.int .i64 (j:Int),.slice (some ⟨vb,0,none⟩) 1 1] W fun e w'=>∃ (a4:Option Addr) (c4:Nat),e = .returned (.slice a4 (C.dF n.us j p).length c4)∧C.b6 w' base (.slice a4 (C.dF n.us j p).length c4) (C.dF n.us j p)∧Below base W w'):=fun W base g c vb h1 h2 h3 h4=>by
  refine (C.ot base _ n.us j vb p W (by have:=HJ.out;omega) HJ.out.1 h1 h2 (by rw [HPV.out];exact h3) (fun e=>h4 (by simpa [Value.ownBlock] using e))).mono fun e w' ⟨u,g1,g2,g3⟩=>?_
  obtain ⟨a4,c4,hu⟩:=g2.form;subst hu;exact ⟨a4,c4,g1,g2,g3⟩
 subst xJ;have q5:=ai W2 (.cells #[.iface pt px] 97);have x5:=B.au.new W2 #[.iface pt px] 97;have s5:(W2.alloc (.cells #[.iface pt px] 97)).heap.size=W2.heap.size+1:=by simp
 obtain ⟨y0,y1,y3⟩ : (W2.alloc (.cells #[.iface pt px] 97)).cell? ⟨k2,0,none⟩=some (.int .i64 n.f)∧(W2.alloc (.cells #[.iface pt px] 97)).cell? ⟨k2,1,none⟩=some (.slice ua um uc)∧(W2.alloc (.cells #[.iface pt px] 97)).cell? ⟨b,3,none⟩=some (.slice ca n.us.length cc):=⟨(nB.out.below q5).c0,(nB.out.below q5).c1,(HH.out.below (Below.next bH.out q5)).c3⟩;have f0:=World.new_ne W2 _ k0;have f3:=World.new_ne W2 _ k3;generalize hW5:W2.alloc (.cells #[.iface pt px] 97)=W5 at *;have E2:=ab q5;have zj:=ab x5;have sq:=ab s5;clear q5 x5 s5;go_region_held3 (fun w'=>w'.cell? ⟨k2,0,none⟩=some (.int .i64 n.f)∧w'.cell? ⟨k2,1,none⟩=some (.slice ua um uc)∧w'.cell? ⟨b,3,none⟩=some (.slice ca n.us.length cc)) (go_keep)
  (first
   | (go_at_call 164;refine (uX.out _ ?_).mono ?_;(first | exact (Below.refl _ _).drew | exact E2.out.drew);rintro e w3 ⟨g,c,rfl,lJ,bT⟩;have eG:Hid (Below W2.heap.size W2 w3):=(by first | exact B.dq bT | exact Below.next E2.out (B.dq bT));have BY:=ab lJ;have Rw:=ab bT;(try (have ad6:=ab (zj.out.drew.below bT)));have m0:=(nB.out.below eG.out).c0;have m1:=(nB.out.below eG.out).c1;have m3:=(HH.out.below (Below.next bH.out eG.out)).c3;have e0:=World.new_ne w3 _ m0;have e3:=World.new_ne w3 _ m3;clear lJ bT)
   | (go_at_call 204;(first
       | (refine (aaU.out _ _ _ _ _ BY.out Rw.out.size ad6.out (by have h1:=(BY.out.dr g rfl).1;have h2:=sq.out;show g≠W2.heap.size;show g≠_;simp only [World.drew] at h1;omega)).mono ?_;rintro e w4 ⟨a4,c4,rfl,Ux,gj⟩;have XP:=ab Ux;have iU:Hid (Below W2.heap.size W2 w4):=(eG.out.trans (gj.mono (by have:=sq.out;show W2.heap.size≤W5.heap.size;omega))))
       | (refine (aaU.out _ _ _ _ _ (BY.out.below (ai w3 (.cells #[.iface pt px] 97))) (ar Rw.out.size (ai w3 (.cells #[.iface pt px] 97)).size) (B.au.new w3 #[.iface pt px] 97) (by have h1:=(BY.out.dr g rfl).2;omega)).mono ?_;rintro e w4 ⟨a4,c4,rfl,Ux,gj⟩;have XP:=ab Ux;have iU:Hid (Below W2.heap.size W2 w4):=((Below.next eG.out (ai w3 (.cells #[.iface pt px] 97))).trans gj))
      );have m0:=(nB.out.below iU.out).c0;have m1:=(nB.out.below iU.out).c1;have m3:=(HH.out.below (Below.next bH.out iU.out)).c3;clear Ux gj))
 all_goals (
  have q:=ai w4 (.cells #[.slice none 0 0,.int .i64 n.f,.slice ua um uc,.slice a4 (C.dF n.us j p).length c4] 155);have xr:=B.au.new w4 #[.slice none 0 0,.int .i64 n.f,.slice ua um uc,.slice a4 (C.dF n.us j p).length c4] 155;have HR:Hid (dH (w4.alloc (.cells #[.slice none 0 0,.int .i64 n.f,.slice ua um uc,.slice a4 (C.dF n.us j p).length c4] 155)) w4.heap.size ⟨[],n.f,B.dF n.lk i (key,0),C.dF n.us j p⟩ (.slice none 0 0) (.slice ua um uc) (.slice a4 (C.dF n.us j p).length c4)):=⟨xr,gG.nil _,((HO.out.below iU.out).below q).at,(XP.out.below q).at,(fun p hp=>by simp at hp),by simp,BV.out.2.2,BV.out.2.1,BV.out.1⟩
  have mJ:=ab (Below.next (Below.next bH.out iU.out) q);clear q xr;go_wp2;go_ret;exact ⟨_,_,_,_,rfl,HR.out,mJ.out⟩)
end T
end Go.Proofs.YtihmgigfkmofnaaGreatDoor
