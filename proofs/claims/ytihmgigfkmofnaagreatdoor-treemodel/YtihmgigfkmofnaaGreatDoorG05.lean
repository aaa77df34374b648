import Derived.Test.YtihmgigfkmofnaaGreatDoorG04
import Derived.Deep.RegionLaw
set_option maxHeartbeats 8000000
set_option maxRecDepth 1000000
open Go.Proofs.Tryz
namespace Go.Proofs.YtihmgigfkmofnaaGreatDoor
namespace B
open Go.RowKit Go.Lib
theorem jm(g:Nat)(t:TypeId):∀ (vs:List Value) (o:Nat) (cur:Array Value) (w:World),w.heap[g]?=some (.cells cur t (0,0))→o+vs.length≤cur.size →
  w.setCells g o vs=w.setRow g (cur.toList.take o++vs++cur.toList.drop (o+vs.length)).toArray
 | [],o,cur,w,hg,_=>by
  simp only [World.setCells,List.append_nil,List.length_nil,Nat.add_zero,aG,Array.toArray_toList];rw [setRow_self w g cur t (0,0) hg]
 | v::r,o,cur,w,hg,hl=>by
  have ho:o<cur.size:=by simp at hl;omega
  rw [World.setCells,setCell_eq_setRow w g o cur t (0,0) v hg,jm g t r (o+1) (cur.setIfInBounds o v) _ (setRow_heap w g cur _ t _ hg) (by simp at hl ⊢;omega),setRow_setRow]
  congr 1
  have e:=list_seg_step cur.toList o v r (by simp at hl ⊢;omega)
  simpa [Array.toList_setIfInBounds,Nat.add_assoc] using e
theorem xN(g c:Nat)(l:List Lk)(i m:Nat)(w:World)(cur:Array Value)(hl:l.length=m+1)(hi:i≤m)(Cp:l.length≤c)(hg:w.heap[g]?=some (.cells cur 179 (0,0)))(cx:cur.size=c*2)(ht:cur.toList.take (l.length*2)=bm l):Calls prog 208 #[.slice (some ⟨g,0,none⟩) (m+1) c,.int .i64 (i:Int),.int .i64 ((i:Int)+1)] w fun e w'=>e = .returned (.slice (some ⟨g,0,none⟩) m c)∧∃ fN:Array Value,w'=w.drew.setRow g fN∧fN.size=c*2∧fN.toList.take (m*2)=bm (cH l i):=by
 obtain ⟨i0,yU,n7,GR,O7⟩:=info_parts lQ;have jF:(bm (l.drop (i+1))).length=(m - i)*2:=by rw [aR,ao,hl];omega
 have l1:(bm (l.take i)).length=i*2:=by rw [aR,ag];omega
 obtain ⟨A,hA,GY⟩ : ∃ A:Addr,(if c=i+1 then some (⟨g,0,none⟩ : Addr) else some ⟨g,(i+1)*2,none⟩)=some A∧Hid (∀ t u,(bm (l.drop (i+1)))[t]?=some u→w.drew.cell? (A.add t)=some u):=by
  by_cases h:c=i+1
  ·refine ⟨⟨g,0,none⟩,by simp [h],fun t u hu=>?_⟩
   have h0:(bm (l.drop (i+1))).length=0:=by rw [jF];omega
   rw [List.length_eq_zero_iff.1 h0] at hu;simp at hu
  ·refine ⟨⟨g,(i+1)*2,none⟩,by simp [h],fun t u hu=>?_⟩
   rw [bB];exact gZ hg ht (i+1) t u hu
 obtain ⟨C1,qP⟩ : ∃ C:Array Value,C=(cur.toList.take (i*2)++bm (l.drop (i+1))++cur.toList.drop (i*2+(bm (l.drop (i+1))).length)).toArray:=⟨_,rfl⟩;have mW:C1.size=c*2:=by rw [qP];simp [jF,cx];omega
 have iy:w.drew.setCells g (0+i*2) (bm (l.drop (i+1)))=w.drew.setRow g C1:=by
  rw [Nat.zero_add,qP];exact jm g 179 _ _ cur w.drew hg (by rw [jF,cx];omega)
 have fK:(w.drew.setRow g C1).heap[g]?=some (.cells C1 179 (0,0)):=setRow_heap w.drew g cur C1 179 (0,0) hg;obtain ⟨C2,sq⟩ : ∃ C:Array Value,C=(C1.toList.take (m*2)++[Value.string ⟨#[]⟩,Value.int .i64 0]++C1.toList.drop (m*2+2)).toArray:=⟨_,rfl⟩;have pH:C2.size=c*2:=by rw [sq];simp [mW];omega
 have rl:∀ ty cc,(Builtin.clear_ #[148] ty #[.slice (some ⟨g,m*2,none⟩) 1 cc]).run prog (w.drew.setRow g C1) = .ok (.tuple #[]) (w.drew.setRow g C2):=fun ty cc=>by
  rw [lq (w.drew.setRow g C1) 148 179 ty _ _ underlying148 zeroValue179 rfl rfl g (m*2) cc C1 179 fK (by omega),sq,setRow_setRow]
 have ic:C2.toList.take (m*2)=bm (cH l i):=by
  have e1:cur.toList.take (i*2)=bm (l.take i):=by
   rw [rU,← ht,gW,a8 (by omega)]
  rw [sq,List.toList_toArray,ay,aF (by simp [mW];omega),gW,Nat.min_self,qP,List.toList_toArray,e1,cH,dh,aF (by simp only [ae,jF,l1];omega),aq (by simp only [ae,jF,l1];omega)]
 have s1:Hid ((bm (l.drop (i+1))).length=(m - i)*2):=jF;have s2:Hid (∀ u ∈ bm (l.drop (i+1)),u.oneCell'=true):=fU _;have s3:Hid (∀ t,t<(bm (l.drop (i+1))).length→(w.drew.cell? ⟨g,0+i*2+t,none⟩).isSome=true∧w.drew.frozen? ⟨g,0+i*2+t,none⟩=false):=by
  intro t zr;rw [jF] at zr;refine ⟨?_,by show World.frozen? w _=false;simp [World.frozen?,hg]⟩
  show (World.cell? w _).isSome=true
  simp only [World.cell?,hg];rw [Array.getElem?_eq_getElem (by omega)]
  rfl
 have HW:Hid (w.drew.setCells g (0+i*2) (bm (l.drop (i+1)))=w.drew.setRow g C1):=iy;have HF:=ab ic;have HZ:=ab pH;have mixed:prog.follows Departure.mixedOrders=true:=by kernel_rfl
 have hq:¬ ((i:Int)=(i:Int)+1):=by omega
 have Lb:(0:Int)≤(i:Int)+1:=by omega
 have Jg:(i:Int)≤(i:Int)+1:=by omega
 have VQ:(i:Int)+1≤(m:Int)+1:=by omega
 have hq3:(m:Int)+1≤(c:Int):=by omega
 have Xo:((i:Int)+1).toNat=i+1:=by omega
 have hic:i≤c:=by omega
 have acN:(i:Int)≤(c:Int):=by omega
 have him:(i:Int)≤(m:Int):=by omega
 have K9:i+(m - i)=m:=by omega
 have hmc:¬ c=m:=by omega
 rw [hl] at Cp;clear qP sq ic pH mW fK ht cx hg jF l1 iy hl n7 O7;go_enter func208,ntmps208;go_wp2_with fail;go_region_law_o (refine step_append_room rfl (.tmp 22) (.tmp 25) 148 rfl 179 i0 2 underlying148 yU GR g 0 i c (by simp [Act.eval,Act.put]) A (m - i) (c - (i+1)) (bm (l.drop (i+1))) (by simp [Act.eval,Act.put]) s1.out GY.out s2.out (by omega) s3.out ?_;rw [HW.out,K9])
 go_wp2_with (simp only [rl])
 go_ret;exact ⟨rfl,C2,rfl,HZ.out,HF.out⟩
theorem wV(l:List Lk)(i:Nat)(h:i<l.length):(cH l i).length+1=l.length:=by
 unfold cH;rw [ae,ag,ao];omega
theorem oH(base:Nat)(v:Value)(l:List Lk)(i:Nat)(w:World)(hi:i<l.length)(ho:b7 w base v l):Calls prog 208 #[v,.int .i64 (i:Int),.int .i64 ((i:Int)+1)] w fun e w'=>∃ u,e = .returned u∧b7 w' base u (cH l i)∧Below base w w':=by
 have Xq:=wV l i hi;rcases ho.2 with ⟨_,h0⟩ | ⟨g,c,cur,rfl,hb,hg,Cn,sQ,fs,mX⟩
 ·omega
 ·have h:=xN g c l i (cH l i).length w cur (by omega) (by omega) Cn hg fs mX
  rw [Xq] at h;refine h.mono ?_
  rintro e w' ⟨rfl,fN,rfl,h2,h3⟩;exact ⟨_,rfl,b7.row (l:=cH l i) hb (setRow_heap w.drew g cur fN 179 (0,0) hg) (by omega) sQ h2 h3,below_setRow (aN (Below.refl _ _)) hb fN⟩
end B
open Go.RowKit
def j7(A:Nat→Addr)(w:World):Prop:=du 4 fl A w∧w.cell? ⟨11,0,none⟩=some (.iface 360 (.pointer (some (A 11))))
theorem j7.below{A:Nat→Addr}{w w':World}(h:j7 A w)(hb:Below w.heap.size w w'):j7 A w' :=
 ⟨h.1.keep hb,(hb.cell (p:=⟨11,0,none⟩) (World.block_lt_of_cell? w _ h.2)).trans h.2⟩
theorem du.JU{n m:Nat}{G:Nat→Nat}{A:Nat→Addr}{w:World}(h:du n G A w)(hm:m≤n):du m G A w :=
 ⟨fun i hi=>h.1 i (by omega),fun i j hi hj he=>h.2 i j (by omega) (by omega) he⟩
theorem ff(p:Option Addr)(w:World):(binOp .neq 32 (.iface 360 (.pointer p)) .nilIface).run prog w = .ok (.bool true) w:=by
 have h2:∀ d:Nat,(Op.equalIn (d+1) 32 (.iface 360 (.pointer p)) .nilIface).run prog w = .ok false w:=fun d=>by
  simp [Op.equalIn,run_underlying underlying32]
 simp only [binOp];simp [Op.equal,Op.maxDepth,h2 9999]
def iz(A:Nat→Addr):Option Nat→Value
 | none=>.nilIface
 | some k=>.iface 360 (.pointer (some (A k)))
namespace B
def MD(A:Nat→Addr)(w:World):Prop:=w.cell? ⟨0,0,none⟩=some (.iface 360 (.pointer (some (A 0))))
theorem MD.below{A:Nat→Addr}{w w':World}(h:MD A w)(hb:Below w.heap.size w w'):MD A w':=(hb.cell (p:=⟨0,0,none⟩) (World.block_lt_of_cell? w _ h)).trans h
theorem _root_.Go.Proofs.YtihmgigfkmofnaaGreatDoor.j7.a{A:Nat→Addr}{w:World}(h:j7 A w):MD A w:=(h.1.1 0 (by decide)).1
def zG(l:List Lk)(i:Int):Bool:=decide (0≤i) && decide (i≤(l.length:Int))
theorem Mh(f i:Int)(v:Value)(l:List Lk)(w:World)(hr:cV w v l):Calls prog 160 #[.agg #[.int .i64 f,v],.int .i64 i] w fun e w'=>e = .returned (.bool (zG l i))∧Below w.heap.size w w':=by
 obtain ⟨a,c,hv⟩:=hr.form;subst hv;obtain ⟨n,hn⟩ : ∃ n,n=l.length:=⟨_,rfl⟩;have HG:Hid (zG l i=(decide (0≤i) && decide (i≤(n:Int)))):=by show _=_;rw [hn];rfl
 rw [← hn];have HB:=ab (ai w (.cells #[.int .i64 f,.slice a n c] 150));clear hr hn;by_cases h0:0≤i
 ·by_cases h1:i≤(n:Int)
  ·go_enter func160,ntmps160;go_wp2;go_ret;exact ⟨by rw [HG.out];simp [h0,h1],HB.out⟩
  ·go_enter func160,ntmps160;go_wp2;go_ret;exact ⟨by rw [HG.out];simp [h0,h1],HB.out⟩
 ·have HF:Hid (zG l i=false):=by show _=_;rw [HG.out];simp [h0]
  clear HG;go_enter func160,ntmps160;go_wp2;go_ret;exact ⟨by rw [HF.out];rfl,HB.out⟩
def qi(l:List Lk)(i:Int):Bool:=decide (0≤i) && decide (i<(l.length:Int))
theorem Mg(f i:Int)(v:Value)(l:List Lk)(w:World)(hr:cV w v l):Calls prog 207 #[.agg #[.int .i64 f,v],.int .i64 i] w fun e w'=>e = .returned (.bool (qi l i))∧Below w.heap.size w w':=by
 obtain ⟨a,c,hv⟩:=hr.form;subst hv;obtain ⟨n,hn⟩ : ∃ n,n=l.length:=⟨_,rfl⟩;have HG:Hid (qi l i=(decide (0≤i) && decide (i<(n:Int)))):=by show _=_;rw [hn];rfl
 rw [← hn];have HB:=ab (ai w (.cells #[.int .i64 f,.slice a n c] 150));clear hr hn;by_cases h0:0≤i
 ·by_cases h1:i<(n:Int)
  ·go_enter func207,ntmps207;go_wp2;go_ret;exact ⟨by rw [HG.out];simp [h0,h1],HB.out⟩
  ·go_enter func207,ntmps207;go_wp2;go_ret;exact ⟨by rw [HG.out];simp [h0,h1],HB.out⟩
 ·have HF:Hid (qi l i=false):=by show _=_;rw [HG.out];simp [h0]
  clear HG;go_enter func207,ntmps207;go_wp2;go_ret;exact ⟨by rw [HF.out];rfl,HB.out⟩
theorem ax.one{w:World}{b:Nat}{x y:Value}{t:TypeId}(h:ax w b #[x,y] t)(y':Value):ax (w.setCell ⟨b,1,none⟩ y') b #[x,y'] t:=by
 have:=vH h x y';have e:w.setCell ⟨b,0,none⟩ x=w:=by
  unfold ax at h;rw [setCell_eq_setRow w b 0 #[x,y] t (0,0) x h];exact setRow_self w b #[x,y] t (0,0) h
 rwa [e] at this
theorem Ma(A:Nat→Addr)(f i:Int)(v:Value)(l:List Lk)(w:World)(hm:l.length≤5864062014800)(hr:cV w v l)(hE:MD A w):Calls prog 167 #[.agg #[.int .i64 f,v],.int .i64 i] w fun e w'=>((qi l i=true∧∃ u,e = .returned (.tuple #[.agg #[.int .i64 f,u],.nilIface])∧b7 w' w.heap.size u (cH l i.toNat))∨(qi l i=false∧e = .returned (.tuple #[.agg #[.int .i64 0,.slice none 0 0],.iface 360 (.pointer (some (A 0)))])))∧Below w.heap.size w w':=by
 obtain ⟨a,cap,hv⟩:=hr.form;subst hv;obtain ⟨n,hn⟩ : ∃ n,n=l.length:=⟨_,rfl⟩;rw [← hn] at hm hr ⊢;have q0:=ai w (.cells #[.int .i64 f,.slice a n cap] 150);have x0:=ax.new w #[.int .i64 f,.slice a n cap] 150;have s0:(w.alloc (.cells #[.int .i64 f,.slice a n cap] 150)).heap.size=w.heap.size+1:=by simp
 generalize Cv:w.alloc (.cells #[.int .i64 f,.slice a n cap] 150)=W0 at *;have q1:=ai W0 (.cells #[.int .i64 0,.slice none 0 0] 150);have x1:=ax.new W0 #[.int .i64 0,.slice none 0 0] 150;have s1:(W0.alloc (.cells #[.int .i64 0,.slice none 0 0] 150)).heap.size=W0.heap.size+1:=by simp
 generalize iy:W0.alloc (.cells #[.int .i64 0,.slice none 0 0] 150)=W1 at *;have Cc:=ab (x0.below q1);have yJ:=ab x1;have HQ:=ab (Below.next q0 q1);have HR:=ab (hr.below (Below.next q0 q1));have HE:=ab (hE.below (Below.next q0 q1));have HS:Hid (W0.heap.size=w.heap.size+1∧W1.heap.size=w.heap.size+2):=⟨s0,by rw [s1,s0]⟩
 have b1:¬ w.heap.size=W0.heap.size:=by omega
 have b2:¬ W0.heap.size=w.heap.size:=by omega
 have qh:0<w.heap.size:=World.block_lt_of_cell? w _ hE;have b3:¬ 0=W0.heap.size:=by omega
 have b4:¬ W0.heap.size=0:=by omega
 have HN:=ab hn;have HH:=ab (Mg f i _ l W1 HR.out);have p0:=Cc.out.c0;have p1:=Cc.out.c1;clear q0 x0 q1 x1 hr hE hn s0 s1 qh;go_enter func167,ntmps167;go_wp2_with fail;refine HH.out.mono ?_
 rintro e w1 ⟨rfl,aP⟩;have bQ:=ab aP;clear aP HH p0 p1;by_cases hg:qi l i=true
 ·rw [hg];have HG:=ab hg;simp only [qi,cF,decide_eq_true_eq] at hg;obtain ⟨k,hk⟩ : ∃ k:Nat,i=(k:Int):=⟨i.toNat,by omega⟩
  subst hk;have dm:k<l.length:=by omega
  have HK:=ab dm;have p0:=(Cc.out.below bQ.out).c0;have p1:=(Cc.out.below bQ.out).c1;have vD:=ab (eN (.slice a n cap) l w1 (by have:=HN.out;omega) (HR.out.below bQ.out))
  clear dm;go_wp2_with fail;refine vD.out.mono ?_
  rintro e w2 ⟨u2,rfl,gC,aO⟩;have HD:=ab (oH w1.heap.size u2 l k w2 HK.out gC);have vS:IntKind.i64.wrap ((k:Int)+1)=(k:Int)+1:=by have:=HK.out;have:=HN.out;rw [IntKind.wrap_i64];omega
  have bJ:=ab aO;clear aO gC vD p0 p1;go_wp2_with fail;refine HD.out.mono ?_
  rintro e w3 ⟨u,rfl,jh,bF⟩;have HBw:Hid (Below W1.heap.size W1 w3):=Below.next bQ.out (bJ.out.trans bF);obtain ⟨ua,uc,hu⟩:=jh.form;obtain ⟨un,Yt⟩ : ∃ n,n=(cH l k).length:=⟨_,rfl⟩;rw [← Yt] at hu;subst hu;have HO:=ab jh;clear Yt;have mh:=ab bQ.out.size;have x0:=Cc.out.below HBw.out;have x1:=yJ.out.below HBw.out;have p0:=x0.c0;have p1:=x0.c1;have p2:=x0.free 1;have p3:=x1.c0;have p4:=x1.c1;have p5:=x1.free 0;have p6:=x1.free 1;have aiI:=ab x0;have yI:=ab x1;clear bF jh x0 x1 bJ HD;go_wp2_with fail;have hx:=yI.out.other (j:=1) b2 (.slice ua un uc);have ho:=HO.out.put (g:=w.heap.size) (j:=1) (fun h=>by have:=(HO.out.dn _ h).1;have:=mh.out;have:=HS.out;omega) (.slice ua un uc)
  have gC:=(ho.tm (g:=W0.heap.size) (by have:=mh.out;have:=HS.out;omega) (.int .i64 f) (.slice ua un uc)).mono (b2:=w.heap.size) (by have:=mh.out;have:=HS.out;omega)
  have bO:=bY (b:=W0.heap.size) (x:=.int .i64 f) (y:=.slice ua un uc) ((HQ.out.trans (HBw.out.mono (by have:=HS.out;omega))).setCell (p:=⟨w.heap.size,1,none⟩) (aj _) (.slice ua un uc)) (by have:=HS.out;omega)
  exact bodyPost_ret (aM rfl _ _ W0.heap.size 150 _ (0,0) _ rfl (hx.two _ _) underlying150 rfl (by kernel_rfl)) rfl ⟨.inl ⟨HG.out,_,rfl,gC⟩,bO⟩
 ·rw [Bool.not_eq_true] at hg;rw [hg];have HG:=ab hg;have x1:=yJ.out.below bQ.out;have e0:w1.cell? ⟨0,0,none⟩=some (.iface 360 (.pointer (some (A 0)))):=HE.out.below bQ.out;have p3:=x1.c0;have p4:=x1.c1;have p5:=x1.free 0;have p6:=x1.free 1;have yI:=ab x1;clear x1;go_wp2_with fail;go_region_held3 (fun w'=>w'.cell? ⟨0,0,none⟩=some (.iface 360 (.pointer (some (A 0))))) (go_keep) (fail)
  all_goals
   go_wp2_with fail;exact bodyPost_ret (aM rfl _ _ W0.heap.size 150 _ (0,0) _ rfl (yI.out.two _ _).drew underlying150 rfl (by kernel_rfl)) rfl ⟨.inr ⟨HG.out,rfl⟩,aN (bY (Below.next HQ.out bQ.out) (by have:=HS.out;omega))⟩
theorem QE(A:Nat→Addr)(f i:Int)(v:Value)(l:List Lk)(w:World)(hm:l.length≤5864062014800)(hr:cV w v l)(hE:j7 A w) :
  Calls prog 167 #[.agg #[.int .i64 f,v],.int .i64 i] w fun e w' =>
   ((qi l i=true∧∃ u,e = .returned (.tuple #[.agg #[.int .i64 f,u],.nilIface])∧b7 w' w.heap.size u (cH l i.toNat))∨(qi l i=false∧e = .returned (.tuple #[.agg #[.int .i64 0,.slice none 0 0],.iface 360 (.pointer (some (A 0)))])))∧Below w.heap.size w w':=Ma A f i v l w hm hr hE.a
theorem Me(A:Nat→Addr)(f i:Int)(v:Value)(l:List Lk)(key:ByteArray)(c:Int)(w:World)(hm:l.length≤5864062014800)(hr:cV w v l)(hE:MD A w):Calls prog 203 #[.agg #[.int .i64 f,v],.int .i64 i,.agg #[.string key,.int .i64 c]] w fun e w'=>((zG l i=true∧∃ u,e = .returned (.tuple #[.agg #[.int .i64 f,u],.nilIface])∧b7 w' w.heap.size u (dI l i.toNat (key,c)))∨(zG l i=false∧e = .returned (.tuple #[.agg #[.int .i64 0,.slice none 0 0],.iface 360 (.pointer (some (A 0)))])))∧Below w.heap.size w w':=by
 obtain ⟨a,cap,hv⟩:=hr.form;subst hv;obtain ⟨n,hn⟩ : ∃ n,n=l.length:=⟨_,rfl⟩;rw [← hn] at hm hr ⊢;have q0:=ai w (.cells #[.int .i64 f,.slice a n cap] 150);have x0:=ax.new w #[.int .i64 f,.slice a n cap] 150;have s0:(w.alloc (.cells #[.int .i64 f,.slice a n cap] 150)).heap.size=w.heap.size+1:=by simp
 generalize hWa:w.alloc (.cells #[.int .i64 f,.slice a n cap] 150)=Wa at *;have qa:=ai Wa (.cells #[.string key,.int .i64 c] 179);have xa:=ax.new Wa #[.string key,.int .i64 c] 179;have sa:(Wa.alloc (.cells #[.string key,.int .i64 c] 179)).heap.size=Wa.heap.size+1:=by simp
 generalize Cv:Wa.alloc (.cells #[.string key,.int .i64 c] 179)=W0 at *;have q1:=ai W0 (.cells #[.int .i64 0,.slice none 0 0] 150);have x1:=ax.new W0 #[.int .i64 0,.slice none 0 0] 150;have s1:(W0.alloc (.cells #[.int .i64 0,.slice none 0 0] 150)).heap.size=W0.heap.size+1:=by simp
 generalize iy:W0.alloc (.cells #[.int .i64 0,.slice none 0 0] 150)=W1 at *;have Cc:=ab (x0.below (Below.next qa q1));have pZ:=ab (xa.below q1);have yJ:=ab x1;have hq:=Below.next (Below.next q0 qa) q1;have HQ:=ab hq;have HR:=ab (hr.below hq);have HE:=ab (hE.below hq);have HS:Hid (Wa.heap.size=w.heap.size+1∧W0.heap.size=w.heap.size+2∧W1.heap.size=w.heap.size+3):=⟨s0,by rw [sa,s0],by rw [s1,sa,s0]⟩
 have b1:¬ w.heap.size=W0.heap.size:=by omega
 have b2:¬ W0.heap.size=w.heap.size:=by omega
 have qh:0<w.heap.size:=World.block_lt_of_cell? w _ hE;have b3:¬ 0=W0.heap.size:=by omega
 have b4:¬ W0.heap.size=0:=by omega
 have HN:=ab hn;have HH:=ab (Mh f i _ l W1 HR.out);have vD:Hid (∀ W,Below W1.heap.size W1 W→Calls prog 209 #[.slice a n cap] W fun e w'=>∃ ua uc,e = .returned (.slice ua n uc)∧b7 w' W.heap.size (.slice ua n uc) l∧Below W.heap.size W w'):=fun W h=>by
  refine (eN (.slice a n cap) l W (by have:=HN.out;omega) (HR.out.below h)).mono ?_
  rintro e w' ⟨u,rfl,ho,hb⟩;obtain ⟨ua,uc,hu⟩:=ho.form;rw [← HN.out] at hu;subst hu;exact ⟨ua,uc,rfl,ho,hb⟩
 have HIN:Hid (∀ (k:Nat) (W:World) (ua:Option Addr) (uc base vb:Nat),k≤n→W1.heap.size≤base→base≤W.heap.size→b7 W base (.slice ua n uc) l→ax W vb #[.string key,.int .i64 c] 179→(Value.slice ua n uc).ownBlock≠some vb→Below W1.heap.size W1 W→Calls prog 231 #[.slice ua n uc,.int .i64 (k:Int),.slice (some ⟨vb,0,none⟩) 1 1] W fun e w'=>∃ va vc,e = .returned (.slice va (n+1) vc)∧b7 w' W1.heap.size (.slice va (n+1) vc) (dI l k (key,c))∧Below W1.heap.size W1 w'):=fun k W ua uc base vb hk aP aO ho bG dK h=>by
  refine (oG base (.slice ua n uc) l k vb (key,c) W (by have:=HN.out;omega) (by have:=HN.out;omega) ho aO bG dK).mono ?_
  rintro e w' ⟨u,rfl,ho,hb⟩;obtain ⟨va,vc,hu⟩:=ho.form;rw [fe l k _ (by have:=HN.out;omega),← HN.out] at hu
  subst hu;exact ⟨va,vc,rfl,ho.mono aP,h.trans (hb.mono aP)⟩
 have p0:=Cc.out.c0;have p1:=Cc.out.c1;clear q0 x0 qa xa q1 x1 hr hE hn s0 s1 sa qh hq;go_enter func203,ntmps203;go_wp2_with fail;refine HH.out.mono ?_
 rintro e w1 ⟨rfl,aP⟩;have bQ:=ab aP;clear aP HH p0 p1;by_cases hg:zG l i=true
 ·rw [hg];have HG:=ab hg;simp only [zG,cF,decide_eq_true_eq] at hg;obtain ⟨k,hk⟩ : ∃ k:Nat,i=(k:Int):=⟨i.toNat,by omega⟩
  subst hk;have HK:Hid (k≤n):=by have:=HN.out;show k≤n;omega
  have Xe:=ab bQ.out.size;have p0:=(Cc.out.below bQ.out).c0;have p1:=(Cc.out.below bQ.out).c1;have p2:=(pZ.out.below bQ.out).c0;have p3:=(pZ.out.below bQ.out).c1;have p4:=World.new_ne w1 _ p1;clear hg;go_wp2_with fail;refine wp_region_held_drew (S:=(fun w'=>w'.cell? ⟨Wa.heap.size,0,none⟩=some (.string key)∧w'.cell? ⟨Wa.heap.size,1,none⟩=some (.int .i64 c))) (by kernel_rfl) ⟨p2,p3⟩ (fun cR=>?_)
  refine wpAnyH_take (i:=0) (oi:={ dst:=some 14,op:=Op.fieldAddr 150 (Operand.tmp 3) 1,type:=0,pos := "branch.go:226",after:=#[],guard:=none }) (v:=?_) rfl (by kernel_rfl) (by kernel_rfl) (by kernel_rfl) (fun _ _ _ h=>h) (Or.inl ⟨by rfl,?_⟩) (by assumption) ?_
  rotate_left
  ·(intro w' gJ;(try dsimp only at gJ);go_simp;try with_reducible rfl)
  simp only [Act.put,au,List.set_cons_zero,List.set_cons_succ];refine wpAnyH_take (i:=3) (oi:={ dst:=some 17,op:=Op.move (Operand.tmp 1),type:=3,pos := "branch.go:226",after:=#[],guard:=none }) (v:=?_) rfl (by kernel_rfl) (by kernel_rfl) (by kernel_rfl) (fun _ _ _ h=>h) (Or.inl ⟨by rfl,?_⟩) (by assumption) ?_
  rotate_left
  ·(intro w' gJ;(try dsimp only at gJ);go_simp;try with_reducible rfl)
  simp only [Act.put,au,List.set_cons_zero,List.set_cons_succ];refine wpAnyH_take (i:=4) (oi:={ dst:=some 18,op:=Op.load 179 (Operand.tmp 5),type:=179,pos := "branch.go:226",after:=#[],guard:=none }) (v:=?_) rfl (by kernel_rfl) (by kernel_rfl) (by kernel_rfl) (fun _ _ _ h=>h) (Or.inl ⟨by rfl,?_⟩) (by assumption) ?_
  rotate_left
  ·(intro w' gJ;(try dsimp only at gJ);go_simp;try with_reducible rfl)
  simp only [Act.put,au,List.set_cons_zero,List.set_cons_succ];refine wpAnyH_ready (rs:=[1,5]) (by kernel_rfl) (by simp) ?_
  refine AllReadyH.cons (o:={ dst:=some 15,op:=Op.load 148 (Operand.tmp 14),type:=148,pos := "branch.go:226",after:=#[{ on:=0,ground:=Ground.data }],guard:=none }) rfl (fun K hK=>?_) (AllReadyH.cons (o:={ dst:=some 19,op:=Op.buildSlice 148 1 #[(0,Operand.tmp 18)],type:=148,pos := "branch.go:226",after:=#[{ on:=4,ground:=Ground.data }],guard:=none }) rfl (fun K hK=>?_) AllReadyH.nil)
  ·clear cR;go_simp
   refine hK.out _ _ ⟨p2,p3⟩ (fun cR=>?_)
   clear hK K;refine wpAnyH_ready (rs:=[2,5]) (by kernel_rfl) (by simp) ?_
   refine AllReadyH.cons (o:={ dst:=some 16,op:=Op.call { callee:=Callee.value (Operand.func 209),args:=#[Operand.tmp 15],argTypes:=#[148] },type:=148,pos := "branch.go:226",after:=#[{ on:=1,ground:=Ground.data }],guard:=none }) rfl (fun K hK=>?_) (AllReadyH.cons (o:={ dst:=some 19,op:=Op.buildSlice 148 1 #[(0,Operand.tmp 18)],type:=148,pos := "branch.go:226",after:=#[{ on:=4,ground:=Ground.data }],guard:=none }) rfl (fun K hK=>?_) AllReadyH.nil)
   ·clear cR;go_simp
    refine (vD.out _ bQ.out.drew).mono ?_
    rintro e w2 ⟨ua,uc,rfl,gC,aO⟩;have bJ:=ab (Below.next bQ.out (dw aO));have im:=ab gC;have lI:=ab (show w1.heap.size≤w2.heap.size from aO.size)
    have d2:=(pZ.out.below bJ.out).c0;have d3:=(pZ.out.below bJ.out).c1;clear gC aO;refine hK.out _ _ ⟨d2,d3⟩ (fun cR=>?_)
    clear hK K;refine wpAnyH_ready (rs:=[5]) (by kernel_rfl) (by simp) ?_
    refine AllReadyH.cons (o:={ dst:=some 19,op:=Op.buildSlice 148 1 #[(0,Operand.tmp 18)],type:=148,pos := "branch.go:226",after:=#[{ on:=4,ground:=Ground.data }],guard:=none }) rfl (fun K hK=>?_) AllReadyH.nil
    clear cR;go_simp
    have q5:=ai w2 (.cells #[.string key,.int .i64 c] 179);have x5:=ax.new w2 #[.string key,.int .i64 c] 179;have jj:=ab (Below.next bJ.out q5);have HO5:=ab (im.out.below q5);have Es:(Value.slice ua n uc).ownBlock≠some w2.heap.size:=fun h=>by have:=(im.out.dn _ h).2;omega
    have HK5:=ab (HIN.out k (w2.alloc (.cells #[.string key,.int .i64 c] 179)) ua uc w1.heap.size w2.heap.size HK.out Xe.out (al lI.out q5.size) HO5.out x5 Es jj.out);have d2:=(pZ.out.below jj.out).c0;have d3:=(pZ.out.below jj.out).c1;generalize w2.alloc (.cells #[.string key,.int .i64 c] 179)=W5 at *;clear q5 x5 Es;refine hK.out _ _ ⟨d2,d3⟩ (fun cR=>?_)
    clear hK K;refine wpAnyH_ready (rs:=[6]) (by kernel_rfl) (by simp) ?_
    refine AllReadyH.cons (o:={ dst:=some 20,op:=Op.call { callee:=Callee.value (Operand.func 231),args:=#[Operand.tmp 16,Operand.tmp 17,Operand.tmp 19],argTypes:=#[148,3,148] },type:=148,pos := "branch.go:226",after:=#[{ on:=2,ground:=Ground.data },{ on:=3,ground:=Ground.data },{ on:=5,ground:=Ground.data },{ on:=2,ground:=Ground.chain }],guard:=none }) rfl (fun K hK=>?_) AllReadyH.nil
    clear cR;go_simp
    refine HK5.out.mono ?_
    rintro e w3 ⟨va,vc,rfl,jh,bF⟩;have dD:=ab bF;have vC:=ab jh;have x0:=Cc.out.below bF;have e1:=x0.c1;have e2:=x0.free 1;have d2:=(pZ.out.below dD.out).c0;have d3:=(pZ.out.below dD.out).c1;clear jh bF x0;refine hK.out _ _ ⟨d2,d3⟩ (fun cR=>?_)
    clear hK K;clear d2 d3;refine wpAnyH_take (i:=7) (oi:={ dst:=some 21,op:=Op.fieldAddr 150 (Operand.tmp 3) 1,type:=0,pos := "branch.go:226",after:=#[{ on:=0,ground:=Ground.phase },{ on:=1,ground:=Ground.phase },{ on:=2,ground:=Ground.phase },{ on:=3,ground:=Ground.phase },{ on:=4,ground:=Ground.phase },{ on:=5,ground:=Ground.phase },{ on:=6,ground:=Ground.phase }],guard:=none }) (v:=?_) rfl (by kernel_rfl) (by kernel_rfl) (by kernel_rfl) (fun _ _ _ h=>h) (Or.inl ⟨by rfl,?_⟩) (by assumption) ?_
    rotate_left
    ·(intro w' gJ;(try dsimp only at gJ);go_simp;try with_reducible rfl)
    simp only [Act.put,au,List.set_cons_zero,List.set_cons_succ];refine wpAnyH_ready (rs:=[8]) (by kernel_rfl) (by simp) ?_
    refine AllReadyH.cons (o:={ dst:=none,op:=Op.store 148 (Operand.tmp 21) (Operand.tmp 20),type:=0,pos := "branch.go:226",after:=#[{ on:=7,ground:=Ground.data },{ on:=6,ground:=Ground.data },{ on:=6,ground:=Ground.chain },{ on:=0,ground:=Ground.phase },{ on:=1,ground:=Ground.phase },{ on:=2,ground:=Ground.phase },{ on:=3,ground:=Ground.phase },{ on:=4,ground:=Ground.phase },{ on:=5,ground:=Ground.phase },{ on:=6,ground:=Ground.phase }],guard:=none }) rfl (fun K hK=>?_) AllReadyH.nil
    clear cR;go_simp
    refine hK.out _ _ ⟨?_,?_⟩ (fun cR=>?_)
    ·rw [World.cell?_setCell_far _ _ _ _ (by have:=HS.out;show w.heap.size≠Wa.heap.size;omega)];exact (pZ.out.below dD.out).c0
    ·rw [World.cell?_setCell_far _ _ _ _ (by have:=HS.out;show w.heap.size≠Wa.heap.size;omega)];exact (pZ.out.below dD.out).c1
    clear hK K;refine wpAnyH_done (by kernel_rfl) ?_ _
    clear cR;have x0:=Cc.out.below dD.out;have x1:=yJ.out.below dD.out;have y0:=x0.c0;have y3:=x1.c0;have y4:=x1.c1;have y5:=x1.free 0;have y6:=x1.free 1;have yI:=ab x1;clear x0 x1;go_wp2_with fail;have hx:=yI.out.other (j:=1) b2 (.slice va (n+1) vc);have ho:=vC.out.put (g:=w.heap.size) (j:=1) (fun h=>by have:=(vC.out.dn _ h).1;have:=HS.out;omega) (.slice va (n+1) vc)
    have gC:=(ho.tm (g:=W0.heap.size) (by have:=HS.out;omega) (.int .i64 f) (.slice va (n+1) vc)).mono (b2:=w.heap.size) (by have:=HS.out;omega)
    have bO:=bY (b:=W0.heap.size) (x:=.int .i64 f) (y:=.slice va (n+1) vc) ((HQ.out.trans (dD.out.mono (by have:=HS.out;omega))).setCell (p:=⟨w.heap.size,1,none⟩) (aj _) (.slice va (n+1) vc)) (by have:=HS.out;omega)
    exact bodyPost_ret (aM rfl _ _ W0.heap.size 150 _ (0,0) _ rfl (hx.two _ _) underlying150 rfl (by kernel_rfl)) rfl ⟨.inl ⟨HG.out,_,rfl,gC⟩,bO⟩
   ·clear cR;go_simp
    have q5:=ai w1 (.cells #[.string key,.int .i64 c] 179);have x5:=ax.new w1 #[.string key,.int .i64 c] 179;have s5:(w1.alloc (.cells #[.string key,.int .i64 c] 179)).heap.size=w1.heap.size+1:=by simp
    have jj:=ab (Below.next bQ.out q5);have zO:=ab x5.drew;have sW:Hid ((w1.alloc (.cells #[.string key,.int .i64 c] 179)).heap.size=w1.heap.size+1):=s5;have d2:=(pZ.out.below jj.out).c0;have d3:=(pZ.out.below jj.out).c1;have d1:=(Cc.out.below jj.out).c1;clear q5 x5 s5;refine hK.out _ _ ⟨d2,d3⟩ (fun cR=>?_)
    clear hK K;refine wpAnyH_ready (rs:=[2]) (by kernel_rfl) (by simp) ?_
    refine AllReadyH.cons (o:={ dst:=some 16,op:=Op.call { callee:=Callee.value (Operand.func 209),args:=#[Operand.tmp 15],argTypes:=#[148] },type:=148,pos := "branch.go:226",after:=#[{ on:=1,ground:=Ground.data }],guard:=none }) rfl (fun K hK=>?_) AllReadyH.nil
    clear cR;go_simp
    refine (vD.out _ jj.out.drew).mono ?_
    rintro e w2 ⟨ua,uc,rfl,gC,aO⟩;have bJ:=ab (Below.next jj.out (dw aO));have im:=ab gC;have HXV:=ab (zO.out.below aO);have Es:(Value.slice ua n uc).ownBlock≠some w1.heap.size:=fun h=>by have:=(gC.dn _ h).1;have:=sW.out;have e:(w1.alloc (.cells #[.string key,.int .i64 c] 179)).drew.heap.size=(w1.alloc (.cells #[.string key,.int .i64 c] 179)).heap.size:=rfl;omega
    have HK5:=ab (HIN.out k w2 ua uc _ w1.heap.size HK.out (al Xe.out (by have:=sW.out;show w1.heap.size≤(w1.alloc (.cells #[.string key,.int .i64 c] 179)).heap.size;omega)) aO.size im.out HXV.out Es bJ.out)
    have d2:=(pZ.out.below bJ.out).c0;have d3:=(pZ.out.below bJ.out).c1;clear gC aO Es;refine hK.out _ _ ⟨d2,d3⟩ (fun cR=>?_)
    clear hK K;refine wpAnyH_ready (rs:=[6]) (by kernel_rfl) (by simp) ?_
    refine AllReadyH.cons (o:={ dst:=some 20,op:=Op.call { callee:=Callee.value (Operand.func 231),args:=#[Operand.tmp 16,Operand.tmp 17,Operand.tmp 19],argTypes:=#[148,3,148] },type:=148,pos := "branch.go:226",after:=#[{ on:=2,ground:=Ground.data },{ on:=3,ground:=Ground.data },{ on:=5,ground:=Ground.data },{ on:=2,ground:=Ground.chain }],guard:=none }) rfl (fun K hK=>?_) AllReadyH.nil
    clear cR;go_simp
    refine HK5.out.mono ?_
    rintro e w3 ⟨va,vc,rfl,jh,bF⟩;have dD:=ab bF;have vC:=ab jh;have x0:=Cc.out.below bF;have e1:=x0.c1;have e2:=x0.free 1;have d2:=(pZ.out.below dD.out).c0;have d3:=(pZ.out.below dD.out).c1;clear jh bF x0;refine hK.out _ _ ⟨d2,d3⟩ (fun cR=>?_)
    clear hK K;clear d2 d3;refine wpAnyH_take (i:=7) (oi:={ dst:=some 21,op:=Op.fieldAddr 150 (Operand.tmp 3) 1,type:=0,pos := "branch.go:226",after:=#[{ on:=0,ground:=Ground.phase },{ on:=1,ground:=Ground.phase },{ on:=2,ground:=Ground.phase },{ on:=3,ground:=Ground.phase },{ on:=4,ground:=Ground.phase },{ on:=5,ground:=Ground.phase },{ on:=6,ground:=Ground.phase }],guard:=none }) (v:=?_) rfl (by kernel_rfl) (by kernel_rfl) (by kernel_rfl) (fun _ _ _ h=>h) (Or.inl ⟨by rfl,?_⟩) (by assumption) ?_
    rotate_left
    ·(intro w' gJ;(try dsimp only at gJ);go_simp;try with_reducible rfl)
    simp only [Act.put,au,List.set_cons_zero,List.set_cons_succ];refine wpAnyH_ready (rs:=[8]) (by kernel_rfl) (by simp) ?_
    refine AllReadyH.cons (o:={ dst:=none,op:=Op.store 148 (Operand.tmp 21) (Operand.tmp 20),type:=0,pos := "branch.go:226",after:=#[{ on:=7,ground:=Ground.data },{ on:=6,ground:=Ground.data },{ on:=6,ground:=Ground.chain },{ on:=0,ground:=Ground.phase },{ on:=1,ground:=Ground.phase },{ on:=2,ground:=Ground.phase },{ on:=3,ground:=Ground.phase },{ on:=4,ground:=Ground.phase },{ on:=5,ground:=Ground.phase },{ on:=6,ground:=Ground.phase }],guard:=none }) rfl (fun K hK=>?_) AllReadyH.nil
    clear cR;go_simp
    refine hK.out _ _ ⟨?_,?_⟩ (fun cR=>?_)
    ·rw [World.cell?_setCell_far _ _ _ _ (by have:=HS.out;show w.heap.size≠Wa.heap.size;omega)];exact (pZ.out.below dD.out).c0
    ·rw [World.cell?_setCell_far _ _ _ _ (by have:=HS.out;show w.heap.size≠Wa.heap.size;omega)];exact (pZ.out.below dD.out).c1
    clear hK K;refine wpAnyH_done (by kernel_rfl) ?_ _
    clear cR;have x0:=Cc.out.below dD.out;have x1:=yJ.out.below dD.out;have y0:=x0.c0;have y3:=x1.c0;have y4:=x1.c1;have y5:=x1.free 0;have y6:=x1.free 1;have yI:=ab x1;clear x0 x1;go_wp2_with fail;have hx:=yI.out.other (j:=1) b2 (.slice va (n+1) vc);have ho:=vC.out.put (g:=w.heap.size) (j:=1) (fun h=>by have:=(vC.out.dn _ h).1;have:=HS.out;omega) (.slice va (n+1) vc)
    have gC:=(ho.tm (g:=W0.heap.size) (by have:=HS.out;omega) (.int .i64 f) (.slice va (n+1) vc)).mono (b2:=w.heap.size) (by have:=HS.out;omega)
    have bO:=bY (b:=W0.heap.size) (x:=.int .i64 f) (y:=.slice va (n+1) vc) ((HQ.out.trans (dD.out.mono (by have:=HS.out;omega))).setCell (p:=⟨w.heap.size,1,none⟩) (aj _) (.slice va (n+1) vc)) (by have:=HS.out;omega)
    exact bodyPost_ret (aM rfl _ _ W0.heap.size 150 _ (0,0) _ rfl (hx.two _ _) underlying150 rfl (by kernel_rfl)) rfl ⟨.inl ⟨HG.out,_,rfl,gC⟩,bO⟩
  ·clear cR;go_simp
   have q5:=ai w1 (.cells #[.string key,.int .i64 c] 179);have x5:=ax.new w1 #[.string key,.int .i64 c] 179;have s5:(w1.alloc (.cells #[.string key,.int .i64 c] 179)).heap.size=w1.heap.size+1:=by simp
   have jj:=ab (Below.next bQ.out q5);have zO:=ab x5.drew;have sW:Hid ((w1.alloc (.cells #[.string key,.int .i64 c] 179)).heap.size=w1.heap.size+1):=s5;have d2:=(pZ.out.below jj.out).c0;have d3:=(pZ.out.below jj.out).c1;have d1:=(Cc.out.below jj.out).c1;clear q5 x5 s5;refine hK.out _ _ ⟨d2,d3⟩ (fun cR=>?_)
   clear hK K;refine wpAnyH_ready (rs:=[1]) (by kernel_rfl) (by simp) ?_
   refine AllReadyH.cons (o:={ dst:=some 15,op:=Op.load 148 (Operand.tmp 14),type:=148,pos := "branch.go:226",after:=#[{ on:=0,ground:=Ground.data }],guard:=none }) rfl (fun K hK=>?_) AllReadyH.nil
   clear cR;go_simp
   refine hK.out _ _ ⟨d2,d3⟩ (fun cR=>?_)
   clear hK K;refine wpAnyH_ready (rs:=[2]) (by kernel_rfl) (by simp) ?_
   refine AllReadyH.cons (o:={ dst:=some 16,op:=Op.call { callee:=Callee.value (Operand.func 209),args:=#[Operand.tmp 15],argTypes:=#[148] },type:=148,pos := "branch.go:226",after:=#[{ on:=1,ground:=Ground.data }],guard:=none }) rfl (fun K hK=>?_) AllReadyH.nil
   clear cR;go_simp
   refine (vD.out _ jj.out.drew).mono ?_
   rintro e w2 ⟨ua,uc,rfl,gC,aO⟩;have bJ:=ab (Below.next jj.out (dw aO));have im:=ab gC;have HXV:=ab (zO.out.below aO);have Es:(Value.slice ua n uc).ownBlock≠some w1.heap.size:=fun h=>by have:=(gC.dn _ h).1;have:=sW.out;have e:(w1.alloc (.cells #[.string key,.int .i64 c] 179)).drew.heap.size=(w1.alloc (.cells #[.string key,.int .i64 c] 179)).heap.size:=rfl;omega
   have HK5:=ab (HIN.out k w2 ua uc _ w1.heap.size HK.out (al Xe.out (by have:=sW.out;show w1.heap.size≤(w1.alloc (.cells #[.string key,.int .i64 c] 179)).heap.size;omega)) aO.size im.out HXV.out Es bJ.out)
   have d2:=(pZ.out.below bJ.out).c0;have d3:=(pZ.out.below bJ.out).c1;clear gC aO Es;refine hK.out _ _ ⟨d2,d3⟩ (fun cR=>?_)
   clear hK K;refine wpAnyH_ready (rs:=[6]) (by kernel_rfl) (by simp) ?_
   refine AllReadyH.cons (o:={ dst:=some 20,op:=Op.call { callee:=Callee.value (Operand.func 231),args:=#[Operand.tmp 16,Operand.tmp 17,Operand.tmp 19],argTypes:=#[148,3,148] },type:=148,pos := "branch.go:226",after:=#[{ on:=2,ground:=Ground.data },{ on:=3,ground:=Ground.data },{ on:=5,ground:=Ground.data },{ on:=2,ground:=Ground.chain }],guard:=none }) rfl (fun K hK=>?_) AllReadyH.nil
   clear cR;go_simp
   refine HK5.out.mono ?_
   rintro e w3 ⟨va,vc,rfl,jh,bF⟩;have dD:=ab bF;have vC:=ab jh;have x0:=Cc.out.below bF;have e1:=x0.c1;have e2:=x0.free 1;have d2:=(pZ.out.below dD.out).c0;have d3:=(pZ.out.below dD.out).c1;clear jh bF x0;refine hK.out _ _ ⟨d2,d3⟩ (fun cR=>?_)
   clear hK K;clear d2 d3;refine wpAnyH_take (i:=7) (oi:={ dst:=some 21,op:=Op.fieldAddr 150 (Operand.tmp 3) 1,type:=0,pos := "branch.go:226",after:=#[{ on:=0,ground:=Ground.phase },{ on:=1,ground:=Ground.phase },{ on:=2,ground:=Ground.phase },{ on:=3,ground:=Ground.phase },{ on:=4,ground:=Ground.phase },{ on:=5,ground:=Ground.phase },{ on:=6,ground:=Ground.phase }],guard:=none }) (v:=?_) rfl (by kernel_rfl) (by kernel_rfl) (by kernel_rfl) (fun _ _ _ h=>h) (Or.inl ⟨by rfl,?_⟩) (by assumption) ?_
   rotate_left
   ·(intro w' gJ;(try dsimp only at gJ);go_simp;try with_reducible rfl)
   simp only [Act.put,au,List.set_cons_zero,List.set_cons_succ];refine wpAnyH_ready (rs:=[8]) (by kernel_rfl) (by simp) ?_
   refine AllReadyH.cons (o:={ dst:=none,op:=Op.store 148 (Operand.tmp 21) (Operand.tmp 20),type:=0,pos := "branch.go:226",after:=#[{ on:=7,ground:=Ground.data },{ on:=6,ground:=Ground.data },{ on:=6,ground:=Ground.chain },{ on:=0,ground:=Ground.phase },{ on:=1,ground:=Ground.phase },{ on:=2,ground:=Ground.phase },{ on:=3,ground:=Ground.phase },{ on:=4,ground:=Ground.phase },{ on:=5,ground:=Ground.phase },{ on:=6,ground:=Ground.phase }],guard:=none }) rfl (fun K hK=>?_) AllReadyH.nil
   clear cR;go_simp
   refine hK.out _ _ ⟨?_,?_⟩ (fun cR=>?_)
   ·rw [World.cell?_setCell_far _ _ _ _ (by have:=HS.out;show w.heap.size≠Wa.heap.size;omega)];exact (pZ.out.below dD.out).c0
   ·rw [World.cell?_setCell_far _ _ _ _ (by have:=HS.out;show w.heap.size≠Wa.heap.size;omega)];exact (pZ.out.below dD.out).c1
   clear hK K;refine wpAnyH_done (by kernel_rfl) ?_ _
   clear cR;have x0:=Cc.out.below dD.out;have x1:=yJ.out.below dD.out;have y0:=x0.c0;have y3:=x1.c0;have y4:=x1.c1;have y5:=x1.free 0;have y6:=x1.free 1;have yI:=ab x1;clear x0 x1;go_wp2_with fail;have hx:=yI.out.other (j:=1) b2 (.slice va (n+1) vc);have ho:=vC.out.put (g:=w.heap.size) (j:=1) (fun h=>by have:=(vC.out.dn _ h).1;have:=HS.out;omega) (.slice va (n+1) vc)
   have gC:=(ho.tm (g:=W0.heap.size) (by have:=HS.out;omega) (.int .i64 f) (.slice va (n+1) vc)).mono (b2:=w.heap.size) (by have:=HS.out;omega)
   have bO:=bY (b:=W0.heap.size) (x:=.int .i64 f) (y:=.slice va (n+1) vc) ((HQ.out.trans (dD.out.mono (by have:=HS.out;omega))).setCell (p:=⟨w.heap.size,1,none⟩) (aj _) (.slice va (n+1) vc)) (by have:=HS.out;omega)
   exact bodyPost_ret (aM rfl _ _ W0.heap.size 150 _ (0,0) _ rfl (hx.two _ _) underlying150 rfl (by kernel_rfl)) rfl ⟨.inl ⟨HG.out,_,rfl,gC⟩,bO⟩
 ·rw [Bool.not_eq_true] at hg;rw [hg];have HG:=ab hg;have x1:=yJ.out.below bQ.out;have e0:w1.cell? ⟨0,0,none⟩=some (.iface 360 (.pointer (some (A 0)))):=HE.out.below bQ.out;have p3:=x1.c0;have p4:=x1.c1;have p5:=x1.free 0;have p6:=x1.free 1;have yI:=ab x1;clear x1;go_wp2_with fail;go_region_held3 (fun w'=>w'.cell? ⟨0,0,none⟩=some (.iface 360 (.pointer (some (A 0))))) (go_keep) (fail)
  all_goals
   go_wp2_with fail;exact bodyPost_ret (aM rfl _ _ W0.heap.size 150 _ (0,0) _ rfl (yI.out.two _ _).drew underlying150 rfl (by kernel_rfl)) rfl ⟨.inr ⟨HG.out,rfl⟩,aN (bY (Below.next HQ.out bQ.out) (by have:=HS.out;omega))⟩
theorem QG(A:Nat→Addr)(f i:Int)(v:Value)(l:List Lk)(key:ByteArray)(c:Int)(w:World)(hm:l.length≤5864062014800)(hr:cV w v l)(hE:j7 A w) :
  Calls prog 203 #[.agg #[.int .i64 f,v],.int .i64 i,.agg #[.string key,.int .i64 c]] w fun e w' =>
   ((zG l i=true∧∃ u,e = .returned (.tuple #[.agg #[.int .i64 f,u],.nilIface])∧b7 w' w.heap.size u (dI l i.toNat (key,c)))∨(zG l i=false∧e = .returned (.tuple #[.agg #[.int .i64 0,.slice none 0 0],.iface 360 (.pointer (some (A 0)))])))∧Below w.heap.size w w':=Me A f i v l key c w hm hr hE.a
end B
namespace T
theorem wo(A:Nat→Addr)(b:Nat)(n:SN)(pv lv cv:Value)(i:Nat)(w:World)(h:dG w b n pv lv cv)(hi:i<n.lk.length)(hlen:n.us.length=n.lk.length+1)(hE:j7 A w):Calls prog 127 #[.pointer (some ⟨b,0,none⟩),.int .i64 (i:Int)] w fun e w'=>RF w ⟨[],n.f,B.cH n.lk i,C.cH n.us (i+1)⟩ e w':=by
 have hf:=h.fine;have aap:Hid (Calls prog 167 #[.agg #[.int .i64 n.f,lv],.int .i64 (i:Int)] w fun e w'=>∃ (ua:Option Addr) (um uc:Nat),e = .returned (.tuple #[.agg #[.int .i64 n.f,.slice ua um uc],.nilIface])∧B.b7 w' w.heap.size (.slice ua um uc) (B.cH n.lk i)∧Below w.heap.size w w'):=by
  refine (B.QE A n.f (i:Int) lv n.lk w (by omega) h.bm hE).mono fun e w' ⟨hv,hb⟩=>?_
  rcases hv with ⟨_,u,he,ho⟩ | ⟨hg,_⟩
  ·obtain ⟨ua,uc,hu⟩:=ho.form;subst hu;exact ⟨_,_,_,he,ho,hb⟩
  ·exfalso
   simp only [B.qi,Bool.and_eq_false_iff,decide_eq_false_iff_not] at hg;omega
 have p1:=h.c1;have p2:=h.c2;have HH:=ab h;have bO:b<w.heap.size:=h.row.lt;obtain ⟨j,hj⟩ : ∃ j,j=i+1:=⟨_,rfl⟩;have vS:IntKind.i64.wrap ((i:Int)+1)=(j:Int):=by rw [IntKind.wrap_i64];omega
 have Ri:IntKind.i64.wrap ((i:Int)+2)=(j:Int)+1:=by rw [IntKind.wrap_i64];omega
 have HJ:Hid (j<n.us.length∧n.us.length≤4001):=⟨by omega,by omega⟩
 have HF:=ab hf;have HI:=ab hi;rw [← hj];clear h hf hE hi hlen hj;go_enter func127,ntmps127;go_wp2_with fail;refine aap.out.mono ?_
 rintro e w1 ⟨ua,um,uc,rfl,ho,aP⟩;have q2:=ai w1 (.cells #[.int .i64 n.f,.slice ua um uc] 150);have x2:=B.ax.new w1 #[.int .i64 n.f,.slice ua um uc] 150;have HO:=ab (ho.below q2);have bJ:=ab (Below.next aP q2);have nQ:=ab x2;have fh:¬ b=w1.heap.size:=by have:=aP.size;omega
 clear aap p1 p2 ho aP q2 x2;go_wp2_with fail;generalize w1.alloc (.cells #[.int .i64 n.f,.slice ua um uc] 150)=W2 at *;generalize w1.heap.size=k2 at *;have k0:=nQ.out.c0;have k1:=nQ.out.c1;have k3:=(HH.out.below bJ.out).c3;obtain ⟨ca,cc,yf⟩:=HH.out.kids.form;have vD:Hid (∀ W,Below W2.heap.size W2 W→Calls prog 164 #[cv] W fun e w'=>∃ (g c:Nat),e = .returned (.slice (some ⟨g,0,none⟩) n.us.length c)∧C.b7 w' W.heap.size (.slice (some ⟨g,0,none⟩) n.us.length c) n.us∧Below W.heap.size W w'):=fun W hW=>by
  refine (C.eN cv n.us W (by have:=HJ.out;omega) ((HH.out.below (Below.next bJ.out hW)).kids)).mono fun e w' ⟨u,h1,h2,h3⟩=>?_
  obtain ⟨g,c,hu,_,_⟩:=sm h2 (by have:=HJ.out;omega)
  subst hu;exact ⟨g,c,h1,h2,h3⟩
 subst yf;have XQ:Hid (k2<W2.heap.size∧b<W2.heap.size):=⟨nQ.out.lt,by have:=bJ.out.size;omega⟩
 have Ce:Hid ((C.cH n.us j).length≤4001∧(B.cH n.lk i).length≤4000∧∀ p ∈ B.cH n.lk i,cW p.1):=by
  have h1:=HJ.out;have h2:=HF.out;refine ⟨by unfold C.cH;rw [ae,ag,ao];omega,by unfold B.cH;rw [ae,ag,ao];omega,fun p hp=>?_⟩
  unfold B.cH at hp;rcases List.mem_append.1 hp with h | h
  ·exact h2.2.2.1 p (bH h)
  ·exact h2.2.2.1 p (bI h)
 go_region_held3 (fun w'=>w'.cell? ⟨k2,0,none⟩=some (.int .i64 n.f)∧w'.cell? ⟨k2,1,none⟩=some (.slice ua um uc)∧w'.cell? ⟨b,3,none⟩=some (.slice ca n.us.length cc)) (go_keep)
  (first
   | (go_at_call 164;refine (vD.out _ (Below.refl _ _).drew).mono ?_;rintro e w3 ⟨g,c,rfl,jh,bF⟩;have vC:=ab jh;have dD:=ab (B.dw bF);have m0:=(nQ.out.below dD.out).c0;have m1:=(nQ.out.below dD.out).c1;have m3:=(HH.out.below (Below.next bJ.out dD.out)).c3;clear jh bF)
   | (go_at_call 168;refine (C.oH _ _ n.us j _ HJ.out.1 vC.out).mono ?_;rintro e w4 ⟨u4,rfl,MN,eO⟩;obtain ⟨a4,c4,hu4⟩:=MN.form;subst hu4;have XP:=ab MN;have gr:Hid (Below W2.heap.size W2 w4):=dD.out.trans eO;have m0:=(nQ.out.below gr.out).c0;have m1:=(nQ.out.below gr.out).c1;have m3:=(HH.out.below (Below.next bJ.out gr.out)).c3;clear MN eO))
 all_goals (
  have q:=ai w4 (.cells #[.slice none 0 0,.int .i64 n.f,.slice ua um uc,.slice a4 (C.cH n.us j).length c4] 155);have xr:=B.ax.new w4 #[.slice none 0 0,.int .i64 n.f,.slice ua um uc,.slice a4 (C.cH n.us j).length c4] 155;have HR:Hid (dG (w4.alloc (.cells #[.slice none 0 0,.int .i64 n.f,.slice ua um uc,.slice a4 (C.cH n.us j).length c4] 155)) w4.heap.size ⟨[],n.f,B.cH n.lk i,C.cH n.us j⟩ (.slice none 0 0) (.slice ua um uc) (.slice a4 (C.cH n.us j).length c4)):=⟨xr,gK.nil _,((HO.out.below gr.out).below q).at,(XP.out.below q).at,(fun p hp=>by simp at hp),by simp,Ce.out.2.2,Ce.out.2.1,Ce.out.1⟩
  have nc:=ab (Below.next (Below.next bJ.out gr.out) q);clear q xr;go_wp2;go_ret;exact ⟨_,_,_,_,rfl,HR.out,nc.out⟩)
end T
end Go.Proofs.YtihmgigfkmofnaaGreatDoor
