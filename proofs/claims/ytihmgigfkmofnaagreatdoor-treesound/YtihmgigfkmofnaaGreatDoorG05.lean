import Derived.Test.YtihmgigfkmofnaaGreatDoorG04
import Derived.Deep.RegionLaw
set_option maxHeartbeats 8000000
set_option maxRecDepth 20000
open Go.Proofs.Tryz
namespace Go.Proofs.YtihmgigfkmofnaaGreatDoor
open Go.RowKit
def jC(A:Nat→Addr)(w:World):Prop:=dI 4 fe A w∧w.cell? ⟨11,0,none⟩=some (.iface 360 (.pointer (some (A 11))))
theorem jC.below{A:Nat→Addr}{w w':World}(h:jC A w)(hb:Below w.heap.size w w'):jC A w' :=
 ⟨h.1.keep hb,(hb.cell (p:=⟨11,0,none⟩) (World.block_lt_of_cell? w _ h.2)).trans h.2⟩
theorem dI.KF{n m:Nat}{G:Nat→Nat}{A:Nat→Addr}{w:World}(h:dI n G A w)(hm:m≤n):dI m G A w :=
 ⟨fun i hi=>h.1 i (by omega),fun i j hi hj he=>h.2 i j (by omega) (by omega) he⟩
theorem eY(p:Option Addr)(w:World):(binOp .neq 32 (.iface 360 (.pointer p)) .nilIface).run prog w = .ok (.bool true) w:=by
 have h2:∀ d:Nat,(Op.equalIn (d+1) 32 (.iface 360 (.pointer p)) .nilIface).run prog w = .ok false w:=fun d=>by
  simp [Op.equalIn,run_underlying underlying32]
 simp only [binOp];simp [Op.equal,Op.maxDepth,h2 9999]
def im(A:Nat→Addr):Option Nat→Value
 | none=>.nilIface
 | some k=>.iface 360 (.pointer (some (A k)))
namespace B
def I6(A:Nat→Addr)(w:World):Prop:=w.cell? ⟨0,0,none⟩=some (.iface 360 (.pointer (some (A 0))))
theorem I6.below{A:Nat→Addr}{w w':World}(h:I6 A w)(hb:Below w.heap.size w w'):I6 A w':=(hb.cell (p:=⟨0,0,none⟩) (World.block_lt_of_cell? w _ h)).trans h
theorem _root_.Go.Proofs.YtihmgigfkmofnaaGreatDoor.jC.a{A:Nat→Addr}{w:World}(h:jC A w):I6 A w:=(h.1.1 0 (by decide)).1
def sD(l:List Lk)(i:Int):Bool:=decide (0≤i) && decide (i≤(l.length:Int))
def qX(f:Int)(l:List Lk)(i:Int):Int:=if i=0 then f else (l.getD (i - 1).toNat (⟨#[]⟩,0)).2
def rp(A:Nat→Addr)(f:Int)(l:List Lk)(i:Int):Value :=
 if sD l i then .tuple #[.int .i64 (qX f l i),.nilIface] else .tuple #[.int .i64 0,.iface 360 (.pointer (some (A 0)))]
theorem Bz(f i:Int)(v:Value)(l:List Lk)(w:World)(hr:dm w v l):Calls prog 160 #[.agg #[.int .i64 f,v],.int .i64 i] w fun e w'=>e = .returned (.bool (sD l i))∧Below w.heap.size w w':=by
 obtain ⟨a,c,hv⟩:=hr.form;subst hv;obtain ⟨n,hn⟩ : ∃ n,n=l.length:=⟨_,rfl⟩;have HG:Hid (sD l i=(decide (0≤i) && decide (i≤(n:Int)))):=by show _=_;rw [hn];rfl
 rw [← hn];have HB:=ab (ai w (.cells #[.int .i64 f,.slice a n c] 150));clear hr hn;by_cases h0:0≤i
 ·by_cases h1:i≤(n:Int)
  ·go_enter func160,ntmps160;go_wp2;go_ret;exact ⟨by rw [HG.out];simp [h0,h1],HB.out⟩
  ·go_enter func160,ntmps160;go_wp2;go_ret;exact ⟨by rw [HG.out];simp [h0,h1],HB.out⟩
 ·have HF:Hid (sD l i=false):=by show _=_;rw [HG.out];simp [h0]
  clear HG;go_enter func160,ntmps160;go_wp2;go_ret;exact ⟨by rw [HF.out];rfl,HB.out⟩
theorem FJ(A:Nat→Addr)(f i:Int)(v:Value)(l:List Lk)(w:World)(hm:l.length≤5864062014805)(hr:dm w v l)(hE:I6 A w):Calls prog 118 #[.agg #[.int .i64 f,v],.int .i64 i] w fun e w'=>e = .returned (rp A f l i)∧Below w.heap.size w w':=by
 have hr0:=hr;obtain ⟨a,cap,hv,_,_,hc⟩:=hr;subst hv;obtain ⟨n,hn⟩ : ∃ n,n=l.length:=⟨_,rfl⟩;rw [← hn] at hm hr0 ⊢;have q1:=ai w (.cells #[.int .i64 f,.slice a n cap] 150);have x1:=au.new w #[.int .i64 f,.slice a n cap] 150;generalize ig:w.alloc (.cells #[.int .i64 f,.slice a n cap] 150)=W1 at *;have HH:=ab (Bz f i _ l W1 (hr0.below q1));have HE:=ab (hE.below q1);have HC:=ab hc;have HN:=ab hn;have HQ:=ab q1;have HX:=ab x1;have p1:=x1.c0;have p2:=x1.c1;clear hc hn q1 hr0 hE x1;go_enter func118,ntmps118;go_wp2_with fail;refine HH.out.mono ?_
 rintro e w1 ⟨rfl,aO⟩;have x2:=HX.out.below aO;have HB:=ab (Below.next HQ.out aO);have e0:w1.cell? ⟨0,0,none⟩=some (.iface 360 (.pointer (some (A 0)))):=HE.out.below aO;have r1:=x2.c0;have r2:=x2.c1;by_cases hg:sD l i=true
 ·have HV:Hid (rp A f l i = .tuple #[.int .i64 (qX f l i),.nilIface]):=by show _=_;simp [rp,hg]
  rw [hg];by_cases h0:i=0
  ·subst h0;clear aO x2 HE HH HC e0 p1 p2;go_wp2;go_ret2;exact ⟨by rw [HV.out];rfl,HB.out⟩
  ·simp only [sD,bV,decide_eq_true_eq] at hg;obtain ⟨k,hk⟩ : ∃ k:Nat,i=(k:Int)+1:=⟨(i - 1).toNat,by omega⟩
   subst hk;have cZ:k<l.length:=by omega
   obtain ⟨g,o,ha,f1,f2⟩:=HC.out k cZ;subst ha;have c2:w1.cell? ⟨g,o+k*2+1,none⟩=some (.int .i64 l[k].2):=(HB.out.cell (p:=⟨g,o+k*2+1,none⟩) (World.block_lt_of_cell? w _ f2)).trans f2;have wT:Hid (qX f l ((k:Int)+1)=l[k].2):=by
    show _=_
    rw [qX,if_neg h0,show (((k:Int)+1) - 1).toNat=k by omega,aF,af cZ];rfl
   obtain ⟨p,hp⟩ : ∃ p,p=l[k]:=⟨_,rfl⟩;rw [← hp] at c2 wT;have sS:IntKind.i64.wrap (((k:Int)+1) - 1)=(k:Int):=by have:=HN.out;rw [IntKind.wrap_i64];omega
   have nG:(k:Int)<(n:Int):=by have:=HN.out;omega
   have Mg:(0:Int)≤(k:Int):=by omega
   clear aO x2 HE HH HC e0 p1 p2 hp f1 f2 hg;go_wp2;go_ret2;exact ⟨by rw [HV.out,wT.out];rfl,HB.out⟩
 ·have HV:Hid (rp A f l i = .tuple #[.int .i64 0,.iface 360 (.pointer (some (A 0)))]):=by show _=_;simp [rp,hg]
  rw [Bool.not_eq_true] at hg;rw [hg];clear aO x2 HE HH HC p1 p2;go_wp2_with fail;go_quiet (fail)
  go_wp2;go_ret2;exact ⟨by rw [HV.out];rfl,aA HB.out _⟩
theorem IL(A:Nat→Addr)(f i:Int)(v:Value)(l:List Lk)(w:World)(hm:l.length≤5864062014805)(hr:dm w v l)(hE:jC A w) :
  Calls prog 118 #[.agg #[.int .i64 f,v],.int .i64 i] w fun e w'=>e = .returned (rp A f l i)∧Below w.heap.size w w':=FJ A f i v l w hm hr hE.a
def qn(l:List Lk)(i:Int):Bool:=decide (0≤i) && decide (i<(l.length:Int))
theorem Nh(f i:Int)(v:Value)(l:List Lk)(w:World)(hr:dm w v l):Calls prog 207 #[.agg #[.int .i64 f,v],.int .i64 i] w fun e w'=>e = .returned (.bool (qn l i))∧Below w.heap.size w w':=by
 obtain ⟨a,c,hv⟩:=hr.form;subst hv;obtain ⟨n,hn⟩ : ∃ n,n=l.length:=⟨_,rfl⟩;have HG:Hid (qn l i=(decide (0≤i) && decide (i<(n:Int)))):=by show _=_;rw [hn];rfl
 rw [← hn];have HB:=ab (ai w (.cells #[.int .i64 f,.slice a n c] 150));clear hr hn;by_cases h0:0≤i
 ·by_cases h1:i<(n:Int)
  ·go_enter func207,ntmps207;go_wp2;go_ret;exact ⟨by rw [HG.out];simp [h0,h1],HB.out⟩
  ·go_enter func207,ntmps207;go_wp2;go_ret;exact ⟨by rw [HG.out];simp [h0,h1],HB.out⟩
 ·have HF:Hid (qn l i=false):=by show _=_;rw [HG.out];simp [h0]
  clear HG;go_enter func207,ntmps207;go_wp2;go_ret;exact ⟨by rw [HF.out];rfl,HB.out⟩
theorem au.one{w:World}{b:Nat}{x y:Value}{t:TypeId}(h:au w b #[x,y] t)(y':Value):au (w.setCell ⟨b,1,none⟩ y') b #[x,y'] t:=by
 have:=wh h x y';have e:w.setCell ⟨b,0,none⟩ x=w:=by
  unfold au at h;rw [setCell_eq_setRow w b 0 #[x,y] t (0,0) x h];exact setRow_self w b #[x,y] t (0,0) h
 rwa [e] at this
theorem M9(A:Nat→Addr)(f i:Int)(v:Value)(l:List Lk)(w:World)(hm:l.length≤5864062014800)(hr:dm w v l)(hE:I6 A w):Calls prog 167 #[.agg #[.int .i64 f,v],.int .i64 i] w fun e w'=>((qn l i=true∧∃ u,e = .returned (.tuple #[.agg #[.int .i64 f,u],.nilIface])∧b9 w' w.heap.size u (cC l i.toNat))∨(qn l i=false∧e = .returned (.tuple #[.agg #[.int .i64 0,.slice none 0 0],.iface 360 (.pointer (some (A 0)))])))∧Below w.heap.size w w':=by
 obtain ⟨a,cap,hv⟩:=hr.form;subst hv;obtain ⟨n,hn⟩ : ∃ n,n=l.length:=⟨_,rfl⟩;rw [← hn] at hm hr ⊢;have q0:=ai w (.cells #[.int .i64 f,.slice a n cap] 150);have x0:=au.new w #[.int .i64 f,.slice a n cap] 150;have s0:(w.alloc (.cells #[.int .i64 f,.slice a n cap] 150)).heap.size=w.heap.size+1:=by simp
 generalize sW:w.alloc (.cells #[.int .i64 f,.slice a n cap] 150)=W0 at *;have q1:=ai W0 (.cells #[.int .i64 0,.slice none 0 0] 150);have x1:=au.new W0 #[.int .i64 0,.slice none 0 0] 150;have s1:(W0.alloc (.cells #[.int .i64 0,.slice none 0 0] 150)).heap.size=W0.heap.size+1:=by simp
 generalize ig:W0.alloc (.cells #[.int .i64 0,.slice none 0 0] 150)=W1 at *;have IT:=ab (x0.below q1);have Ad:=ab x1;have HQ:=ab (Below.next q0 q1);have HR:=ab (hr.below (Below.next q0 q1));have HE:=ab (hE.below (Below.next q0 q1));have HS:Hid (W0.heap.size=w.heap.size+1∧W1.heap.size=w.heap.size+2):=⟨s0,by rw [s1,s0]⟩
 have b1:¬ w.heap.size=W0.heap.size:=by omega
 have b2:¬ W0.heap.size=w.heap.size:=by omega
 have qm:0<w.heap.size:=World.block_lt_of_cell? w _ hE;have b3:¬ 0=W0.heap.size:=by omega
 have b4:¬ W0.heap.size=0:=by omega
 have HN:=ab hn;have HH:=ab (Nh f i _ l W1 HR.out);have p0:=IT.out.c0;have p1:=IT.out.c1;clear q0 x0 q1 x1 hr hE hn s0 s1 qm;go_enter func167,ntmps167;go_wp2_with fail;refine HH.out.mono ?_
 rintro e w1 ⟨rfl,aO⟩;have bT:=ab aO;clear aO HH p0 p1;by_cases hg:qn l i=true
 ·rw [hg];have HG:=ab hg;simp only [qn,bV,decide_eq_true_eq] at hg;obtain ⟨k,hk⟩ : ∃ k:Nat,i=(k:Int):=⟨i.toNat,by omega⟩
  subst hk;have cZ:k<l.length:=by omega
  have HK:=ab cZ;have p0:=(IT.out.below bT.out).c0;have p1:=(IT.out.below bT.out).c1;have tj:=ab (eN (.slice a n cap) l w1 (by have:=HN.out;omega) (HR.out.below bT.out))
  clear cZ;go_wp2_with fail;refine tj.out.mono ?_
  rintro e w2 ⟨u2,rfl,jf,aV⟩;have HD:=ab (oJ w1.heap.size u2 l k w2 HK.out jf);have sS:IntKind.i64.wrap ((k:Int)+1)=(k:Int)+1:=by have:=HK.out;have:=HN.out;rw [IntKind.wrap_i64];omega
  have bL:=ab aV;clear aV jf tj p0 p1;go_wp2_with fail;refine HD.out.mono ?_
  rintro e w3 ⟨u,rfl,kO,bW⟩;have HBw:Hid (Below W1.heap.size W1 w3):=Below.next bT.out (bL.out.trans bW);obtain ⟨ua,uc,hu⟩:=kO.form;obtain ⟨un,hun⟩ : ∃ n,n=(cC l k).length:=⟨_,rfl⟩;rw [← hun] at hu;subst hu;have HO:=ab kO;clear hun;have mf:=ab bT.out.size;have x0:=IT.out.below HBw.out;have x1:=Ad.out.below HBw.out;have p0:=x0.c0;have p1:=x0.c1;have p2:=x0.free 1;have p3:=x1.c0;have p4:=x1.c1;have p5:=x1.free 0;have p6:=x1.free 1;have alr:=ab x0;have IS:=ab x1;clear bW kO x0 x1 bL HD;go_wp2_with fail;have hx:=IS.out.other (j:=1) b2 (.slice ua un uc);have ho:=HO.out.put (g:=w.heap.size) (j:=1) (fun h=>by have:=(HO.out.dx _ h).1;have:=mf.out;have:=HS.out;omega) (.slice ua un uc)
  have jf:=(ho.xI (g:=W0.heap.size) (by have:=mf.out;have:=HS.out;omega) (.int .i64 f) (.slice ua un uc)).mono (b2:=w.heap.size) (by have:=mf.out;have:=HS.out;omega)
  have bQ:=cx (b:=W0.heap.size) (x:=.int .i64 f) (y:=.slice ua un uc) ((HQ.out.trans (HBw.out.mono (by have:=HS.out;omega))).setCell (p:=⟨w.heap.size,1,none⟩) (aj _) (.slice ua un uc)) (by have:=HS.out;omega)
  exact bodyPost_ret (aR rfl _ _ W0.heap.size 150 _ (0,0) _ rfl (hx.two _ _) underlying150 rfl (by kernel_rfl)) rfl ⟨.inl ⟨HG.out,_,rfl,jf⟩,bQ⟩
 ·rw [Bool.not_eq_true] at hg;rw [hg];have HG:=ab hg;have x1:=Ad.out.below bT.out;have e0:w1.cell? ⟨0,0,none⟩=some (.iface 360 (.pointer (some (A 0)))):=HE.out.below bT.out;have p3:=x1.c0;have p4:=x1.c1;have p5:=x1.free 0;have p6:=x1.free 1;have IS:=ab x1;clear x1;go_wp2_with fail;go_region_held3 (fun w'=>w'.cell? ⟨0,0,none⟩=some (.iface 360 (.pointer (some (A 0))))) (go_keep) (fail)
  all_goals
   go_wp2_with fail;exact bodyPost_ret (aR rfl _ _ W0.heap.size 150 _ (0,0) _ rfl (IS.out.two _ _).drew underlying150 rfl (by kernel_rfl)) rfl ⟨.inr ⟨HG.out,rfl⟩,aP (cx (Below.next HQ.out bT.out) (by have:=HS.out;omega))⟩
theorem RJ(A:Nat→Addr)(f i:Int)(v:Value)(l:List Lk)(w:World)(hm:l.length≤5864062014800)(hr:dm w v l)(hE:jC A w) :
  Calls prog 167 #[.agg #[.int .i64 f,v],.int .i64 i] w fun e w' =>
   ((qn l i=true∧∃ u,e = .returned (.tuple #[.agg #[.int .i64 f,u],.nilIface])∧b9 w' w.heap.size u (cC l i.toNat))∨(qn l i=false∧e = .returned (.tuple #[.agg #[.int .i64 0,.slice none 0 0],.iface 360 (.pointer (some (A 0)))])))∧Below w.heap.size w w':=M9 A f i v l w hm hr hE.a
theorem Nf(A:Nat→Addr)(f i:Int)(v:Value)(l:List Lk)(key:ByteArray)(c:Int)(w:World)(hm:l.length≤5864062014800)(hr:dm w v l)(hE:I6 A w):Calls prog 203 #[.agg #[.int .i64 f,v],.int .i64 i,.agg #[.string key,.int .i64 c]] w fun e w'=>((sD l i=true∧∃ u,e = .returned (.tuple #[.agg #[.int .i64 f,u],.nilIface])∧b9 w' w.heap.size u (dJ l i.toNat (key,c)))∨(sD l i=false∧e = .returned (.tuple #[.agg #[.int .i64 0,.slice none 0 0],.iface 360 (.pointer (some (A 0)))])))∧Below w.heap.size w w':=by
 obtain ⟨a,cap,hv⟩:=hr.form;subst hv;obtain ⟨n,hn⟩ : ∃ n,n=l.length:=⟨_,rfl⟩;rw [← hn] at hm hr ⊢;have q0:=ai w (.cells #[.int .i64 f,.slice a n cap] 150);have x0:=au.new w #[.int .i64 f,.slice a n cap] 150;have s0:(w.alloc (.cells #[.int .i64 f,.slice a n cap] 150)).heap.size=w.heap.size+1:=by simp
 generalize hWa:w.alloc (.cells #[.int .i64 f,.slice a n cap] 150)=Wa at *;have qa:=ai Wa (.cells #[.string key,.int .i64 c] 179);have xa:=au.new Wa #[.string key,.int .i64 c] 179;have sa:(Wa.alloc (.cells #[.string key,.int .i64 c] 179)).heap.size=Wa.heap.size+1:=by simp
 generalize sW:Wa.alloc (.cells #[.string key,.int .i64 c] 179)=W0 at *;have q1:=ai W0 (.cells #[.int .i64 0,.slice none 0 0] 150);have x1:=au.new W0 #[.int .i64 0,.slice none 0 0] 150;have s1:(W0.alloc (.cells #[.int .i64 0,.slice none 0 0] 150)).heap.size=W0.heap.size+1:=by simp
 generalize ig:W0.alloc (.cells #[.int .i64 0,.slice none 0 0] 150)=W1 at *;have IT:=ab (x0.below (Below.next qa q1));have vW:=ab (xa.below q1);have Ad:=ab x1;have hq:=Below.next (Below.next q0 qa) q1;have HQ:=ab hq;have HR:=ab (hr.below hq);have HE:=ab (hE.below hq);have HS:Hid (Wa.heap.size=w.heap.size+1∧W0.heap.size=w.heap.size+2∧W1.heap.size=w.heap.size+3):=⟨s0,by rw [sa,s0],by rw [s1,sa,s0]⟩
 have b1:¬ w.heap.size=W0.heap.size:=by omega
 have b2:¬ W0.heap.size=w.heap.size:=by omega
 have qm:0<w.heap.size:=World.block_lt_of_cell? w _ hE;have b3:¬ 0=W0.heap.size:=by omega
 have b4:¬ W0.heap.size=0:=by omega
 have HN:=ab hn;have HH:=ab (Bz f i _ l W1 HR.out);have tj:Hid (∀ W,Below W1.heap.size W1 W→Calls prog 209 #[.slice a n cap] W fun e w'=>∃ ua uc,e = .returned (.slice ua n uc)∧b9 w' W.heap.size (.slice ua n uc) l∧Below W.heap.size W w'):=fun W h=>by
  refine (eN (.slice a n cap) l W (by have:=HN.out;omega) (HR.out.below h)).mono ?_
  rintro e w' ⟨u,rfl,ho,hb⟩;obtain ⟨ua,uc,hu⟩:=ho.form;rw [← HN.out] at hu;subst hu;exact ⟨ua,uc,rfl,ho,hb⟩
 have YG:Hid (∀ (k:Nat) (W:World) (ua:Option Addr) (uc base vb:Nat),k≤n→W1.heap.size≤base→base≤W.heap.size→b9 W base (.slice ua n uc) l→au W vb #[.string key,.int .i64 c] 179→(Value.slice ua n uc).ownBlock≠some vb→Below W1.heap.size W1 W→Calls prog 231 #[.slice ua n uc,.int .i64 (k:Int),.slice (some ⟨vb,0,none⟩) 1 1] W fun e w'=>∃ va vc,e = .returned (.slice va (n+1) vc)∧b9 w' W1.heap.size (.slice va (n+1) vc) (dJ l k (key,c))∧Below W1.heap.size W1 w'):=fun k W ua uc base vb hk aO aV ho bH cY h=>by
  refine (oI base (.slice ua n uc) l k vb (key,c) W (by have:=HN.out;omega) (by have:=HN.out;omega) ho aV bH cY).mono ?_
  rintro e w' ⟨u,rfl,ho,hb⟩;obtain ⟨va,vc,hu⟩:=ho.form;rw [eX l k _ (by have:=HN.out;omega),← HN.out] at hu
  subst hu;exact ⟨va,vc,rfl,ho.mono aO,h.trans (hb.mono aO)⟩
 have p0:=IT.out.c0;have p1:=IT.out.c1;clear q0 x0 qa xa q1 x1 hr hE hn s0 s1 sa qm hq;go_enter func203,ntmps203;go_wp2_with fail;refine HH.out.mono ?_
 rintro e w1 ⟨rfl,aO⟩;have bT:=ab aO;clear aO HH p0 p1;by_cases hg:sD l i=true
 ·rw [hg];have HG:=ab hg;simp only [sD,bV,decide_eq_true_eq] at hg;obtain ⟨k,hk⟩ : ∃ k:Nat,i=(k:Int):=⟨i.toNat,by omega⟩
  subst hk;have HK:Hid (k≤n):=by have:=HN.out;show k≤n;omega
  have YR:=ab bT.out.size;have p0:=(IT.out.below bT.out).c0;have p1:=(IT.out.below bT.out).c1;have p2:=(vW.out.below bT.out).c0;have p3:=(vW.out.below bT.out).c1;have p4:=World.new_ne w1 _ p1;clear hg;go_wp2_with fail;refine wp_region_held_drew (S:=(fun w'=>w'.cell? ⟨Wa.heap.size,0,none⟩=some (.string key)∧w'.cell? ⟨Wa.heap.size,1,none⟩=some (.int .i64 c))) (by kernel_rfl) ⟨p2,p3⟩ (fun gu=>?_)
  refine wpAnyH_take (i:=0) (oi:={ dst:=some 14,op:=Op.fieldAddr 150 (Operand.tmp 3) 1,type:=0,pos := "branch.go:226",after:=#[],guard:=none }) (v:=?_) rfl (by kernel_rfl) (by kernel_rfl) (by kernel_rfl) (fun _ _ _ h=>h) (Or.inl ⟨by rfl,?_⟩) (by assumption) ?_
  rotate_left
  ·(intro w' yB;(try dsimp only at yB);go_simp;try with_reducible rfl)
  simp only [Act.put,aC,List.set_cons_zero,List.set_cons_succ];refine wpAnyH_take (i:=3) (oi:={ dst:=some 17,op:=Op.move (Operand.tmp 1),type:=3,pos := "branch.go:226",after:=#[],guard:=none }) (v:=?_) rfl (by kernel_rfl) (by kernel_rfl) (by kernel_rfl) (fun _ _ _ h=>h) (Or.inl ⟨by rfl,?_⟩) (by assumption) ?_
  rotate_left
  ·(intro w' yB;(try dsimp only at yB);go_simp;try with_reducible rfl)
  simp only [Act.put,aC,List.set_cons_zero,List.set_cons_succ];refine wpAnyH_take (i:=4) (oi:={ dst:=some 18,op:=Op.load 179 (Operand.tmp 5),type:=179,pos := "branch.go:226",after:=#[],guard:=none }) (v:=?_) rfl (by kernel_rfl) (by kernel_rfl) (by kernel_rfl) (fun _ _ _ h=>h) (Or.inl ⟨by rfl,?_⟩) (by assumption) ?_
  rotate_left
  ·(intro w' yB;(try dsimp only at yB);go_simp;try with_reducible rfl)
  simp only [Act.put,aC,List.set_cons_zero,List.set_cons_succ];refine wpAnyH_ready (rs:=[1,5]) (by kernel_rfl) (by simp) ?_
  refine AllReadyH.cons rfl (fun K hK=>?_) (AllReadyH.cons rfl (fun K hK=>?_) AllReadyH.nil)
  focus
   clear gu;go_simp
   refine hK.out _ _ ⟨p2,p3⟩ (fun gu=>?_)
   clear hK K;refine wpAnyH_ready (rs:=[2,5]) (by kernel_rfl) (by simp) ?_
   refine AllReadyH.cons rfl (fun K hK=>?_) (AllReadyH.cons rfl (fun K hK=>?_) AllReadyH.nil)
   focus
    clear gu;go_simp
    refine (tj.out _ bT.out.drew).mono ?_
    rintro e w2 ⟨ua,uc,rfl,jf,aV⟩;have bL:=ab (Below.next bT.out (dy aV));have jx:=ab jf;have lD:=ab (show w1.heap.size≤w2.heap.size from aV.size)
    have d2:=(vW.out.below bL.out).c0;have d3:=(vW.out.below bL.out).c1;clear jf aV;refine hK.out _ _ ⟨d2,d3⟩ (fun gu=>?_)
    clear hK K;refine wpAnyH_ready (rs:=[5]) (by kernel_rfl) (by simp) ?_
    refine AllReadyH.cons rfl (fun K hK=>?_) AllReadyH.nil
    clear gu;go_simp
    have q5:=ai w2 (.cells #[.string key,.int .i64 c] 179);have x5:=au.new w2 #[.string key,.int .i64 c] 179;have jd:=ab (Below.next bL.out q5);have Yt:=ab (jx.out.below q5);have EW:(Value.slice ua n uc).ownBlock≠some w2.heap.size:=fun h=>by have:=(jx.out.dx _ h).2;omega
    have HK5:=ab (YG.out k (w2.alloc (.cells #[.string key,.int .i64 c] 179)) ua uc w1.heap.size w2.heap.size HK.out YR.out (ar lD.out q5.size) Yt.out x5 EW jd.out);have d2:=(vW.out.below jd.out).c0;have d3:=(vW.out.below jd.out).c1;generalize w2.alloc (.cells #[.string key,.int .i64 c] 179)=W5 at *;clear q5 x5 EW;refine hK.out _ _ ⟨d2,d3⟩ (fun gu=>?_)
    clear hK K
   rotate_left;focus
    clear gu;go_simp
    have q5:=ai w1 (.cells #[.string key,.int .i64 c] 179);have x5:=au.new w1 #[.string key,.int .i64 c] 179;have s5:(w1.alloc (.cells #[.string key,.int .i64 c] 179)).heap.size=w1.heap.size+1:=by simp
    have jd:=ab (Below.next bT.out q5);have zf:=ab x5.drew;have te:Hid ((w1.alloc (.cells #[.string key,.int .i64 c] 179)).heap.size=w1.heap.size+1):=s5;have d2:=(vW.out.below jd.out).c0;have d3:=(vW.out.below jd.out).c1;have d1:=(IT.out.below jd.out).c1;clear q5 x5 s5;refine hK.out _ _ ⟨d2,d3⟩ (fun gu=>?_)
    clear hK K;refine wpAnyH_ready (rs:=[2]) (by kernel_rfl) (by simp) ?_
    refine AllReadyH.cons rfl (fun K hK=>?_) AllReadyH.nil
    clear gu;go_simp
    refine (tj.out _ jd.out.drew).mono ?_
    rintro e w2 ⟨ua,uc,rfl,jf,aV⟩;have bL:=ab (Below.next jd.out (dy aV));have jx:=ab jf;have HXV:=ab (zf.out.below aV);have EW:(Value.slice ua n uc).ownBlock≠some w1.heap.size:=fun h=>by have:=(jf.dx _ h).1;have:=te.out;have e:(w1.alloc (.cells #[.string key,.int .i64 c] 179)).drew.heap.size=(w1.alloc (.cells #[.string key,.int .i64 c] 179)).heap.size:=rfl;omega
    have HK5:=ab (YG.out k w2 ua uc _ w1.heap.size HK.out (ar YR.out (by have:=te.out;show w1.heap.size≤(w1.alloc (.cells #[.string key,.int .i64 c] 179)).heap.size;omega)) aV.size jx.out HXV.out EW bL.out)
    have d2:=(vW.out.below bL.out).c0;have d3:=(vW.out.below bL.out).c1;clear jf aV EW;refine hK.out _ _ ⟨d2,d3⟩ (fun gu=>?_)
    clear hK K
  rotate_left 2
  focus
   clear gu;go_simp
   have q5:=ai w1 (.cells #[.string key,.int .i64 c] 179);have x5:=au.new w1 #[.string key,.int .i64 c] 179;have s5:(w1.alloc (.cells #[.string key,.int .i64 c] 179)).heap.size=w1.heap.size+1:=by simp
   have jd:=ab (Below.next bT.out q5);have zf:=ab x5.drew;have te:Hid ((w1.alloc (.cells #[.string key,.int .i64 c] 179)).heap.size=w1.heap.size+1):=s5;have d2:=(vW.out.below jd.out).c0;have d3:=(vW.out.below jd.out).c1;have d1:=(IT.out.below jd.out).c1;clear q5 x5 s5;refine hK.out _ _ ⟨d2,d3⟩ (fun gu=>?_)
   clear hK K;refine wpAnyH_ready (rs:=[1]) (by kernel_rfl) (by simp) ?_
   refine AllReadyH.cons rfl (fun K hK=>?_) AllReadyH.nil
   clear gu;go_simp
   refine hK.out _ _ ⟨d2,d3⟩ (fun gu=>?_)
   clear hK K;refine wpAnyH_ready (rs:=[2]) (by kernel_rfl) (by simp) ?_
   refine AllReadyH.cons rfl (fun K hK=>?_) AllReadyH.nil
   clear gu;go_simp
   refine (tj.out _ jd.out.drew).mono ?_
   rintro e w2 ⟨ua,uc,rfl,jf,aV⟩;have bL:=ab (Below.next jd.out (dy aV));have jx:=ab jf;have HXV:=ab (zf.out.below aV);have EW:(Value.slice ua n uc).ownBlock≠some w1.heap.size:=fun h=>by have:=(jf.dx _ h).1;have:=te.out;have e:(w1.alloc (.cells #[.string key,.int .i64 c] 179)).drew.heap.size=(w1.alloc (.cells #[.string key,.int .i64 c] 179)).heap.size:=rfl;omega
   have HK5:=ab (YG.out k w2 ua uc _ w1.heap.size HK.out (ar YR.out (by have:=te.out;show w1.heap.size≤(w1.alloc (.cells #[.string key,.int .i64 c] 179)).heap.size;omega)) aV.size jx.out HXV.out EW bL.out)
   have d2:=(vW.out.below bL.out).c0;have d3:=(vW.out.below bL.out).c1;clear jf aV EW;refine hK.out _ _ ⟨d2,d3⟩ (fun gu=>?_)
   clear hK K
  all_goals
   refine wpAnyH_ready (rs:=[6]) (by kernel_rfl) (by simp) ?_
   refine AllReadyH.cons rfl (fun K hK=>?_) AllReadyH.nil
   clear gu;go_simp
   refine HK5.out.mono ?_
   rintro e w3 ⟨va,vc,rfl,kO,bW⟩;have eH:=ab bW;have rl:=ab kO;have x0:=IT.out.below bW;have e1:=x0.c1;have e2:=x0.free 1;have d2:=(vW.out.below eH.out).c0;have d3:=(vW.out.below eH.out).c1;clear kO bW x0;refine hK.out _ _ ⟨d2,d3⟩ (fun gu=>?_)
   clear hK K;clear d2 d3;refine wpAnyH_take (i:=7) (oi:={ dst:=some 21,op:=Op.fieldAddr 150 (Operand.tmp 3) 1,type:=0,pos := "branch.go:226",after:=#[{ on:=0,ground:=Ground.phase },{ on:=1,ground:=Ground.phase },{ on:=2,ground:=Ground.phase },{ on:=3,ground:=Ground.phase },{ on:=4,ground:=Ground.phase },{ on:=5,ground:=Ground.phase },{ on:=6,ground:=Ground.phase }],guard:=none }) (v:=?_) rfl (by kernel_rfl) (by kernel_rfl) (by kernel_rfl) (fun _ _ _ h=>h) (Or.inl ⟨by rfl,?_⟩) (by assumption) ?_
   rotate_left
   ·(intro w' yB;(try dsimp only at yB);go_simp;try with_reducible rfl)
   simp only [Act.put,aC,List.set_cons_zero,List.set_cons_succ];refine wpAnyH_ready (rs:=[8]) (by kernel_rfl) (by simp) ?_
   refine AllReadyH.cons rfl (fun K hK=>?_) AllReadyH.nil
   clear gu;go_simp
   refine hK.out _ _ ⟨?_,?_⟩ (fun gu=>?_)
   ·rw [World.cell?_setCell_far _ _ _ _ (by have:=HS.out;show w.heap.size≠Wa.heap.size;omega)];exact (vW.out.below eH.out).c0
   ·rw [World.cell?_setCell_far _ _ _ _ (by have:=HS.out;show w.heap.size≠Wa.heap.size;omega)];exact (vW.out.below eH.out).c1
   clear hK K;refine wpAnyH_done (by kernel_rfl) ?_ _
   clear gu;have x0:=IT.out.below eH.out;have x1:=Ad.out.below eH.out;have y0:=x0.c0;have y3:=x1.c0;have y4:=x1.c1;have y5:=x1.free 0;have y6:=x1.free 1;have IS:=ab x1;clear x0 x1;go_wp2_with fail;have hx:=IS.out.other (j:=1) b2 (.slice va (n+1) vc);have ho:=rl.out.put (g:=w.heap.size) (j:=1) (fun h=>by have:=(rl.out.dx _ h).1;have:=HS.out;omega) (.slice va (n+1) vc)
   have jf:=(ho.xI (g:=W0.heap.size) (by have:=HS.out;omega) (.int .i64 f) (.slice va (n+1) vc)).mono (b2:=w.heap.size) (by have:=HS.out;omega)
   have bQ:=cx (b:=W0.heap.size) (x:=.int .i64 f) (y:=.slice va (n+1) vc) ((HQ.out.trans (eH.out.mono (by have:=HS.out;omega))).setCell (p:=⟨w.heap.size,1,none⟩) (aj _) (.slice va (n+1) vc)) (by have:=HS.out;omega)
   exact bodyPost_ret (aR rfl _ _ W0.heap.size 150 _ (0,0) _ rfl (hx.two _ _) underlying150 rfl (by kernel_rfl)) rfl ⟨.inl ⟨HG.out,_,rfl,jf⟩,bQ⟩
 ·rw [Bool.not_eq_true] at hg;rw [hg];have HG:=ab hg;have x1:=Ad.out.below bT.out;have e0:w1.cell? ⟨0,0,none⟩=some (.iface 360 (.pointer (some (A 0)))):=HE.out.below bT.out;have p3:=x1.c0;have p4:=x1.c1;have p5:=x1.free 0;have p6:=x1.free 1;have IS:=ab x1;clear x1;go_wp2_with fail;go_region_held3 (fun w'=>w'.cell? ⟨0,0,none⟩=some (.iface 360 (.pointer (some (A 0))))) (go_keep) (fail)
  all_goals
   go_wp2_with fail;exact bodyPost_ret (aR rfl _ _ W0.heap.size 150 _ (0,0) _ rfl (IS.out.two _ _).drew underlying150 rfl (by kernel_rfl)) rfl ⟨.inr ⟨HG.out,rfl⟩,aP (cx (Below.next HQ.out bT.out) (by have:=HS.out;omega))⟩
theorem RL(A:Nat→Addr)(f i:Int)(v:Value)(l:List Lk)(key:ByteArray)(c:Int)(w:World)(hm:l.length≤5864062014800)(hr:dm w v l)(hE:jC A w) :
  Calls prog 203 #[.agg #[.int .i64 f,v],.int .i64 i,.agg #[.string key,.int .i64 c]] w fun e w' =>
   ((sD l i=true∧∃ u,e = .returned (.tuple #[.agg #[.int .i64 f,u],.nilIface])∧b9 w' w.heap.size u (dJ l i.toNat (key,c)))∨(sD l i=false∧e = .returned (.tuple #[.agg #[.int .i64 0,.slice none 0 0],.iface 360 (.pointer (some (A 0)))])))∧Below w.heap.size w w':=Nf A f i v l key c w hm hr hE.a
end B
namespace T
theorem wX(A:Nat→Addr)(b:Nat)(n:SN)(pv lv cv:Value)(i:Nat)(w:World)(h:dP w b n pv lv cv)(hi:i<n.lk.length)(hlen:n.us.length=n.lk.length+1)(hE:jC A w):Calls prog 127 #[.pointer (some ⟨b,0,none⟩),.int .i64 (i:Int)] w fun e w'=>SR w ⟨[],n.f,B.cC n.lk i,C.cC n.us (i+1)⟩ e w':=by
 have hf:=h.fine;have acA:Hid (Calls prog 167 #[.agg #[.int .i64 n.f,lv],.int .i64 (i:Int)] w fun e w'=>∃ (ua:Option Addr) (um uc:Nat),e = .returned (.tuple #[.agg #[.int .i64 n.f,.slice ua um uc],.nilIface])∧B.b9 w' w.heap.size (.slice ua um uc) (B.cC n.lk i)∧Below w.heap.size w w'):=by
  refine (B.RJ A n.f (i:Int) lv n.lk w (by omega) h.bn hE).mono fun e w' ⟨hv,hb⟩=>?_
  rcases hv with ⟨_,u,he,ho⟩ | ⟨hg,_⟩
  ·obtain ⟨ua,uc,hu⟩:=ho.form;subst hu;exact ⟨_,_,_,he,ho,hb⟩
  ·exfalso
   simp only [B.qn,Bool.and_eq_false_iff,decide_eq_false_iff_not] at hg;omega
 have p1:=h.c1;have p2:=h.c2;have HH:=ab h;have bQ:b<w.heap.size:=h.row.lt;obtain ⟨j,hj⟩ : ∃ j,j=i+1:=⟨_,rfl⟩;have sS:IntKind.i64.wrap ((i:Int)+1)=(j:Int):=by rw [IntKind.wrap_i64];omega
 have Sw:IntKind.i64.wrap ((i:Int)+2)=(j:Int)+1:=by rw [IntKind.wrap_i64];omega
 have HJ:Hid (j<n.us.length∧n.us.length≤4001):=⟨by omega,by omega⟩
 have HF:=ab hf;have HI:=ab hi;rw [← hj];clear h hf hE hi hlen hj;go_enter func127,ntmps127;go_wp2_with fail;refine acA.out.mono ?_
 rintro e w1 ⟨ua,um,uc,rfl,ho,aO⟩;have q2:=ai w1 (.cells #[.int .i64 n.f,.slice ua um uc] 150);have x2:=B.au.new w1 #[.int .i64 n.f,.slice ua um uc] 150;have HO:=ab (ho.below q2);have bL:=ab (Below.next aO q2);have nL:=ab x2;have fc:¬ b=w1.heap.size:=by have:=aO.size;omega
 clear acA p1 p2 ho aO q2 x2;go_wp2_with fail;generalize w1.alloc (.cells #[.int .i64 n.f,.slice ua um uc] 150)=W2 at *;generalize w1.heap.size=k2 at *;have k0:=nL.out.c0;have k1:=nL.out.c1;have k3:=(HH.out.below bL.out).c3;obtain ⟨ca,cc,yA⟩:=HH.out.kids.form;have tj:Hid (∀ W,Below W2.heap.size W2 W→Calls prog 164 #[cv] W fun e w'=>∃ (g c:Nat),e = .returned (.slice (some ⟨g,0,none⟩) n.us.length c)∧C.b9 w' W.heap.size (.slice (some ⟨g,0,none⟩) n.us.length c) n.us∧Below W.heap.size W w'):=fun W hW=>by
  refine (C.eN cv n.us W (by have:=HJ.out;omega) ((HH.out.below (Below.next bL.out hW)).kids)).mono fun e w' ⟨u,h1,h2,h3⟩=>?_
  obtain ⟨g,c,hu,_,_⟩:=sC h2 (by have:=HJ.out;omega)
  subst hu;exact ⟨g,c,h1,h2,h3⟩
 subst yA;have ZC:Hid (k2<W2.heap.size∧b<W2.heap.size):=⟨nL.out.lt,by have:=bL.out.size;omega⟩
 have CI:Hid ((C.cC n.us j).length≤4001∧(B.cC n.lk i).length≤4000∧∀ p ∈ B.cC n.lk i,cV p.1):=by
  have h1:=HJ.out;have h2:=HF.out;refine ⟨by unfold C.cC;rw [ae,ag,al];omega,by unfold B.cC;rw [ae,ag,al];omega,fun p hp=>?_⟩
  unfold B.cC at hp;rcases List.mem_append.1 hp with h | h
  ·exact h2.2.2.1 p (bJ h)
  ·exact h2.2.2.1 p (bK h)
 go_region_held3 (fun w'=>w'.cell? ⟨k2,0,none⟩=some (.int .i64 n.f)∧w'.cell? ⟨k2,1,none⟩=some (.slice ua um uc)∧w'.cell? ⟨b,3,none⟩=some (.slice ca n.us.length cc)) (go_keep)
  (first
   | (go_at_call 164;refine (tj.out _ (Below.refl _ _).drew).mono ?_;rintro e w3 ⟨g,c,rfl,kO,bW⟩;have rl:=ab kO;have eH:=ab (B.dy bW);have m0:=(nL.out.below eH.out).c0;have m1:=(nL.out.below eH.out).c1;have m3:=(HH.out.below (Below.next bL.out eH.out)).c3;clear kO bW)
   | (go_at_call 168;refine (C.oJ _ _ n.us j _ HJ.out.1 rl.out).mono ?_;rintro e w4 ⟨u4,rfl,Cj,fS⟩;obtain ⟨a4,c4,hu4⟩:=Cj.form;subst hu4;have Zz:=ab Cj;have iY:Hid (Below W2.heap.size W2 w4):=eH.out.trans fS;have m0:=(nL.out.below iY.out).c0;have m1:=(nL.out.below iY.out).c1;have m3:=(HH.out.below (Below.next bL.out iY.out)).c3;clear Cj fS))
 all_goals (
  have q:=ai w4 (.cells #[.slice none 0 0,.int .i64 n.f,.slice ua um uc,.slice a4 (C.cC n.us j).length c4] 155);have xr:=B.au.new w4 #[.slice none 0 0,.int .i64 n.f,.slice ua um uc,.slice a4 (C.cC n.us j).length c4] 155;have HR:Hid (dP (w4.alloc (.cells #[.slice none 0 0,.int .i64 n.f,.slice ua um uc,.slice a4 (C.cC n.us j).length c4] 155)) w4.heap.size ⟨[],n.f,B.cC n.lk i,C.cC n.us j⟩ (.slice none 0 0) (.slice ua um uc) (.slice a4 (C.cC n.us j).length c4)):=⟨xr,gM.nil _,((HO.out.below iY.out).below q).at,(Zz.out.below q).at,(fun p hp=>by simp at hp),by simp,CI.out.2.2,CI.out.2.1,CI.out.1⟩
  have mU:=ab (Below.next (Below.next bL.out iY.out) q);clear q xr;go_wp2;go_ret;exact ⟨_,_,_,_,rfl,HR.out,mU.out⟩)
theorem bU(p:C.Ch):∃ t x,p.val = .iface t x:=by
 cases p
 ·exact ⟨_,_,rfl⟩
 ·exact ⟨_,_,rfl⟩
theorem KD(A:Nat→Addr)(b:Nat)(n:SN)(pv lv cv:Value)(i:Nat)(key:ByteArray)(p:C.Ch)(w:World)(h:dP w b n pv lv cv)(hi:i≤n.lk.length)(hlen:n.us.length=n.lk.length+1)(eb:n.lk.length≤3999)(hk:cV key)(hE:jC A w):Calls prog 163 #[.pointer (some ⟨b,0,none⟩),.int .i64 (i:Int),.string key,p.val] w fun e w'=>SR w ⟨[],n.f,B.dJ n.lk i (key,0),C.dJ n.us (i+1) p⟩ e w':=by
 have hf:=h.fine;have acS:Hid (Calls prog 203 #[.agg #[.int .i64 n.f,lv],.int .i64 (i:Int),.agg #[.string key,.int .i64 0]] w fun e w'=>∃ (ua:Option Addr) (um uc:Nat),e = .returned (.tuple #[.agg #[.int .i64 n.f,.slice ua um uc],.nilIface])∧B.b9 w' w.heap.size (.slice ua um uc) (B.dJ n.lk i (key,0))∧Below w.heap.size w w'):=by
  refine (B.RL A n.f (i:Int) lv n.lk key 0 w (by omega) h.bn hE).mono fun e w' ⟨hv,hb⟩=>?_
  rcases hv with ⟨_,u,he,ho⟩ | ⟨hg,_⟩
  ·obtain ⟨ua,uc,hu⟩:=ho.form;subst hu;exact ⟨_,_,_,he,ho,hb⟩
  ·exfalso
   simp only [B.sD,Bool.and_eq_false_iff,decide_eq_false_iff_not] at hg;omega
 have p1:=h.c1;have p2:=h.c2;have HH:=ab h;have bQ:b<w.heap.size:=h.row.lt;obtain ⟨j,hj⟩ : ∃ j,j=i+1:=⟨_,rfl⟩;have sS:IntKind.i64.wrap ((i:Int)+1)=(j:Int):=by rw [IntKind.wrap_i64];omega
 have HJ:Hid (j≤n.us.length∧1≤n.us.length∧n.us.length≤4000):=⟨by omega,by omega,by omega⟩
 have CI:Hid ((C.dJ n.us j p).length≤4001∧(B.dJ n.lk i (key,0)).length≤4000∧∀ q ∈ B.dJ n.lk i (key,0),cV q.1):=by
  refine ⟨by unfold C.dJ;rw [ae,List.length_cons,ag,al];omega,by unfold B.dJ;rw [ae,List.length_cons,ag,al];omega,fun q hq=>?_⟩
  unfold B.dJ at hq;rcases List.mem_append.1 hq with h | h
  ·exact hf.2.2.1 q (bJ h)
  ·rcases List.mem_cons.1 h with rfl | h
   ·exact hk
   ·exact hf.2.2.1 q (bK h)
 rw [← hj];clear h hf hE hi hlen hj eb hk;obtain ⟨pt,px,ir⟩:=bU p;rw [ir];have Yn:=ab ir;clear ir;go_enter func163,ntmps163;go_wp2_with fail;refine acS.out.mono ?_
 rintro e w1 ⟨ua,um,uc,rfl,ho,aO⟩;have q2:=ai w1 (.cells #[.int .i64 n.f,.slice ua um uc] 150);have x2:=B.au.new w1 #[.int .i64 n.f,.slice ua um uc] 150;have HO:=ab (ho.below q2);have bL:=ab (Below.next aO q2);have nL:=ab x2;clear acS p1 p2 ho aO q2 x2;go_wp2_with fail;generalize w1.alloc (.cells #[.int .i64 n.f,.slice ua um uc] 150)=W2 at *;generalize w1.heap.size=k2 at *;have k0:=nL.out.c0;have k1:=nL.out.c1;have k3:=(HH.out.below bL.out).c3;obtain ⟨ca,cc,yA⟩:=HH.out.kids.form;have tj:Hid (∀ W,Below W2.heap.size W2 W→Calls prog 164 #[cv] W fun e w'=>∃ (g c:Nat),e = .returned (.slice (some ⟨g,0,none⟩) n.us.length c)∧C.b9 w' W.heap.size (.slice (some ⟨g,0,none⟩) n.us.length c) n.us∧Below W.heap.size W w'):=fun W hW=>by
  refine (C.eN cv n.us W (by have:=HJ.out;omega) ((HH.out.below (Below.next bL.out hW)).kids)).mono fun e w' ⟨u,h1,h2,h3⟩=>?_
  obtain ⟨g,c,hu,_,_⟩:=sC h2 (by have:=HJ.out;omega)
  subst hu;exact ⟨g,c,h1,h2,h3⟩
 have acT:Hid (∀ (W:World) (base g c vb:Nat),C.b9 W base (.slice (some ⟨g,0,none⟩) n.us.length c) n.us→base≤W.heap.size→B.au W vb #[.iface pt px] 97→g≠vb→Calls prog 204 #[.slice (some ⟨g,0,none⟩) n.us.length c,.int .i64 (j:Int),.slice (some ⟨vb,0,none⟩) 1 1] W fun e w'=>∃ (a4:Option Addr) (c4:Nat),e = .returned (.slice a4 (C.dJ n.us j p).length c4)∧C.b9 w' base (.slice a4 (C.dJ n.us j p).length c4) (C.dJ n.us j p)∧Below base W w'):=fun W base g c vb h1 h2 h3 h4=>by
  refine (C.oI base _ n.us j vb p W (by have:=HJ.out;omega) HJ.out.1 h1 h2 (by rw [Yn.out];exact h3) (fun e=>h4 (by simpa [Value.ownBlock] using e))).mono fun e w' ⟨u,g1,g2,g3⟩=>?_
  obtain ⟨a4,c4,hu⟩:=g2.form;subst hu;exact ⟨a4,c4,g1,g2,g3⟩
 subst yA;have q5:=ai W2 (.cells #[.iface pt px] 97);have x5:=B.au.new W2 #[.iface pt px] 97;have s5:(W2.alloc (.cells #[.iface pt px] 97)).heap.size=W2.heap.size+1:=by simp
 obtain ⟨y0,y1,y3⟩ : (W2.alloc (.cells #[.iface pt px] 97)).cell? ⟨k2,0,none⟩=some (.int .i64 n.f)∧(W2.alloc (.cells #[.iface pt px] 97)).cell? ⟨k2,1,none⟩=some (.slice ua um uc)∧(W2.alloc (.cells #[.iface pt px] 97)).cell? ⟨b,3,none⟩=some (.slice ca n.us.length cc):=⟨(nL.out.below q5).c0,(nL.out.below q5).c1,(HH.out.below (Below.next bL.out q5)).c3⟩;have f0:=World.new_ne W2 _ k0;have f3:=World.new_ne W2 _ k3;generalize V6:W2.alloc (.cells #[.iface pt px] 97)=W5 at *;have BE:=ab q5;have zf:=ab x5;have te:=ab s5;clear q5 x5 s5;go_region_held3 (fun w'=>w'.cell? ⟨k2,0,none⟩=some (.int .i64 n.f)∧w'.cell? ⟨k2,1,none⟩=some (.slice ua um uc)∧w'.cell? ⟨b,3,none⟩=some (.slice ca n.us.length cc)) (go_keep)
  (first
   | (go_at_call 164;refine (tj.out _ ?_).mono ?_;(first | exact (Below.refl _ _).drew | exact BE.out.drew);rintro e w3 ⟨g,c,rfl,kO,bW⟩;have eH:Hid (Below W2.heap.size W2 w3):=(by first | exact B.dy bW | exact Below.next BE.out (B.dy bW));have rl:=ab kO;have SS:=ab bW;(try (have af4:=ab (zf.out.drew.below bW)));have m0:=(nL.out.below eH.out).c0;have m1:=(nL.out.below eH.out).c1;have m3:=(HH.out.below (Below.next bL.out eH.out)).c3;have e0:=World.new_ne w3 _ m0;have e3:=World.new_ne w3 _ m3;clear kO bW)
   | (go_at_call 204;(first
       | (refine (acT.out _ _ _ _ _ rl.out SS.out.size af4.out (by have h1:=(rl.out.dx g rfl).1;have h2:=te.out;show g≠W2.heap.size;show g≠_;simp only [World.drew] at h1;omega)).mono ?_;rintro e w4 ⟨a4,c4,rfl,Cj,fS⟩;have Zz:=ab Cj;have iY:Hid (Below W2.heap.size W2 w4):=(eH.out.trans (fS.mono (by have:=te.out;show W2.heap.size≤W5.heap.size;omega))))
       | (refine (acT.out _ _ _ _ _ (rl.out.below (ai w3 (.cells #[.iface pt px] 97))) (ar SS.out.size (ai w3 (.cells #[.iface pt px] 97)).size) (B.au.new w3 #[.iface pt px] 97) (by have h1:=(rl.out.dx g rfl).2;omega)).mono ?_;rintro e w4 ⟨a4,c4,rfl,Cj,fS⟩;have Zz:=ab Cj;have iY:Hid (Below W2.heap.size W2 w4):=((Below.next eH.out (ai w3 (.cells #[.iface pt px] 97))).trans fS))
      );have m0:=(nL.out.below iY.out).c0;have m1:=(nL.out.below iY.out).c1;have m3:=(HH.out.below (Below.next bL.out iY.out)).c3;clear Cj fS))
 all_goals (
  have q:=ai w4 (.cells #[.slice none 0 0,.int .i64 n.f,.slice ua um uc,.slice a4 (C.dJ n.us j p).length c4] 155);have xr:=B.au.new w4 #[.slice none 0 0,.int .i64 n.f,.slice ua um uc,.slice a4 (C.dJ n.us j p).length c4] 155;have HR:Hid (dP (w4.alloc (.cells #[.slice none 0 0,.int .i64 n.f,.slice ua um uc,.slice a4 (C.dJ n.us j p).length c4] 155)) w4.heap.size ⟨[],n.f,B.dJ n.lk i (key,0),C.dJ n.us j p⟩ (.slice none 0 0) (.slice ua um uc) (.slice a4 (C.dJ n.us j p).length c4)):=⟨xr,gM.nil _,((HO.out.below iY.out).below q).at,(Zz.out.below q).at,(fun p hp=>by simp at hp),by simp,CI.out.2.2,CI.out.2.1,CI.out.1⟩
  have mU:=ab (Below.next (Below.next bL.out iY.out) q);clear q xr;go_wp2;go_ret;exact ⟨_,_,_,_,rfl,HR.out,mU.out⟩)
end T
variable {l:List Pr} {v:Value} {w:World} {base:Nat}
def fJ(w:World)(base:Nat)(v:Value)(l:List Pr):Prop:=w.ownsRow base 52 2 v l.length (iH l)
theorem fJ.at(h:fJ w base v l):gM w v l:=gM.rX h
theorem fJ.form{w:World}{base:Nat}{v:Value}{l:List Pr}(h:fJ w base v l):∃ a c,v = .slice a l.length c:=h.at.form
theorem fJ.below{w':World}(h:fJ w base v l)(hb:Below w.heap.size w w'):fJ w' base v l:=by
 refine ⟨h.1,?_⟩;rcases h.2 with h' | ⟨g,cap,cur,h',h1,h2,hr⟩
 ·exact .inl h'
 ·refine .inr ⟨g,cap,cur,h',h1,?_,hr⟩;have hg:g<w.heap.size:=by
   rcases a6 g w.heap.size with h' | h'
   ·exact h'
   ·rw [aZ h'] at h2;cases h2
  rw [hb.block g hg];exact h2
theorem fJ.mono{b b2:Nat}(h:fJ w b v l)(hb:b2≤b):fJ w b2 v l:=by
 refine ⟨h.1,?_⟩;rcases h.2 with h' | ⟨g,cap,cur,h',h1,hr⟩
 ·exact .inl h'
 ·exact .inr ⟨g,cap,cur,h',ar hb h1,hr⟩
theorem fJ.nil(w:World)(base:Nat):fJ w base (.slice none 0 0) []:=World.ownsRow_nil _ _ _ _
theorem gh(base:Nat)(v s:Value)(xs us:List Pr)(w:World)(aE:fJ w base v xs)(hs:gM w s us)(hb:(xs.length+us.length)*32≤140737488355328)(dd:base≤w.heap.size):∃ a' eO w',(Builtin.append_ #[63,63] 63 #[v,s]).run prog w = .ok (.slice a' (xs.length+us.length) eO) w'∧fJ w' base (.slice a' (xs.length+us.length) eO) (xs++us)∧w.grownBy w' v.ownBlock:=by
 obtain ⟨i0,hi,hz,b8,kQ⟩:=info_parts JY;obtain ⟨a,cap,rfl,hle,qP,hc⟩:=hs;have NV:∃ a' c',v = .slice a' xs.length c':=aE.form;unfold fJ at aE ⊢;rw [ae,xJ];cases a with
 | none =>
  have h0:us=[]:=by
   cases us with
   | nil=>rfl
   | cons u r=>obtain ⟨g,o,he,_⟩:=hc 0 (by simp);cases he
  subst h0;rw [qP rfl];have hr:=run_append_owned_none (P:=prog) w base 63 63 52 i0 2 underlying63 hi v xs.length (iH xs) aE;obtain ⟨a',c',rfl⟩:=NV;exact ⟨a',c',w,hr,by simpa [iH] using aE,⟨rfl,rfl,rfl,aj _,fun _ _ _=>rfl⟩⟩
 | some ad =>
  obtain ⟨v',w',hr,gr,Bd,_⟩:=run_append_own (P:=prog) w base 63 63 52 i0 _ 2 32 underlying63 hi hz b8 kQ rfl (by decide) v xs.length (iH xs) aE ad us.length cap (iH us) (eK us) (fun j u hj=>by
   have lY:=(List.getElem?_eq_some_iff.1 hj).1;rw [eK] at lY;obtain ⟨g,o,he,c1,c2⟩:=hc (j / 2) (by omega)
   cases he;have hg:=wi us (j / 2) (by omega)
   rw [bh];rcases bY j with hm | hm
   ·have e:j / 2*2=j:=by omega
    rw [e] at hg c1;rw [hg.1] at hj;cases hj;exact c1
   ·have e:j / 2*2+1=j:=by omega
    rw [dN,e] at c2;rw [e] at hg;rw [hg.2] at hj;cases hj;exact c2) (Tu us) (by unfold maxLen;omega) hb dd
  have hf:∃ a' c',v' = .slice a' (xs.length+us.length) c':=by
   rcases gr.2 with ⟨rfl,h0⟩ | ⟨g,cap,cur,rfl,_⟩
   ·exact ⟨none,0,by rw [h0]⟩
   ·exact ⟨_,_,rfl⟩
  obtain ⟨a',c',rfl⟩:=hf;exact ⟨a',c',w',hr,gr,Bd⟩
theorem fJ.dx(h:fJ w base v l):∀ k,v.ownBlock=some k→base≤k∧k<w.heap.size:=World.ownsRow.lt h
theorem B1(w:World)(p:Pr)(t:TypeId):gM (w.alloc (.cells #[.string p.1,.string p.2] t)) (.slice (some ⟨w.heap.size,0,none⟩) 1 1) [p]:=by
 have hb:=bM w #[.string p.1,.string p.2] t;refine ⟨_,_,rfl,aj _,fun h=>(by cases h),fun j hj=>⟨_,_,rfl,?_,?_⟩⟩
 ·have:j=0:=by simpa using hj
  subst this;exact hb.2 0 (by simp)
 ·have:j=0:=by simpa using hj
  subst this;exact hb.2 1 (by simp)
theorem DO(base:Nat)(v:Value)(l:List Pr)(p:Pr)(t:TypeId)(w w0:World)(B n:Nat)(hn:l.length=n)(aE:fJ w base v l)(hb:(n+1)*32≤140737488355328)(dd:base≤w.heap.size)(hB:B≤base)(h0:Below B w0 w):∃ a' eO w',(Builtin.append_ #[63,63] 63 #[v,.slice (some ⟨w.heap.size,0,none⟩) 1 1]).run prog (w.alloc (.cells #[.string p.1,.string p.2] t)) = .ok (.slice a' (n+1) eO) w'∧fJ w' base (.slice a' (n+1) eO) (l++[p])∧Below B w0 w'∧w.heap.size≤w'.heap.size:=by
 subst hn;have ho:fJ (w.alloc (.cells #[.string p.1,.string p.2] t)) base v l:=World.ownsRow.alloc aE _;obtain ⟨a',eO,w',hr,gr,hg⟩:=gh base v _ l [p] _ ho (B1 w p t) (by simpa using hb) (by simp;omega)
 refine ⟨a',eO,w',hr,gr,?_,?_⟩
 ·refine (h0.alloc (ar hB dd) _).grown hg (by simp;omega) (fun k hk=>ar hB (aE.dx k hk).1)
 ·have:=hg.size;simp at this
  omega
end Go.Proofs.YtihmgigfkmofnaaGreatDoor
