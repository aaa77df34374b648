import Derived.Test.YtihmgigfkmofnaaGreatDoorG13
import Derived.Test.YtihmgigfkmofnaaGreatDoorG09
set_option maxHeartbeats 4000000
set_option maxRecDepth 20000
open Go.Proofs.Tryz
namespace Go.Proofs.YtihmgigfkmofnaaGreatDoor
namespace B
open Go.RowKit
theorem UQ(g n:Nat)(h1:1≤n):∃ a',(1<n→a'=some ⟨g,1,none⟩)∧∀ w,(Instr.sliceAt 231 (.slice (some ⟨g,0,none⟩) n n) (some (.int .i64 1)) none none).run prog w = .ok (.slice a' (n - 1) (n - 1)) w:=by
 refine ⟨if n=1 then some ⟨g,0,none⟩ else some ⟨g,1,none⟩,fun h=>by rw [if_neg (by omega)],fun w=>?_⟩
 rw [run_sliceAt_slice (h:=underlying231),run_slice_l (ht:=underlying231) (h0:=by omega) (h1:=by omega)]
 have hz:(sizeOf (prog.elem 231)).run prog w = .ok 1 w:=by kernel_rfl
 rw [hz];simp [Result.andThen,sliced,bA]
theorem pT.four{A:Nat→Addr}{w:World}(h:pT A w):dk 4 fl A w:=h.1.JQ (by decide)
theorem nc(g n:Nat)(L:List ByteArray)(w:World)(hn:n=L.length)(xW:n≤2036)(fG:∀ c ∈ L,c.size≤4072)(hc:∀ j (h:j<L.length),w.cell? ⟨g,j,none⟩=some (.string L[j])):Calls prog 155 #[.slice (some ⟨g,0,none⟩) n n] w fun e w'=>∃ (x:Int) (ua:Option Addr) (un uc:Nat),e = .returned (.tuple #[.agg #[.int .i64 x,.slice ua un uc],.bool (zy L)])∧(zy L=true→x=FG L∧bQ w' w.heap.size (.slice ua un uc) (B7 L))∧Below w.heap.size w w':=by
 have q0:=ai w (.cells #[.int .i64 0,.slice none 0 0] 150);have x0:=au.new w #[.int .i64 0,.slice none 0 0] 150;have HQ:=ab q0;have HX:=ab x0;cases L with
 | nil =>
  subst hn;have fy:zy []=false:=rfl;have kh:=ab fy;clear q0 x0 fG hc fy;rw [List.length_nil];go_enter func155,ntmps155;go_wp2;exact bodyPost_ret (aK rfl _ _ w.heap.size 150 _ (0,0) _ rfl HX.out underlying150 rfl (by kernel_rfl)) rfl ⟨_,_,_,_,by rw [kh.out];rfl,fun h=>(by rw [kh.out] at h;cases h),HQ.out⟩
 | cons c cs =>
  have AK:n=cs.length+1:=by rw [hn];rfl
  have G3:((n:Int) == 0)=false:=by rw [beq_eq_false_iff_ne];omega
  have c0:(w.alloc (.cells #[.int .i64 0,.slice none 0 0] 150)).cell? ⟨g,0,none⟩=some (.string c):=by
   have:=hc 0 (by simp)
   simp only [List.getElem_cons_zero] at this;exact (q0.cell (p:=⟨g,0,none⟩) (World.block_lt_of_cell? w _ this)).trans this
  have vX:∀ j (h:j<cs.length),(w.alloc (.cells #[.int .i64 0,.slice none 0 0] 150)).cell? ⟨g,1+j,none⟩=some (.string cs[j]):=fun j h=>by
   have:=hc (j+1) (by simpa using h)
   simp only [List.getElem_cons_succ] at this;rw [Nat.add_comm 1 j];exact (q0.cell (p:=⟨g,j+1,none⟩) (World.block_lt_of_cell? w _ this)).trans this
  generalize Cy:w.alloc (.cells #[.int .i64 0,.slice none 0 0] 150)=W0 at *;obtain ⟨a',Zl,qE⟩:=UQ g n (by omega)
  have UL:=ab (uT c W0);have HLS:Hid (∀ W,Below W0.heap.size W0 W→Calls prog 193 #[.slice a' (n - 1) (n - 1)] W fun e w'=>((cs.all uz=true∧∃ u,e = .returned (.tuple #[u,.bool true])∧bQ w' W.heap.size u (cs.map fF))∨(cs.all uz=false∧e = .returned (.tuple #[.slice none 0 0,.bool false])))∧Below W.heap.size W w'):=fun W h =>
   DQ g 1 (n - 1) (n - 1) cs W (by omega) (by omega) (fun d hd=>fG d (dP _ hd)) (fun j hj=>(h.cell (p:=⟨g,1+j,none⟩) (World.block_lt_of_cell? W0 _ (vX j hj))).trans (vX j hj)) a' (fun h=>Zl (by omega))
  have n1:(1:Int)≤(n:Int):=by omega
  have vu:Hid (zy (c::cs)=(decide (c.size=4) && cs.all uz)):=by show _=_;rfl
  have HF:Hid (c.size=4→zC c=FG (c::cs)):=fun h=>by unfold zC FG;rw [if_pos h]
  have HL:Hid (B7 (c::cs)=cs.map fF):=by show _=_;simp [B7]
  obtain ⟨kc,FE⟩ : ∃ kc,kc=zC c:=⟨_,rfl⟩;rw [← FE] at UL HF;generalize n - 1=nm at *;have Cf:=ab HX.out;clear hn AK hc fG vX Zl FE x0 q0;go_enter func155,ntmps155;go_wp2_with fail;refine UL.out.mono ?_
  rintro e w1 ⟨rfl,aN⟩;have bN:=ab aN;have Z7:=ab (HLS.out _ aN);clear aN UL HLS c0;go_wp2_with fail;refine Z7.out.mono ?_
  rintro e w2 ⟨hv,aY⟩;have hx:=HX.out.below (Below.next bN.out aY);have r0:=hx.c0;have r1:=hx.c1;have z0:=hx.free 0;have z1:=hx.free 1;have JB:=ab hx;have bH:=ab (Below.next HQ.out (Below.next bN.out aY));have gM:Hid (w.heap.size<w1.heap.size∧w.heap.size≤w1.heap.size):=by
   have h1:=HX.out.lt;have h2:=bN.out.size;exact ⟨by omega,by omega⟩
  clear aY hx Z7 qE;rcases hv with ⟨cZ,u,rfl,ho⟩ | ⟨cZ,rfl⟩
  ·obtain ⟨ua,uc,hu⟩:=ho.form;subst hu;rw [cZ] at vu;have HO:=ab ho;generalize (cs.map fF).length=un at *;clear ho cZ;cases h4:decide (c.size=4) with
   | true =>
    rw [h4] at vu;have H4:=ab (of_decide_eq_true h4);clear h4;go_wp2_with fail;refine bodyPost_ret (aK rfl _ _ w.heap.size 150 _ (0,0) _ rfl (JB.out.two _ _) underlying150 rfl (by kernel_rfl)) rfl ⟨kc,ua,un,uc,by rw [vu.out];rfl,fun _=>⟨HF.out H4.out,?_⟩,bP bH.out (aj _)⟩
    rw [HL.out];exact (HO.out.ti gM.out.1 _ _).mono gM.out.2
   | false =>
    rw [h4] at vu;clear h4;go_wp2_with fail;exact bodyPost_ret (aK rfl _ _ w.heap.size 150 _ (0,0) _ rfl (JB.out.two _ _) underlying150 rfl (by kernel_rfl)) rfl ⟨kc,ua,un,uc,by rw [vu.out];rfl,fun h=>(by rw [vu.out] at h;cases h),bP bH.out (aj _)⟩
  ·rw [cZ,Bool.and_false] at vu;clear cZ;cases h4:decide (c.size=4) with
   | true =>
    clear h4;go_wp2_with fail;exact bodyPost_ret (aK rfl _ _ w.heap.size 150 _ (0,0) _ rfl (JB.out.two _ _) underlying150 rfl (by kernel_rfl)) rfl ⟨kc,none,0,0,by rw [vu.out];rfl,fun h=>(by rw [vu.out] at h;cases h),bP bH.out (aj _)⟩
   | false =>
    clear h4;go_wp2_with fail;exact bodyPost_ret (aK rfl _ _ w.heap.size 150 _ (0,0) _ rfl (JB.out.two _ _) underlying150 rfl (by kernel_rfl)) rfl ⟨kc,none,0,0,by rw [vu.out];rfl,fun h=>(by rw [vu.out] at h;cases h),bP bH.out (aj _)⟩
def aav(A:Nat→Addr)(c:Int)(s:ByteArray)(base:Nat)(e:Ending)(w:World):Prop :=
 (0≤c∧vz c.toNat s.data.toList∧∃ u,e = .returned (.tuple #[.agg #[.int .i64 (FG (bT s.data.toList c.toNat)),u],.nilIface])∧bQ w base u (B7 (bT s.data.toList c.toNat))) ∨
  (¬ (0≤c∧vz c.toNat s.data.toList)∧e = .returned (.tuple #[.agg #[.int .i64 0,.slice none 0 0],.iface 360 (.pointer (some (A 1)))]))
theorem uU{b:List UInt8}{n:Nat}(h:L7 b n):∀ x ∈ bT b n,x.size≤4072:=fun x hx=>by
 obtain ⟨i,hi,rfl⟩:=aI hx;rw [← bsize,mZ b n i hi];unfold yA;rw [ag,ao];have:=h.1.2;omega
theorem E2(A:Nat→Addr)(c:Int)(s:ByteArray)(w:World)(hE:pT A w):Calls prog 116 #[.int .i64 c,.string s] w fun e w'=>aav A c s w.heap.size e w'∧Below w.heap.size w w':=by
 have q0:=ai w (.cells #[.int .i64 0,.slice none 0 0] 150);have x0:=au.new w #[.int .i64 0,.slice none 0 0] 150;have hE0:=hE.below q0;have ye:1<w.heap.size:=World.block_lt_of_cell? w _ ((hE.1.1 1 (by decide)).1)
 have xT:(w.alloc (.cells #[.int .i64 0,.slice none 0 0] 150)).heap.size=w.heap.size+1:=by simp
 generalize Cy:w.alloc (.cells #[.int .i64 0,.slice none 0 0] 150)=W0 at *;have QD:=ab (lM A c s W0 hE0.four);have HE:=ab hE0;have HX:=ab x0;have HQ:=ab q0;have Fb:=ab xT;have b1:¬ 1=w.heap.size:=by omega
 have b2:¬ w.heap.size=1:=by omega
 have HG:Hid (∀ W,Below W0.heap.size W0 W→W.cell? ⟨1,0,none⟩=some (.iface 360 (.pointer (some (A 1))))):=fun W h=>((HE.out.below h).1.1 1 (by decide)).1
 clear hE hE0 q0 x0 ye xT;go_enter func116,ntmps116;go_wp2_with fail;refine QD.out.mono ?_
 rintro e w1 ⟨hv,aN⟩;have bN:=ab aN;clear aN QD;rcases hv with ⟨yi,Eg,g,rfl,aD⟩ | ⟨fy,rfl⟩
 ·obtain ⟨n,hn⟩ : ∃ n,n=c.toNat:=⟨_,rfl⟩;have HC0:=ab yi;have ZZ:=ab Eg;have Wo:=ab hn;rw [← hn] at Eg aD ⊢;obtain ⟨L,hL⟩ : ∃ L,L=bT s.data.toList n:=⟨_,rfl⟩;have K4:n=L.length:=by rw [hL,fW]
  have Zp:∀ x ∈ L,x.size≤4072:=by rw [hL];exact uU Eg
  rw [← hL] at aD;have xW:n≤2036:=Eg.1.1;have bE:∀ j (h:j<L.length),w1.cell? ⟨g,j,none⟩=some (.string L[j]):=fun j h=>by
   rw [World.ownsRow.cellAt aD j (by omega)]
   exact CY L j h
  have Xu:=ab (nc g n L w1 K4 xW Zp bE);have HL:=ab hL;have gI:=ab K4;clear Eg aD bE K4 Zp hL hn yi;go_wp2_with fail;refine Xu.out.mono ?_
  rintro e w2 ⟨x,ua,un,uc,rfl,Uo,aY⟩;have q2:=ai w2 (.cells #[.int .i64 x,.slice ua un uc] 150);have x2:=au.new w2 #[.int .i64 x,.slice ua un uc] 150;have bH:=ab (Below.next bN.out (Below.next aY q2));have Wg:=ab bN.out.size;have hx:=HX.out.below bH.out;have r0:=hx.c0;have r1:=hx.c1;have z0:=hx.free 0;have z1:=hx.free 1;have JB:=ab hx;have cg:=HG.out _ bH.out;have t0:=x2.c0;have t1:=x2.c1;cases vm:zy L with
  | false =>
   have kh:Hid (¬ (0≤c∧vz c.toNat s.data.toList)):=fun h=>by
    have:=h.2.2.1;rw [← Wo.out,← HL.out,vm] at this;cases this
   clear Uo aY q2 x2 vm hx Xu;go_wp2_with fail;generalize w2.alloc (.cells #[.int .i64 x,.slice ua un uc] 150)=W2 at *;go_region_held3 (fun w'=>w'.cell? ⟨1,0,none⟩=some (.iface 360 (.pointer (some (A 1))))) (go_keep) (fail)
   all_goals
    clear r0 r1 z0 z1 cg t0 t1;go_wp2_with fail;exact bodyPost_ret (aK rfl _ _ w.heap.size 150 _ (0,0) _ rfl (JB.out.two _ _).drew underlying150 rfl (by kernel_rfl)) rfl ⟨.inr ⟨kh.out,rfl⟩,aR (bP (Below.next HQ.out bH.out) (aj _))⟩
  | true =>
   obtain ⟨hxf,ho⟩:=Uo vm;obtain ⟨l,hl⟩ : ∃ l,l=B7 L:=⟨_,rfl⟩;rw [← hl] at ho;have zE:un=l.length:=by
    obtain ⟨_,_,he⟩:=ho.form;cases he;rfl
   have YM:l.length≤2036:=by rw [hl];simp only [B7,az,ao];have:=gI.out;omega
   have Yv:Uz l:=fun p hp=>by
    rw [hl] at hp;simp only [B7,List.mem_map] at hp;obtain ⟨d,hd,rfl⟩:=hp;have hds:d.size≤4072:=by
     have:d ∈ bT s.data.toList n:=by rw [← HL.out];exact bG hd
     have Eg:=ZZ.out;rw [← Wo.out] at Eg;exact uU Eg d this
    simp only [fF,ByteArray.size_extract];omega
   have HO:=ab (ho.below q2);have nR:=ab (yE A x _ l true _ Yv (by omega) (ho.below q2).at (HE.out.below bH.out))
   have kj:=ab hl;have HXF:=ab hxf;have vu:=ab vm;have vf:=ab x2;have ahT:=ab (aq Wg.out aY.size);clear Uo aY q2 x2 vm hx Xu ho hxf hl zE YM Yv;go_wp2_with fail;generalize w2.alloc (.cells #[.int .i64 x,.slice ua un uc] 150)=W2 at *;refine nR.out.mono ?_
   rintro e w3 ⟨rfl,b6⟩;have hx:=JB.out.below b6;have L8:=ab hx;have dH:=ab (Below.next bH.out b6);have nL:=ab (HO.out.below b6);have vS:=vf.out.below b6;clear b6 nR r0 r1 z0 z1 t0 t1 cg;have r0:=hx.c0;have r1:=hx.c1;have z0:=hx.free 0;have z1:=hx.free 1;have t0:=vS.c0;have t1:=vS.c1;have cg:=HG.out _ dH.out;clear hx vS;cases kV:mX x l true with
   | some k =>
    have kh:Hid (¬ (0≤c∧vz c.toNat s.data.toList)):=fun h=>by
     have:=h.2.2.2;rw [← Wo.out,← HL.out,← kj.out,← HXF.out,kV] at this;cases this
    have GW:=fun W=>fe (some (A k)) W
    clear kV;unfold im;go_wp2_with fail;go_region_held3 (fun w'=>w'.cell? ⟨1,0,none⟩=some (.iface 360 (.pointer (some (A 1))))) (go_keep) (fail)
    all_goals
     clear r0 r1 z0 z1 cg t0 t1;go_wp2_with fail;exact bodyPost_ret (aK rfl _ _ w.heap.size 150 _ (0,0) _ rfl (L8.out.two _ _).drew underlying150 rfl (by kernel_rfl)) rfl ⟨.inr ⟨kh.out,rfl⟩,aR (bP (Below.next HQ.out dH.out) (aj _))⟩
   | none =>
    have ac2:Hid (vz c.toNat s.data.toList):=by
     refine ⟨ZZ.out,?_,?_⟩
     ·rw [← Wo.out,← HL.out];exact vu.out
     ·rw [← Wo.out,← HL.out,← kj.out,← HXF.out];exact kV
    clear kV;unfold im;go_wp2_with fail;refine bodyPost_ret (aK rfl _ _ w.heap.size 150 _ (0,0) _ rfl (L8.out.two _ _) underlying150 rfl (by kernel_rfl)) rfl ⟨.inl ⟨HC0.out,ac2.out,.slice ua un uc,?_,?_⟩,bP (Below.next HQ.out dH.out) (aj _)⟩
    ·rw [← Wo.out,← HL.out,← HXF.out];rfl
    ·rw [← Wo.out,← HL.out,← kj.out];exact (nL.out.ti (by have:=Wg.out;have:=Fb.out;omega) _ _).mono (by have:=Wg.out;have:=Fb.out;omega)
 ·have kh:Hid (¬ (0≤c∧vz c.toNat s.data.toList)):=fun h=>fy ⟨h.1,h.2.1⟩
  have hx:=HX.out.below bN.out;have r0:=hx.c0;have r1:=hx.c1;have z0:=hx.free 0;have z1:=hx.free 1;have JB:=ab hx;have cg:=HG.out _ bN.out;have GW:=fun W=>fe (some (A 1)) W
  clear fy hx;go_wp2_with fail;go_region_held3 (fun w'=>w'.cell? ⟨1,0,none⟩=some (.iface 360 (.pointer (some (A 1))))) (go_keep) (fail)
  all_goals
   clear r0 r1 z0 z1 cg;go_wp2_with fail;exact bodyPost_ret (aK rfl _ _ w.heap.size 150 _ (0,0) _ rfl (JB.out.two _ _).drew underlying150 rfl (by kernel_rfl)) rfl ⟨.inr ⟨kh.out,rfl⟩,aR (bP (Below.next HQ.out bN.out) (aj _))⟩
end B
namespace T
open Go.RowKit
theorem Oi(A:Nat→Addr)(kd id tx c:Value)(cn:Int)(body:ByteArray)(hc:c = .int .i64 cn)(w:World)(h0:0≤cn)(hd:mx cn.toNat body.data.toList)(hE:jG A w):Calls prog 174 #[.agg #[kd,id,tx,c,.string body]] w fun e w'=>∃ b pv lv cv,e = .returned (.tuple #[.pointer (some ⟨b,0,none⟩),.nilIface])∧dM w' b ⟨B2 cn.toNat body.data.toList,0,[],[]⟩ pv lv cv∧Below w.heap.size w w':=by
 subst hc;have q0:=ai w (.cells #[kd,id,tx,.int .i64 cn,.string body] 87);have x0:=B.au.new w #[kd,id,tx,.int .i64 cn,.string body] 87;have k3:(w.alloc (.cells #[kd,id,tx,.int .i64 cn,.string body] 87)).cell? ⟨w.heap.size,3,none⟩=some (.int .i64 cn):=x0.cell 3 (by simp)
 have k4:(w.alloc (.cells #[kd,id,tx,.int .i64 cn,.string body] 87)).cell? ⟨w.heap.size,4,none⟩=some (.string body):=x0.cell 4 (by simp)
 obtain ⟨l,hl⟩ : ∃ l,l=B2 cn.toNat body.data.toList:=⟨_,rfl⟩;have uJ:=sD hd.2.2;have mS:(∀ p ∈ l,cF p=true)∧l.length≤4000:=by
  have e:(bT body.data.toList cn.toNat).map dn=l:=by rw [hl];rfl
  rw [e] at uJ;have:=ko l;exact ⟨uJ.1,by omega⟩
 have lG:Hid (Calls prog 114 #[.int .i64 cn,.string body] (w.alloc (.cells #[kd,id,tx,.int .i64 cn,.string body] 87)) fun e w'=>∃ (ua:Option Addr) (uc:Nat),e = .returned (.tuple #[.slice ua l.length uc,.nilIface])∧gZ w' (.slice ua l.length uc) l∧Below w.heap.size w w'):=by
  refine (DT A cn body _ (hE.below q0)).mono fun e w' ⟨hv,hb⟩=>?_
  rcases hv with ⟨_,_,u,he,ho⟩ | ⟨fy,_⟩
  ·rw [← hl] at ho;obtain ⟨ua,uc,hu⟩:=ho.form;subst hu;exact ⟨ua,uc,he,ho.at,Below.next q0 hb⟩
  ·exact absurd ⟨h0,hd⟩ fy
 rw [← hl];obtain ⟨N,hN⟩ : ∃ N,N=l.length:=⟨_,rfl⟩;rw [← hN] at lG;have Rf:=ab mS;clear q0 x0 hl uJ mS hd h0 hE hN;go_enter func174,ntmps174;go_wp2_with fail;refine lG.out.mono ?_
 rintro e w1 ⟨ua,uc,rfl,hr,aN⟩;have q:=ai w1 (.cells #[.slice ua N uc,.int .i64 0,.slice none 0 0,.slice none 0 0] 155);have xr:=B.au.new w1 #[.slice ua N uc,.int .i64 0,.slice none 0 0,.slice none 0 0] 155;have HR:Hid (dM (w1.alloc (.cells #[.slice ua N uc,.int .i64 0,.slice none 0 0,.slice none 0 0] 155)) w1.heap.size ⟨l,0,[],[]⟩ (.slice ua N uc) (.slice none 0 0) (.slice none 0 0)):=⟨xr,hr.below q,B.dm.nil _,(C.bQ.nil _ 0).at,Rf.out.1,Rf.out.2,(fun p hp=>by simp at hp),by simp,by simp⟩
 have rm:=ab (Below.next aN q);clear q xr hr aN lG k3 k4;go_wp2;go_ret2;exact ⟨_,_,_,_,rfl,HR.out,rm.out⟩
def Bz(f:Int)(l:List B.Lk):List C.Ch:=.pg f::l.map (fun p=>.pg p.2)
theorem vH(f:Int)(l:List B.Lk):(Bz f l).length=l.length+1:=by simp [Bz]
theorem NP(f:Int)(l:List B.Lk)(k:Nat)(h:k<l.length):Bz f (l.take (k+1))=Bz f (l.take k)++[.pg l[k].2]:=by
 unfold Bz;rw [ay h,aW];rfl
theorem U4(w:World)(p:C.Ch)(t:TypeId):C.dm (w.alloc (.cells #[p.val] t)) (.slice (some ⟨w.heap.size,0,none⟩) 1 1) [p] :=
 ⟨_,1,rfl,aj _,fun h=>by simp at h,fun j x hj=>by
  have lW:j<1:=(List.getElem?_eq_some_iff.1 hj).1;have Mu:j=0:=by omega
  subst Mu;cases hj;exact ⟨_,_,rfl,(bM w #[p.val] t).2 0 (by simp)⟩⟩
theorem Dt(f:Int)(v:Value)(l:List B.Lk)(w:World)(hm:l.length≤4000)(hr:B.dm w v l):Calls prog 220 #[.agg #[.int .i64 f,v]] w fun e w'=>∃ u,e = .returned u∧C.bQ w' w.heap.size u (Bz f l)∧Below w.heap.size w w':=by
 obtain ⟨a,c,hv⟩:=hr.form;subst hv;obtain ⟨n,hn⟩ : ∃ n,n=l.length:=⟨_,rfl⟩;rw [← hn] at hr ⊢;have q0:=ai w (.cells #[.int .i64 f,.slice a n c] 150);have x0:=B.au.new w #[.int .i64 f,.slice a n c] 150;have q1:=ai (w.alloc (.cells #[.int .i64 f,.slice a n c] 150)) (.cells #[.iface 146 (.int .i64 f)] 97);have k0:=x0.c0;have k1:=(x0.below q1).c1;have s0:(w.alloc (.cells #[.int .i64 f,.slice a n c] 150)).heap.size=w.heap.size+1:=by simp
 have ho:C.bQ ((w.alloc (.cells #[.int .i64 f,.slice a n c] 150)).alloc (.cells #[.iface 146 (.int .i64 f)] 97)) w.heap.size (.slice (some ⟨w.heap.size+1,0,none⟩) 1 1) (Bz f (l.take 0)):=by
  rw [← s0];exact World.ownsRow_lit (w.alloc (.cells #[.int .i64 f,.slice a n c] 150)) #[.iface 146 (.int .i64 f)] 1 (by rw [s0];omega) (by decide) rfl
 have HB:=ab (Below.next q0 q1);have HO:=ab ho;have HR:=ab hr;have HN:=ab hn;clear q0 x0 q1 s0 ho hr hn;go_enter func220,ntmps220;go_wp2;go_loopw [3,13] (fun u i wr=>∃ (k:Nat) (ua:Option Addr) (uc:Nat),k≤n∧u = .slice ua (k+1) uc∧i = .int .i64 (k:Int)∧C.bQ wr w.heap.size (.slice ua (k+1) uc) (Bz f (l.take k))∧Below w.heap.size w wr) (fun _ i _=>n - (intOf i).toNat)
 case atStart=>exact ⟨0,_,1,aC _,rfl,rfl,HO.out,HB.out⟩
 case round =>
  obtain ⟨k,ua,uc,hk,rfl,rfl,aD,bL⟩:=hrel;clear HO HB k0 k1;by_cases bX:k<n
  ·have ep:k<l.length:=by have:=HN.out;omega
   obtain ⟨g,o,ha,c1,c2⟩:=(HR.out.below bL).spot k ep;subst ha;have dO:(k:Int)<(n:Int):=by omega
   have SD:(0:Int)≤(k:Int):=by omega
   have q2:=ai wr (.cells #[.string l[k].1,.int .i64 l[k].2] 179);have x2:=B.au.new wr #[.string l[k].1,.int .i64 l[k].2] 179;have k2:=x2.c1;have TW:(Bz f (l.take k)).length=k+1:=by rw [vH,ag];omega
   have q3:=ai (wr.alloc (.cells #[.string l[k].1,.int .i64 l[k].2] 179)) (.cells #[.iface 146 (.int .i64 l[k].2)] 97);obtain ⟨a',c',w',bo,OZ,hg⟩:=C.fo w.heap.size _ _ _ [.pg l[k].2] _ ((aD.below q2).below q3) (U4 (wr.alloc (.cells #[.string l[k].1,.int .i64 l[k].2] 179)) (.pg l[k].2) 97) (by rw [TW];simp;omega) (aq bL.size (aq q2.size q3.size))
   rw [TW,← NP f l k ep] at OZ;rw [TW] at bo;rw [show k+1+([C.Ch.pg l[k].2] : List C.Ch).length=k+1+1 from rfl] at OZ bo
   have bH:=ab ((Below.next (Below.next bL q2) q3).grown hg (aq bL.size (aq q2.size q3.size)) (fun j hj=>(aD.dy j hj).1))
   have gX:=ab OZ;have s2:(wr.alloc (.cells #[.string l[k].1,.int .i64 l[k].2] 179)).heap.size=wr.heap.size+1:=by simp
   rw [s2] at bo;have pX:(Builtin.append_ #[153,153] 153 #[.slice ua (k+1) uc,.slice (some ⟨wr.heap.size+1,0,none⟩) 1 1]).run prog ((wr.alloc (.cells #[.string l[k].1,.int .i64 l[k].2] 179)).alloc (.cells #[.iface 146 (.int .i64 l[k].2)] 97)) = .ok (.slice a' (k+1+1) c') w':=bo;generalize l[k].1=y1 at *;generalize l[k].2=y2 at *;clear q2 x2 TW q3 OZ hg s2 bo aD bL;go_wp2_with (first | (at_builtin;refine wpList_append_run 153 rfl (.tmp 17) (.tmp 21) rfl rfl _ _ rfl rfl _ _ pX ?_))
   clear pX;go_wp2;go_roundw
   case rel=>exact ⟨k+1,a',c',by omega,rfl,by go_num,gX.out,bH.out⟩
   case measure=>simp [intOf];omega
  ·have oD:k=l.length:=by have:=HN.out;omega
   have cZ:l.take k=l:=ar (by omega)
   rw [cZ] at aD;have gX:=ab aD;have bH:=ab bL;have dO:¬ (k:Int)<(n:Int):=by omega
   clear aD bL cZ oD;go_wp2;go_ret;exact ⟨_,rfl,gX.out,bH.out⟩
theorem Oj(A:Nat→Addr)(kd id tx c:Value)(cn:Int)(body:ByteArray)(hc:c = .int .i64 cn)(w:World)(h0:0≤cn)(hd:B.vz cn.toNat body.data.toList)(hE:B.pT A w):Calls prog 175 #[.agg #[kd,id,tx,c,.string body]] w fun e w'=>∃ b pv lv cv,e = .returned (.tuple #[.pointer (some ⟨b,0,none⟩),.nilIface])∧dM w' b ⟨[],B.FG (bT body.data.toList cn.toNat),B.B7 (bT body.data.toList cn.toNat),Bz (B.FG (bT body.data.toList cn.toNat)) (B.B7 (bT body.data.toList cn.toNat))⟩ pv lv cv∧Below w.heap.size w w':=by
 subst hc;have q0:=ai w (.cells #[kd,id,tx,.int .i64 cn,.string body] 87);have x0:=B.au.new w #[kd,id,tx,.int .i64 cn,.string body] 87;have k3:(w.alloc (.cells #[kd,id,tx,.int .i64 cn,.string body] 87)).cell? ⟨w.heap.size,3,none⟩=some (.int .i64 cn):=x0.cell 3 (by simp)
 have k4:(w.alloc (.cells #[kd,id,tx,.int .i64 cn,.string body] 87)).cell? ⟨w.heap.size,4,none⟩=some (.string body):=x0.cell 4 (by simp)
 obtain ⟨f,hf⟩ : ∃ f,f=B.FG (bT body.data.toList cn.toNat):=⟨_,rfl⟩;obtain ⟨l,hl⟩ : ∃ l,l=B.B7 (bT body.data.toList cn.toNat):=⟨_,rfl⟩;have uJ:=B.kD hd.2.2;rw [← hf,← hl] at uJ;have mS:(∀ p ∈ l,cQ p.1)∧l.length≤3000:=by
  have:=B.rr l;exact ⟨fun p hp=>by have:=B.kJ (uJ.2.2.1 p hp);exact ⟨this.1,this.2.1⟩,by omega⟩
 have lG:Hid (Calls prog 116 #[.int .i64 cn,.string body] (w.alloc (.cells #[kd,id,tx,.int .i64 cn,.string body] 87)) fun e w'=>∃ (ua:Option Addr) (uc:Nat),e = .returned (.tuple #[.agg #[.int .i64 f,.slice ua l.length uc],.nilIface])∧B.dm w' (.slice ua l.length uc) l∧Below w.heap.size w w'):=by
  refine (B.E2 A cn body _ (hE.below q0)).mono fun e w' ⟨hv,hb⟩=>?_
  rcases hv with ⟨_,_,u,he,ho⟩ | ⟨fy,_⟩
  ·rw [← hl] at ho;rw [← hf] at he;obtain ⟨ua,uc,hu⟩:=ho.form;subst hu;exact ⟨ua,uc,he,ho.at,Below.next q0 hb⟩
  ·exact absurd ⟨h0,hd⟩ fy
 rw [← hl,← hf];obtain ⟨N,hN⟩ : ∃ N,N=l.length:=⟨_,rfl⟩;rw [← hN] at lG;have Rf:=ab mS;clear q0 x0 hl hf uJ mS hd h0 hE hN;go_enter func175,ntmps175;go_wp2_with fail;refine lG.out.mono ?_
 rintro e w1 ⟨ua,uc,rfl,hr,aN⟩;have q2:=ai w1 (.cells #[.int .i64 f,.slice ua N uc] 150);have x2:=B.au.new w1 #[.int .i64 f,.slice ua N uc] 150;have vf:=ab x2;have bH:=ab (Below.next aN q2);have oR:=ab (hr.below q2);clear q2 x2 hr aN lG k3 k4;go_wp2_with fail;generalize w1.alloc (.cells #[.int .i64 f,.slice ua N uc] 150)=W2 at *;generalize w1.heap.size=k2 at *;have k0:=vf.out.c0;have k1:=vf.out.c1;obtain ⟨M,hM⟩ : ∃ M,M=(Bz f l).length:=⟨_,rfl⟩;have Ff:Hid (Calls prog 220 #[.agg #[.int .i64 f,.slice ua N uc]] W2.drew fun e w'=>∃ (ca:Option Addr) (cc:Nat),e = .returned (.slice ca M cc)∧C.dm w' (.slice ca M cc) (Bz f l)∧Below W2.heap.size W2 w'):=by
  refine (Dt f _ l W2.drew (by have:=Rf.out.2;omega) oR.out.drew).mono fun e w' ⟨u,h1,h2,h3⟩=>?_
  obtain ⟨ca,cc,hu⟩:=h2.form;subst hu;rw [← hM] at h1 h2;exact ⟨ca,cc,h1,h2.at,B.dL h3⟩
 have HLM:Hid ((Bz f l).length≤4001):=by show _≤_;rw [vH];have:=Rf.out.2;omega
 clear hM;go_region_held3 (fun w'=>w'.cell? ⟨k2,0,none⟩=some (.int .i64 f)∧w'.cell? ⟨k2,1,none⟩=some (.slice ua N uc)) (go_keep)
  (first
   | (go_at_call 220;refine Ff.out.mono ?_;rintro e w3 ⟨ca,cc,rfl,gj,b6⟩;have Rb:=ab gj;have dH:=ab b6;have m0:=(vf.out.below b6).c0;have m1:=(vf.out.below b6).c1;clear gj b6))
 all_goals (
  have q:=ai w3 (.cells #[.slice none 0 0,.int .i64 f,.slice ua N uc,.slice ca M cc] 155);have xr:=B.au.new w3 #[.slice none 0 0,.int .i64 f,.slice ua N uc,.slice ca M cc] 155;have HR:Hid (dM (w3.alloc (.cells #[.slice none 0 0,.int .i64 f,.slice ua N uc,.slice ca M cc] 155)) w3.heap.size ⟨[],f,l,Bz f l⟩ (.slice none 0 0) (.slice ua N uc) (.slice ca M cc)):=⟨xr,gZ.nil _,(oR.out.below dH.out).below q,Rb.out.below q,(fun p hp=>by simp at hp),by simp,Rf.out.1,by have:=Rf.out.2;show l.length≤4000;omega,HLM.out⟩
  have rm:=ab (Below.next (Below.next bH.out dH.out) q);clear q xr;go_wp2;go_ret2;exact ⟨_,_,_,_,rfl,HR.out,rm.out⟩)
theorem uq(w:World):Calls prog 43 #[.int .i64 0] w fun e w'=>e = .returned .nilIface∧w=w':=by
 go_enter func43,ntmps43;go_wp2;go_ret;exact ⟨rfl,rfl⟩
theorem uv(id:Int)(w:World)(h:¬ id=0):Calls prog 43 #[.int .i64 id] w fun e w'=>e = .returned (C.Ch.pg id).val∧w=w':=by
 have h1:(id == 0)=false:=by simp [h]
 go_enter func43,ntmps43;go_wp2;go_ret;exact ⟨rfl,rfl⟩
end T
end Go.Proofs.YtihmgigfkmofnaaGreatDoor
