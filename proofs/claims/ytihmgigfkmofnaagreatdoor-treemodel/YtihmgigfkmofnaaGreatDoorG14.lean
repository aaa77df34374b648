import Derived.Test.YtihmgigfkmofnaaGreatDoorG13
import Derived.Test.YtihmgigfkmofnaaGreatDoorG09
set_option maxHeartbeats 4000000
set_option maxRecDepth 20000
open Go.Proofs.Tryz
namespace Go.Proofs.YtihmgigfkmofnaaGreatDoor
namespace B
open Go.RowKit
theorem Vj(g n:Nat)(h1:1≤n):∃ a',(1<n→a'=some ⟨g,1,none⟩)∧∀ w,(Instr.sliceAt 231 (.slice (some ⟨g,0,none⟩) n n) (some (.int .i64 1)) none none).run prog w = .ok (.slice a' (n - 1) (n - 1)) w:=by
 refine ⟨if n=1 then some ⟨g,0,none⟩ else some ⟨g,1,none⟩,fun h=>by rw [if_neg (by omega)],fun w=>?_⟩
 rw [run_sliceAt_slice (h:=underlying231),run_slice_l (ht:=underlying231) (h0:=by omega) (h1:=by omega)]
 have hz:(sizeOf (prog.elem 231)).run prog w = .ok 1 w:=by kernel_rfl
 rw [hz];simp [Result.andThen,sliced,bB]
theorem p8.four{A:Nat→Addr}{w:World}(h:p8 A w):du 4 fl A w:=h.1.JU (by decide)
theorem nE(g n:Nat)(L:List ByteArray)(w:World)(hn:n=L.length)(sO:n≤2036)(fs:∀ c ∈ L,c.size≤4072)(hc:∀ j (h:j<L.length),w.cell? ⟨g,j,none⟩=some (.string L[j])):Calls prog 155 #[.slice (some ⟨g,0,none⟩) n n] w fun e w'=>∃ (x:Int) (ua:Option Addr) (un uc:Nat),e = .returned (.tuple #[.agg #[.int .i64 x,.slice ua un uc],.bool (zl L)])∧(zl L=true→x=FL L∧b7 w' w.heap.size (.slice ua un uc) (A4 L))∧Below w.heap.size w w':=by
 have q0:=ai w (.cells #[.int .i64 0,.slice none 0 0] 150);have x0:=ax.new w #[.int .i64 0,.slice none 0 0] 150;have HQ:=ab q0;have HX:=ab x0;cases L with
 | nil =>
  subst hn;have fM:zl []=false:=rfl;have kO:=ab fM;clear q0 x0 fs hc fM;rw [List.length_nil];go_enter func155,ntmps155;go_wp2;exact bodyPost_ret (aM rfl _ _ w.heap.size 150 _ (0,0) _ rfl HX.out underlying150 rfl (by kernel_rfl)) rfl ⟨_,_,_,_,by rw [kO.out];rfl,fun h=>(by rw [kO.out] at h;cases h),HQ.out⟩
 | cons c cs =>
  have AO:n=cs.length+1:=by rw [hn];rfl
  have Hb:((n:Int) == 0)=false:=by rw [beq_eq_false_iff_ne];omega
  have c0:(w.alloc (.cells #[.int .i64 0,.slice none 0 0] 150)).cell? ⟨g,0,none⟩=some (.string c):=by
   have:=hc 0 (by simp)
   simp only [List.getElem_cons_zero] at this;exact (q0.cell (p:=⟨g,0,none⟩) (World.block_lt_of_cell? w _ this)).trans this
  have tO:∀ j (h:j<cs.length),(w.alloc (.cells #[.int .i64 0,.slice none 0 0] 150)).cell? ⟨g,1+j,none⟩=some (.string cs[j]):=fun j h=>by
   have:=hc (j+1) (by simpa using h)
   simp only [List.getElem_cons_succ] at this;rw [Nat.add_comm 1 j];exact (q0.cell (p:=⟨g,j+1,none⟩) (World.block_lt_of_cell? w _ this)).trans this
  generalize Cv:w.alloc (.cells #[.int .i64 0,.slice none 0 0] 150)=W0 at *;obtain ⟨a',ZQ,qM⟩:=Vj g n (by omega)
  have Vc:=ab (uY c W0);have HLS:Hid (∀ W,Below W0.heap.size W0 W→Calls prog 193 #[.slice a' (n - 1) (n - 1)] W fun e w'=>((cs.all uC=true∧∃ u,e = .returned (.tuple #[u,.bool true])∧b7 w' W.heap.size u (cs.map fF))∨(cs.all uC=false∧e = .returned (.tuple #[.slice none 0 0,.bool false])))∧Below W.heap.size W w'):=fun W h =>
   DV g 1 (n - 1) (n - 1) cs W (by omega) (by omega) (fun d hd=>fs d (dU _ hd)) (fun j hj=>(h.cell (p:=⟨g,1+j,none⟩) (World.block_lt_of_cell? W0 _ (tO j hj))).trans (tO j hj)) a' (fun h=>ZQ (by omega))
  have n1:(1:Int)≤(n:Int):=by omega
  have sI:Hid (zl (c::cs)=(decide (c.size=4) && cs.all uC)):=by show _=_;rfl
  have HF:Hid (c.size=4→zo c=FL (c::cs)):=fun h=>by unfold zo FL;rw [if_pos h]
  have HL:Hid (A4 (c::cs)=cs.map fF):=by show _=_;simp [A4]
  obtain ⟨kc,FI⟩ : ∃ kc,kc=zo c:=⟨_,rfl⟩;rw [← FI] at Vc HF;generalize n - 1=nm at *;have Cc:=ab HX.out;clear hn AO hc fs tO ZQ FI x0 q0;go_enter func155,ntmps155;go_wp2_with fail;refine Vc.out.mono ?_
  rintro e w1 ⟨rfl,aP⟩;have bQ:=ab aP;have aaF:=ab (HLS.out _ aP);clear aP Vc HLS c0;go_wp2_with fail;refine aaF.out.mono ?_
  rintro e w2 ⟨hv,aO⟩;have hx:=HX.out.below (Below.next bQ.out aO);have r0:=hx.c0;have r1:=hx.c1;have z0:=hx.free 0;have z1:=hx.free 1;have JE:=ab hx;have bJ:=ab (Below.next HQ.out (Below.next bQ.out aO));have ji:Hid (w.heap.size<w1.heap.size∧w.heap.size≤w1.heap.size):=by
   have h1:=HX.out.lt;have h2:=bQ.out.size;exact ⟨by omega,by omega⟩
  clear aO hx aaF qM;rcases hv with ⟨dj,u,rfl,ho⟩ | ⟨dj,rfl⟩
  ·obtain ⟨ua,uc,hu⟩:=ho.form;subst hu;rw [dj] at sI;have HO:=ab ho;generalize (cs.map fF).length=un at *;clear ho dj;cases h4:decide (c.size=4) with
   | true =>
    rw [h4] at sI;have H4:=ab (of_decide_eq_true h4);clear h4;go_wp2_with fail;refine bodyPost_ret (aM rfl _ _ w.heap.size 150 _ (0,0) _ rfl (JE.out.two _ _) underlying150 rfl (by kernel_rfl)) rfl ⟨kc,ua,un,uc,by rw [sI.out];rfl,fun _=>⟨HF.out H4.out,?_⟩,bY bJ.out (aj _)⟩
    rw [HL.out];exact (HO.out.tm ji.out.1 _ _).mono ji.out.2
   | false =>
    rw [h4] at sI;clear h4;go_wp2_with fail;exact bodyPost_ret (aM rfl _ _ w.heap.size 150 _ (0,0) _ rfl (JE.out.two _ _) underlying150 rfl (by kernel_rfl)) rfl ⟨kc,ua,un,uc,by rw [sI.out];rfl,fun h=>(by rw [sI.out] at h;cases h),bY bJ.out (aj _)⟩
  ·rw [dj,Bool.and_false] at sI;clear dj;cases h4:decide (c.size=4) with
   | true =>
    clear h4;go_wp2_with fail;exact bodyPost_ret (aM rfl _ _ w.heap.size 150 _ (0,0) _ rfl (JE.out.two _ _) underlying150 rfl (by kernel_rfl)) rfl ⟨kc,none,0,0,by rw [sI.out];rfl,fun h=>(by rw [sI.out] at h;cases h),bY bJ.out (aj _)⟩
   | false =>
    clear h4;go_wp2_with fail;exact bodyPost_ret (aM rfl _ _ w.heap.size 150 _ (0,0) _ rfl (JE.out.two _ _) underlying150 rfl (by kernel_rfl)) rfl ⟨kc,none,0,0,by rw [sI.out];rfl,fun h=>(by rw [sI.out] at h;cases h),bY bJ.out (aj _)⟩
def aa6(A:Nat→Addr)(c:Int)(s:ByteArray)(base:Nat)(e:Ending)(w:World):Prop :=
 (0≤c∧vE c.toNat s.data.toList∧∃ u,e = .returned (.tuple #[.agg #[.int .i64 (FL (b8 s.data.toList c.toNat)),u],.nilIface])∧b7 w base u (A4 (b8 s.data.toList c.toNat))) ∨
  (¬ (0≤c∧vE c.toNat s.data.toList)∧e = .returned (.tuple #[.agg #[.int .i64 0,.slice none 0 0],.iface 360 (.pointer (some (A 1)))]))
theorem uZ{b:List UInt8}{n:Nat}(h:Mu b n):∀ x ∈ b8 b n,x.size≤4072:=fun x hx=>by
 obtain ⟨i,hi,rfl⟩:=aQ hx;rw [← bsize,nD b n i hi];unfold yw;rw [ag,ao];have:=h.1.2;omega
theorem Fa(A:Nat→Addr)(c:Int)(s:ByteArray)(w:World)(hE:p8 A w):Calls prog 116 #[.int .i64 c,.string s] w fun e w'=>aa6 A c s w.heap.size e w'∧Below w.heap.size w w':=by
 have q0:=ai w (.cells #[.int .i64 0,.slice none 0 0] 150);have x0:=ax.new w #[.int .i64 0,.slice none 0 0] 150;have hE0:=hE.below q0;have xZ:1<w.heap.size:=World.block_lt_of_cell? w _ ((hE.1.1 1 (by decide)).1)
 have xT:(w.alloc (.cells #[.int .i64 0,.slice none 0 0] 150)).heap.size=w.heap.size+1:=by simp
 generalize Cv:w.alloc (.cells #[.int .i64 0,.slice none 0 0] 150)=W0 at *;have Mw:=ab (mm A c s W0 hE0.four);have HE:=ab hE0;have HX:=ab x0;have HQ:=ab q0;have HS0:=ab xT;have b1:¬ 1=w.heap.size:=by omega
 have b2:¬ w.heap.size=1:=by omega
 have HG:Hid (∀ W,Below W0.heap.size W0 W→W.cell? ⟨1,0,none⟩=some (.iface 360 (.pointer (some (A 1))))):=fun W h=>((HE.out.below h).1.1 1 (by decide)).1
 clear hE hE0 q0 x0 xZ xT;go_enter func116,ntmps116;go_wp2_with fail;refine Mw.out.mono ?_
 rintro e w1 ⟨hv,aP⟩;have bQ:=ab aP;clear aP Mw;rcases hv with ⟨yh,Ep,g,rfl,aE⟩ | ⟨fM,rfl⟩
 ·obtain ⟨n,hn⟩ : ∃ n,n=c.toNat:=⟨_,rfl⟩;have HC0:=ab yh;have aav:=ab Ep;have WM:=ab hn;rw [← hn] at Ep aE ⊢;obtain ⟨L,hL⟩ : ∃ L,L=b8 s.data.toList n:=⟨_,rfl⟩;have Lp:n=L.length:=by rw [hL,fY]
  have XD:∀ x ∈ L,x.size≤4072:=by rw [hL];exact uZ Ep
  rw [← hL] at aE;have sO:n≤2036:=Ep.1.1;have aX:∀ j (h:j<L.length),w1.cell? ⟨g,j,none⟩=some (.string L[j]):=fun j h=>by
   rw [World.ownsRow.cellAt aE j (by omega)]
   exact CX L j h
  have XU:=ab (nE g n L w1 Lp sO XD aX);have HL:=ab hL;have Ft:=ab Lp;clear Ep aE aX Lp XD hL hn yh;go_wp2_with fail;refine XU.out.mono ?_
  rintro e w2 ⟨x,ua,un,uc,rfl,UM,aO⟩;have q2:=ai w2 (.cells #[.int .i64 x,.slice ua un uc] 150);have x2:=ax.new w2 #[.int .i64 x,.slice ua un uc] 150;have bJ:=ab (Below.next bQ.out (Below.next aO q2));have WD:=ab bQ.out.size;have hx:=HX.out.below bJ.out;have r0:=hx.c0;have r1:=hx.c1;have z0:=hx.free 0;have z1:=hx.free 1;have JE:=ab hx;have cg:=HG.out _ bJ.out;have t0:=x2.c0;have t1:=x2.c1;cases sg:zl L with
  | false =>
   have kO:Hid (¬ (0≤c∧vE c.toNat s.data.toList)):=fun h=>by
    have:=h.2.2.1;rw [← WM.out,← HL.out,sg] at this;cases this
   clear UM aO q2 x2 sg hx XU;go_wp2_with fail;generalize w2.alloc (.cells #[.int .i64 x,.slice ua un uc] 150)=W2 at *;go_region_held3 (fun w'=>w'.cell? ⟨1,0,none⟩=some (.iface 360 (.pointer (some (A 1))))) (go_keep) (fail)
   all_goals
    clear r0 r1 z0 z1 cg t0 t1;go_wp2_with fail;exact bodyPost_ret (aM rfl _ _ w.heap.size 150 _ (0,0) _ rfl (JE.out.two _ _).drew underlying150 rfl (by kernel_rfl)) rfl ⟨.inr ⟨kO.out,rfl⟩,aN (bY (Below.next HQ.out bJ.out) (aj _))⟩
  | true =>
   obtain ⟨hxf,ho⟩:=UM sg;obtain ⟨l,hl⟩ : ∃ l,l=A4 L:=⟨_,rfl⟩;rw [← hl] at ho;have Yt:un=l.length:=by
    obtain ⟨_,_,he⟩:=ho.form;cases he;rfl
   have Zg:l.length≤2036:=by rw [hl];simp only [A4,aA,ao];have:=Ft.out;omega
   have YU:UX l:=fun p hp=>by
    rw [hl] at hp;simp only [A4,List.mem_map] at hp;obtain ⟨d,hd,rfl⟩:=hp;have hds:d.size≤4072:=by
     have:d ∈ b8 s.data.toList n:=by rw [← HL.out];exact bI hd
     have Ep:=aav.out;rw [← WM.out] at Ep;exact uZ Ep d this
    simp only [fF,ByteArray.size_extract];omega
   have HO:=ab (ho.below q2);have od:=ab (yA A x _ l true _ YU (by omega) (ho.below q2).at (HE.out.below bJ.out))
   have iq:=ab hl;have HXF:=ab hxf;have sI:=ab sg;have nQ:=ab x2;have aiQ:=ab (al WD.out aO.size);clear UM aO q2 x2 sg hx XU ho hxf hl Yt Zg YU;go_wp2_with fail;generalize w2.alloc (.cells #[.int .i64 x,.slice ua un uc] 150)=W2 at *;refine od.out.mono ?_
   rintro e w3 ⟨rfl,bF⟩;have hx:=JE.out.below bF;have rf:=ab hx;have dD:=ab (Below.next bJ.out bF);have vC:=ab (HO.out.below bF);have vR:=nQ.out.below bF;clear bF od r0 r1 z0 z1 t0 t1 cg;have r0:=hx.c0;have r1:=hx.c1;have z0:=hx.free 0;have z1:=hx.free 1;have t0:=vR.c0;have t1:=vR.c1;have cg:=HG.out _ dD.out;clear hx vR;cases lJ:nB x l true with
   | some k =>
    have kO:Hid (¬ (0≤c∧vE c.toNat s.data.toList)):=fun h=>by
     have:=h.2.2.2;rw [← WM.out,← HL.out,← iq.out,← HXF.out,lJ] at this;cases this
    have Er:=fun W=>ff (some (A k)) W
    clear lJ;unfold iz;go_wp2_with fail;go_region_held3 (fun w'=>w'.cell? ⟨1,0,none⟩=some (.iface 360 (.pointer (some (A 1))))) (go_keep) (fail)
    all_goals
     clear r0 r1 z0 z1 cg t0 t1;go_wp2_with fail;exact bodyPost_ret (aM rfl _ _ w.heap.size 150 _ (0,0) _ rfl (rf.out.two _ _).drew underlying150 rfl (by kernel_rfl)) rfl ⟨.inr ⟨kO.out,rfl⟩,aN (bY (Below.next HQ.out dD.out) (aj _))⟩
   | none =>
    have adx:Hid (vE c.toNat s.data.toList):=by
     refine ⟨aav.out,?_,?_⟩
     ·rw [← WM.out,← HL.out];exact sI.out
     ·rw [← WM.out,← HL.out,← iq.out,← HXF.out];exact lJ
    clear lJ;unfold iz;go_wp2_with fail;refine bodyPost_ret (aM rfl _ _ w.heap.size 150 _ (0,0) _ rfl (rf.out.two _ _) underlying150 rfl (by kernel_rfl)) rfl ⟨.inl ⟨HC0.out,adx.out,.slice ua un uc,?_,?_⟩,bY (Below.next HQ.out dD.out) (aj _)⟩
    ·rw [← WM.out,← HL.out,← HXF.out];rfl
    ·rw [← WM.out,← HL.out,← iq.out];exact (vC.out.tm (by have:=WD.out;have:=HS0.out;omega) _ _).mono (by have:=WD.out;have:=HS0.out;omega)
 ·have kO:Hid (¬ (0≤c∧vE c.toNat s.data.toList)):=fun h=>fM ⟨h.1,h.2.1⟩
  have hx:=HX.out.below bQ.out;have r0:=hx.c0;have r1:=hx.c1;have z0:=hx.free 0;have z1:=hx.free 1;have JE:=ab hx;have cg:=HG.out _ bQ.out;have Er:=fun W=>ff (some (A 1)) W
  clear fM hx;go_wp2_with fail;go_region_held3 (fun w'=>w'.cell? ⟨1,0,none⟩=some (.iface 360 (.pointer (some (A 1))))) (go_keep) (fail)
  all_goals
   clear r0 r1 z0 z1 cg;go_wp2_with fail;exact bodyPost_ret (aM rfl _ _ w.heap.size 150 _ (0,0) _ rfl (JE.out.two _ _).drew underlying150 rfl (by kernel_rfl)) rfl ⟨.inr ⟨kO.out,rfl⟩,aN (bY (Below.next HQ.out bQ.out) (aj _))⟩
end B
namespace T
open Go.RowKit
theorem OG(A:Nat→Addr)(kd id tx c:Value)(cn:Int)(body:ByteArray)(hc:c = .int .i64 cn)(w:World)(h0:0≤cn)(hd:mT cn.toNat body.data.toList)(hE:j7 A w):Calls prog 174 #[.agg #[kd,id,tx,c,.string body]] w fun e w'=>∃ b pv lv cv,e = .returned (.tuple #[.pointer (some ⟨b,0,none⟩),.nilIface])∧dG w' b ⟨BY cn.toNat body.data.toList,0,[],[]⟩ pv lv cv∧Below w.heap.size w w':=by
 subst hc;have q0:=ai w (.cells #[kd,id,tx,.int .i64 cn,.string body] 87);have x0:=B.ax.new w #[kd,id,tx,.int .i64 cn,.string body] 87;have k3:(w.alloc (.cells #[kd,id,tx,.int .i64 cn,.string body] 87)).cell? ⟨w.heap.size,3,none⟩=some (.int .i64 cn):=x0.cell 3 (by simp)
 have k4:(w.alloc (.cells #[kd,id,tx,.int .i64 cn,.string body] 87)).cell? ⟨w.heap.size,4,none⟩=some (.string body):=x0.cell 4 (by simp)
 obtain ⟨l,hl⟩ : ∃ l,l=BY cn.toNat body.data.toList:=⟨_,rfl⟩;have yg:=oU hd.2.2;have ny:(∀ p ∈ l,cP p=true)∧l.length≤4000:=by
  have e:(b8 body.data.toList cn.toNat).map dx=l:=by rw [hl];rfl
  rw [e] at yg;have:=iM l;exact ⟨yg.1,by omega⟩
 have mf:Hid (Calls prog 114 #[.int .i64 cn,.string body] (w.alloc (.cells #[kd,id,tx,.int .i64 cn,.string body] 87)) fun e w'=>∃ (ua:Option Addr) (uc:Nat),e = .returned (.tuple #[.slice ua l.length uc,.nilIface])∧gK w' (.slice ua l.length uc) l∧Below w.heap.size w w'):=by
  refine (DY A cn body _ (hE.below q0)).mono fun e w' ⟨hv,hb⟩=>?_
  rcases hv with ⟨_,_,u,he,ho⟩ | ⟨fM,_⟩
  ·rw [← hl] at ho;obtain ⟨ua,uc,hu⟩:=ho.form;subst hu;exact ⟨ua,uc,he,ho.at,Below.next q0 hb⟩
  ·exact absurd ⟨h0,hd⟩ fM
 rw [← hl];obtain ⟨N,hN⟩ : ∃ N,N=l.length:=⟨_,rfl⟩;rw [← hN] at mf;have RK:=ab ny;clear q0 x0 hl yg ny hd h0 hE hN;go_enter func174,ntmps174;go_wp2_with fail;refine mf.out.mono ?_
 rintro e w1 ⟨ua,uc,rfl,hr,aP⟩;have q:=ai w1 (.cells #[.slice ua N uc,.int .i64 0,.slice none 0 0,.slice none 0 0] 155);have xr:=B.ax.new w1 #[.slice ua N uc,.int .i64 0,.slice none 0 0,.slice none 0 0] 155;have HR:Hid (dG (w1.alloc (.cells #[.slice ua N uc,.int .i64 0,.slice none 0 0,.slice none 0 0] 155)) w1.heap.size ⟨l,0,[],[]⟩ (.slice ua N uc) (.slice none 0 0) (.slice none 0 0)):=⟨xr,hr.below q,B.cV.nil _,(C.b7.nil _ 0).at,RK.out.1,RK.out.2,(fun p hp=>by simp at hp),by simp,by simp⟩
 have nc:=ab (Below.next aP q);clear q xr hr aP mf k3 k4;go_wp2;go_ret2;exact ⟨_,_,_,_,rfl,HR.out,nc.out⟩
def zj(f:Int)(l:List B.Lk):List C.Ch:=.pg f::l.map (fun p=>.pg p.2)
theorem pA(f:Int)(l:List B.Lk):(zj f l).length=l.length+1:=by simp [zj]
theorem N9(f:Int)(l:List B.Lk)(k:Nat)(h:k<l.length):zj f (l.take (k+1))=zj f (l.take k)++[.pg l[k].2]:=by
 unfold zj;rw [az h,bn];rfl
theorem Vy(w:World)(p:C.Ch)(t:TypeId):C.cV (w.alloc (.cells #[p.val] t)) (.slice (some ⟨w.heap.size,0,none⟩) 1 1) [p] :=
 ⟨_,1,rfl,aj _,fun h=>by simp at h,fun j x hj=>by
  have l6:j<1:=(List.getElem?_eq_some_iff.1 hj).1;have Lg:j=0:=by omega
  subst Lg;cases hj;exact ⟨_,_,rfl,(bN w #[p.val] t).2 0 (by simp)⟩⟩
theorem Dw(f:Int)(v:Value)(l:List B.Lk)(w:World)(hm:l.length≤4000)(hr:B.cV w v l):Calls prog 220 #[.agg #[.int .i64 f,v]] w fun e w'=>∃ u,e = .returned u∧C.b7 w' w.heap.size u (zj f l)∧Below w.heap.size w w':=by
 obtain ⟨a,c,hv⟩:=hr.form;subst hv;obtain ⟨n,hn⟩ : ∃ n,n=l.length:=⟨_,rfl⟩;rw [← hn] at hr ⊢;have q0:=ai w (.cells #[.int .i64 f,.slice a n c] 150);have x0:=B.ax.new w #[.int .i64 f,.slice a n c] 150;have q1:=ai (w.alloc (.cells #[.int .i64 f,.slice a n c] 150)) (.cells #[.iface 146 (.int .i64 f)] 97);have k0:=x0.c0;have k1:=(x0.below q1).c1;have s0:(w.alloc (.cells #[.int .i64 f,.slice a n c] 150)).heap.size=w.heap.size+1:=by simp
 have ho:C.b7 ((w.alloc (.cells #[.int .i64 f,.slice a n c] 150)).alloc (.cells #[.iface 146 (.int .i64 f)] 97)) w.heap.size (.slice (some ⟨w.heap.size+1,0,none⟩) 1 1) (zj f (l.take 0)):=by
  rw [← s0];exact World.ownsRow_lit (w.alloc (.cells #[.int .i64 f,.slice a n c] 150)) #[.iface 146 (.int .i64 f)] 1 (by rw [s0];omega) (by decide) rfl
 have HB:=ab (Below.next q0 q1);have HO:=ab ho;have HR:=ab hr;have HN:=ab hn;clear q0 x0 q1 s0 ho hr hn;go_enter func220,ntmps220;go_wp2;go_loopw [3,13] (fun u i wr=>∃ (k:Nat) (ua:Option Addr) (uc:Nat),k≤n∧u = .slice ua (k+1) uc∧i = .int .i64 (k:Int)∧C.b7 wr w.heap.size (.slice ua (k+1) uc) (zj f (l.take k))∧Below w.heap.size w wr) (fun _ i _=>n - (intOf i).toNat)
 case atStart=>exact ⟨0,_,1,aD _,rfl,rfl,HO.out,HB.out⟩
 case round =>
  obtain ⟨k,ua,uc,hk,rfl,rfl,aE,bO⟩:=hrel;clear HO HB k0 k1;by_cases bP:k<n
  ·have dm:k<l.length:=by have:=HN.out;omega
   obtain ⟨g,o,ha,c1,c2⟩:=(HR.out.below bO).spot k dm;subst ha;have dS:(k:Int)<(n:Int):=by omega
   have Rs:(0:Int)≤(k:Int):=by omega
   have q2:=ai wr (.cells #[.string l[k].1,.int .i64 l[k].2] 179);have x2:=B.ax.new wr #[.string l[k].1,.int .i64 l[k].2] 179;have k2:=x2.c1;have Up:(zj f (l.take k)).length=k+1:=by rw [pA,ag];omega
   have q3:=ai (wr.alloc (.cells #[.string l[k].1,.int .i64 l[k].2] 179)) (.cells #[.iface 146 (.int .i64 l[k].2)] 97);obtain ⟨a',c',w',bg,G2,hg⟩:=C.fo w.heap.size _ _ _ [.pg l[k].2] _ ((aE.below q2).below q3) (Vy (wr.alloc (.cells #[.string l[k].1,.int .i64 l[k].2] 179)) (.pg l[k].2) 97) (by rw [Up];simp;omega) (al bO.size (al q2.size q3.size))
   rw [Up,← N9 f l k dm] at G2;rw [Up] at bg;rw [show k+1+([C.Ch.pg l[k].2] : List C.Ch).length=k+1+1 from rfl] at G2 bg
   have bJ:=ab ((Below.next (Below.next bO q2) q3).grown hg (al bO.size (al q2.size q3.size)) (fun j hj=>(aE.dn j hj).1))
   have im:=ab G2;have s2:(wr.alloc (.cells #[.string l[k].1,.int .i64 l[k].2] 179)).heap.size=wr.heap.size+1:=by simp
   rw [s2] at bg;have lS:(Builtin.append_ #[153,153] 153 #[.slice ua (k+1) uc,.slice (some ⟨wr.heap.size+1,0,none⟩) 1 1]).run prog ((wr.alloc (.cells #[.string l[k].1,.int .i64 l[k].2] 179)).alloc (.cells #[.iface 146 (.int .i64 l[k].2)] 97)) = .ok (.slice a' (k+1+1) c') w':=bg;generalize l[k].1=y1 at *;generalize l[k].2=y2 at *;clear q2 x2 Up q3 G2 hg s2 bg aE bO;go_wp2_with (first | (at_builtin;refine wpList_append_run 153 rfl (.tmp 17) (.tmp 21) rfl rfl _ _ rfl rfl _ _ lS ?_))
   clear lS;go_wp2;go_roundw
   case rel=>exact ⟨k+1,a',c',by omega,rfl,by go_num,im.out,bJ.out⟩
   case measure=>simp [intOf];omega
  ·have n9:k=l.length:=by have:=HN.out;omega
   have dj:l.take k=l:=aq (by omega)
   rw [dj] at aE;have im:=ab aE;have bJ:=ab bO;have dS:¬ (k:Int)<(n:Int):=by omega
   clear aE bO dj n9;go_wp2;go_ret;exact ⟨_,rfl,im.out,bJ.out⟩
theorem OH(A:Nat→Addr)(kd id tx c:Value)(cn:Int)(body:ByteArray)(hc:c = .int .i64 cn)(w:World)(h0:0≤cn)(hd:B.vE cn.toNat body.data.toList)(hE:B.p8 A w):Calls prog 175 #[.agg #[kd,id,tx,c,.string body]] w fun e w'=>∃ b pv lv cv,e = .returned (.tuple #[.pointer (some ⟨b,0,none⟩),.nilIface])∧dG w' b ⟨[],B.FL (b8 body.data.toList cn.toNat),B.A4 (b8 body.data.toList cn.toNat),zj (B.FL (b8 body.data.toList cn.toNat)) (B.A4 (b8 body.data.toList cn.toNat))⟩ pv lv cv∧Below w.heap.size w w':=by
 subst hc;have q0:=ai w (.cells #[kd,id,tx,.int .i64 cn,.string body] 87);have x0:=B.ax.new w #[kd,id,tx,.int .i64 cn,.string body] 87;have k3:(w.alloc (.cells #[kd,id,tx,.int .i64 cn,.string body] 87)).cell? ⟨w.heap.size,3,none⟩=some (.int .i64 cn):=x0.cell 3 (by simp)
 have k4:(w.alloc (.cells #[kd,id,tx,.int .i64 cn,.string body] 87)).cell? ⟨w.heap.size,4,none⟩=some (.string body):=x0.cell 4 (by simp)
 obtain ⟨f,hf⟩ : ∃ f,f=B.FL (b8 body.data.toList cn.toNat):=⟨_,rfl⟩;obtain ⟨l,hl⟩ : ∃ l,l=B.A4 (b8 body.data.toList cn.toNat):=⟨_,rfl⟩;have yg:=B.jV hd.2.2;rw [← hf,← hl] at yg;have ny:(∀ p ∈ l,cW p.1)∧l.length≤3000:=by
  have:=B.rz l;exact ⟨fun p hp=>by have:=B.lA (yg.2.2.1 p hp);exact ⟨this.1,this.2.1⟩,by omega⟩
 have mf:Hid (Calls prog 116 #[.int .i64 cn,.string body] (w.alloc (.cells #[kd,id,tx,.int .i64 cn,.string body] 87)) fun e w'=>∃ (ua:Option Addr) (uc:Nat),e = .returned (.tuple #[.agg #[.int .i64 f,.slice ua l.length uc],.nilIface])∧B.cV w' (.slice ua l.length uc) l∧Below w.heap.size w w'):=by
  refine (B.Fa A cn body _ (hE.below q0)).mono fun e w' ⟨hv,hb⟩=>?_
  rcases hv with ⟨_,_,u,he,ho⟩ | ⟨fM,_⟩
  ·rw [← hl] at ho;rw [← hf] at he;obtain ⟨ua,uc,hu⟩:=ho.form;subst hu;exact ⟨ua,uc,he,ho.at,Below.next q0 hb⟩
  ·exact absurd ⟨h0,hd⟩ fM
 rw [← hl,← hf];obtain ⟨N,hN⟩ : ∃ N,N=l.length:=⟨_,rfl⟩;rw [← hN] at mf;have RK:=ab ny;clear q0 x0 hl hf yg ny hd h0 hE hN;go_enter func175,ntmps175;go_wp2_with fail;refine mf.out.mono ?_
 rintro e w1 ⟨ua,uc,rfl,hr,aP⟩;have q2:=ai w1 (.cells #[.int .i64 f,.slice ua N uc] 150);have x2:=B.ax.new w1 #[.int .i64 f,.slice ua N uc] 150;have nQ:=ab x2;have bJ:=ab (Below.next aP q2);have o7:=ab (hr.below q2);clear q2 x2 hr aP mf k3 k4;go_wp2_with fail;generalize w1.alloc (.cells #[.int .i64 f,.slice ua N uc] 150)=W2 at *;generalize w1.heap.size=k2 at *;have k0:=nQ.out.c0;have k1:=nQ.out.c1;obtain ⟨M,hM⟩ : ∃ M,M=(zj f l).length:=⟨_,rfl⟩;have Fq:Hid (Calls prog 220 #[.agg #[.int .i64 f,.slice ua N uc]] W2.drew fun e w'=>∃ (ca:Option Addr) (cc:Nat),e = .returned (.slice ca M cc)∧C.cV w' (.slice ca M cc) (zj f l)∧Below W2.heap.size W2 w'):=by
  refine (Dw f _ l W2.drew (by have:=RK.out.2;omega) o7.out.drew).mono fun e w' ⟨u,h1,h2,h3⟩=>?_
  obtain ⟨ca,cc,hu⟩:=h2.form;subst hu;rw [← hM] at h1 h2;exact ⟨ca,cc,h1,h2.at,B.dw h3⟩
 have WS:Hid ((zj f l).length≤4001):=by show _≤_;rw [pA];have:=RK.out.2;omega
 clear hM;go_region_held3 (fun w'=>w'.cell? ⟨k2,0,none⟩=some (.int .i64 f)∧w'.cell? ⟨k2,1,none⟩=some (.slice ua N uc)) (go_keep)
  (first
   | (go_at_call 220;refine Fq.out.mono ?_;rintro e w3 ⟨ca,cc,rfl,gj,bF⟩;have RG:=ab gj;have dD:=ab bF;have m0:=(nQ.out.below bF).c0;have m1:=(nQ.out.below bF).c1;clear gj bF))
 all_goals (
  have q:=ai w3 (.cells #[.slice none 0 0,.int .i64 f,.slice ua N uc,.slice ca M cc] 155);have xr:=B.ax.new w3 #[.slice none 0 0,.int .i64 f,.slice ua N uc,.slice ca M cc] 155;have HR:Hid (dG (w3.alloc (.cells #[.slice none 0 0,.int .i64 f,.slice ua N uc,.slice ca M cc] 155)) w3.heap.size ⟨[],f,l,zj f l⟩ (.slice none 0 0) (.slice ua N uc) (.slice ca M cc)):=⟨xr,gK.nil _,(o7.out.below dD.out).below q,RG.out.below q,(fun p hp=>by simp at hp),by simp,RK.out.1,by have:=RK.out.2;show l.length≤4000;omega,WS.out⟩
  have nc:=ab (Below.next (Below.next bJ.out dD.out) q);clear q xr;go_wp2;go_ret2;exact ⟨_,_,_,_,rfl,HR.out,nc.out⟩)
theorem oA(w:World):Calls prog 43 #[.int .i64 0] w fun e w'=>e = .returned .nilIface∧w=w':=by
 go_enter func43,ntmps43;go_wp2;go_ret;exact ⟨rfl,rfl⟩
theorem oB(id:Int)(w:World)(h:¬ id=0):Calls prog 43 #[.int .i64 id] w fun e w'=>e = .returned (C.Ch.pg id).val∧w=w':=by
 have h1:(id == 0)=false:=by simp [h]
 go_enter func43,ntmps43;go_wp2;go_ret;exact ⟨rfl,rfl⟩
end T
end Go.Proofs.YtihmgigfkmofnaaGreatDoor
