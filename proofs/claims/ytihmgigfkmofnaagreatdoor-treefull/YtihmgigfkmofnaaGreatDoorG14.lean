import Derived.Test.YtihmgigfkmofnaaGreatDoorG13
import Derived.Test.YtihmgigfkmofnaaGreatDoorG09
set_option maxHeartbeats 4000000
set_option maxRecDepth 20000
open Go.Proofs.Tryz
namespace Go.Proofs.YtihmgigfkmofnaaGreatDoor
namespace B
open Go.RowKit
theorem VR(g n:Nat)(h1:1≤n):∃ a',(1<n→a'=some ⟨g,1,none⟩)∧∀ w,(Instr.sliceAt 231 (.slice (some ⟨g,0,none⟩) n n) (some (.int .i64 1)) none none).run prog w = .ok (.slice a' (n - 1) (n - 1)) w:=by
 refine ⟨if n=1 then some ⟨g,0,none⟩ else some ⟨g,1,none⟩,fun h=>by rw [if_neg (by omega)],fun w=>?_⟩
 rw [run_sliceAt_slice (h:=underlying231),run_slice_l (ht:=underlying231) (h0:=by omega) (h1:=by omega)]
 have hz:(sizeOf (prog.elem 231)).run prog w = .ok 1 w:=by kernel_rfl
 rw [hz];simp [Result.andThen,sliced,bt]
theorem pU.four{A:Nat→Addr}{w:World}(h:pU A w):dy 4 eV A w:=h.1.J2 (by decide)
theorem nE(g n:Nat)(L:List ByteArray)(w:World)(hn:n=L.length)(rP:n≤2036)(fI:∀ c ∈ L,c.size≤4072)(hc:∀ j (h:j<L.length),w.cell? ⟨g,j,none⟩=some (.string L[j])):Calls prog 155 #[.slice (some ⟨g,0,none⟩) n n] w fun e w'=>∃ (x:Int) (ua:Option Addr) (un uc:Nat),e = .returned (.tuple #[.agg #[.int .i64 x,.slice ua un uc],.bool (zm L)])∧(zm L=true→x=FN L∧b7 w' w.heap.size (.slice ua un uc) (B6 L))∧Below w.heap.size w w':=by
 have q0:=ai w (.cells #[.int .i64 0,.slice none 0 0] 150);have x0:=au.new w #[.int .i64 0,.slice none 0 0] 150;have HQ:=ab q0;have HX:=ab x0;cases L with
 | nil =>
  subst hn;have fQ:zm []=false:=rfl;have kL:=ab fQ;clear q0 x0 fI hc fQ;rw [List.length_nil];go_enter func155,ntmps155;go_wp2;exact bodyPost_ret (aN rfl _ _ w.heap.size 150 _ (0,0) _ rfl HX.out underlying150 rfl (by kernel_rfl)) rfl ⟨_,_,_,_,by rw [kL.out];rfl,fun h=>(by rw [kL.out] at h;cases h),HQ.out⟩
 | cons c cs =>
  have vj:n=cs.length+1:=by rw [hn];rfl
  have Hd:((n:Int) == 0)=false:=by rw [beq_eq_false_iff_ne];omega
  have c0:(w.alloc (.cells #[.int .i64 0,.slice none 0 0] 150)).cell? ⟨g,0,none⟩=some (.string c):=by
   have:=hc 0 (by simp)
   simp only [List.getElem_cons_zero] at this;exact (q0.cell (p:=⟨g,0,none⟩) (World.block_lt_of_cell? w _ this)).trans this
  have tq:∀ j (h:j<cs.length),(w.alloc (.cells #[.int .i64 0,.slice none 0 0] 150)).cell? ⟨g,1+j,none⟩=some (.string cs[j]):=fun j h=>by
   have:=hc (j+1) (by simpa using h)
   simp only [List.getElem_cons_succ] at this;rw [Nat.add_comm 1 j];exact (q0.cell (p:=⟨g,j+1,none⟩) (World.block_lt_of_cell? w _ this)).trans this
  generalize Cw:w.alloc (.cells #[.int .i64 0,.slice none 0 0] 150)=W0 at *;obtain ⟨a',ha',pZ⟩:=VR g n (by omega)
  have VM:=ab (uO c W0);have HLS:Hid (∀ W,Below W0.heap.size W0 W→Calls prog 193 #[.slice a' (n - 1) (n - 1)] W fun e w'=>((cs.all ui=true∧∃ u,e = .returned (.tuple #[u,.bool true])∧b7 w' W.heap.size u (cs.map fG))∨(cs.all ui=false∧e = .returned (.tuple #[.slice none 0 0,.bool false])))∧Below W.heap.size W w'):=fun W h =>
   DV g 1 (n - 1) (n - 1) cs W (by omega) (by omega) (fun d hd=>fI d (dY _ hd)) (fun j hj=>(h.cell (p:=⟨g,1+j,none⟩) (World.block_lt_of_cell? W0 _ (tq j hj))).trans (tq j hj)) a' (fun h=>ha' (by omega))
  have n1:(1:Int)≤(n:Int):=by omega
  have zM:Hid (zm (c::cs)=(decide (c.size=4) && cs.all ui)):=by show _=_;rfl
  have HF:Hid (c.size=4→zp c=FN (c::cs)):=fun h=>by unfold zp FN;rw [if_pos h]
  have HL:Hid (B6 (c::cs)=cs.map fG):=by show _=_;simp [B6]
  obtain ⟨kc,FJ⟩ : ∃ kc,kc=zp c:=⟨_,rfl⟩;rw [← FJ] at VM HF;generalize n - 1=nm at *;have Ie:=ab HX.out;clear hn vj hc fI tq ha' FJ x0 q0;go_enter func155,ntmps155;go_wp2_with fail;refine VM.out.mono ?_
  rintro e w1 ⟨rfl,aM⟩;have bN:=ab aM;have abm:=ab (HLS.out _ aM);clear aM VM HLS c0;go_wp2_with fail;refine abm.out.mono ?_
  rintro e w2 ⟨hv,aS⟩;have hx:=HX.out.below (Below.next bN.out aS);have r0:=hx.c0;have r1:=hx.c1;have z0:=hx.free 0;have z1:=hx.free 1;have JM:=ab hx;have bG:=ab (Below.next HQ.out (Below.next bN.out aS));have jb:Hid (w.heap.size<w1.heap.size∧w.heap.size≤w1.heap.size):=by
   have h1:=HX.out.lt;have h2:=bN.out.size;exact ⟨by omega,by omega⟩
  clear aS hx abm pZ;rcases hv with ⟨df,u,rfl,ho⟩ | ⟨df,rfl⟩
  ·obtain ⟨ua,uc,hu⟩:=ho.form;subst hu;rw [df] at zM;have HO:=ab ho;generalize (cs.map fG).length=un at *;clear ho df;cases h4:decide (c.size=4) with
   | true =>
    rw [h4] at zM;have H4:=ab (of_decide_eq_true h4);clear h4;go_wp2_with fail;refine bodyPost_ret (aN rfl _ _ w.heap.size 150 _ (0,0) _ rfl (JM.out.two _ _) underlying150 rfl (by kernel_rfl)) rfl ⟨kc,ua,un,uc,by rw [zM.out];rfl,fun _=>⟨HF.out H4.out,?_⟩,b9 bG.out (aj _)⟩
    rw [HL.out];exact (HO.out.xh jb.out.1 _ _).mono jb.out.2
   | false =>
    rw [h4] at zM;clear h4;go_wp2_with fail;exact bodyPost_ret (aN rfl _ _ w.heap.size 150 _ (0,0) _ rfl (JM.out.two _ _) underlying150 rfl (by kernel_rfl)) rfl ⟨kc,ua,un,uc,by rw [zM.out];rfl,fun h=>(by rw [zM.out] at h;cases h),b9 bG.out (aj _)⟩
  ·rw [df,Bool.and_false] at zM;clear df;cases h4:decide (c.size=4) with
   | true =>
    clear h4;go_wp2_with fail;exact bodyPost_ret (aN rfl _ _ w.heap.size 150 _ (0,0) _ rfl (JM.out.two _ _) underlying150 rfl (by kernel_rfl)) rfl ⟨kc,none,0,0,by rw [zM.out];rfl,fun h=>(by rw [zM.out] at h;cases h),b9 bG.out (aj _)⟩
   | false =>
    clear h4;go_wp2_with fail;exact bodyPost_ret (aN rfl _ _ w.heap.size 150 _ (0,0) _ rfl (JM.out.two _ _) underlying150 rfl (by kernel_rfl)) rfl ⟨kc,none,0,0,by rw [zM.out];rfl,fun h=>(by rw [zM.out] at h;cases h),b9 bG.out (aj _)⟩
def abP(A:Nat→Addr)(c:Int)(s:ByteArray)(base:Nat)(e:Ending)(w:World):Prop :=
 (0≤c∧vB c.toNat s.data.toList∧∃ u,e = .returned (.tuple #[.agg #[.int .i64 (FN (bY s.data.toList c.toNat)),u],.nilIface])∧b7 w base u (B6 (bY s.data.toList c.toNat))) ∨
  (¬ (0≤c∧vB c.toNat s.data.toList)∧e = .returned (.tuple #[.agg #[.int .i64 0,.slice none 0 0],.iface 360 (.pointer (some (A 1)))]))
theorem uP{b:List UInt8}{n:Nat}(h:MF b n):∀ x ∈ bY b n,x.size≤4072:=fun x hx=>by
 obtain ⟨i,hi,rfl⟩:=aO hx;rw [← bsize,nD b n i hi];unfold yD;rw [ag,ao];have:=h.1.2;omega
theorem Fc(A:Nat→Addr)(c:Int)(s:ByteArray)(w:World)(hE:pU A w):Calls prog 116 #[.int .i64 c,.string s] w fun e w'=>abP A c s w.heap.size e w'∧Below w.heap.size w w':=by
 have q0:=ai w (.cells #[.int .i64 0,.slice none 0 0] 150);have x0:=au.new w #[.int .i64 0,.slice none 0 0] 150;have hE0:=hE.below q0;have yj:1<w.heap.size:=World.block_lt_of_cell? w _ ((hE.1.1 1 (by decide)).1)
 have ye:(w.alloc (.cells #[.int .i64 0,.slice none 0 0] 150)).heap.size=w.heap.size+1:=by simp
 generalize Cw:w.alloc (.cells #[.int .i64 0,.slice none 0 0] 150)=W0 at *;have MI:=ab (mm A c s W0 hE0.four);have HE:=ab hE0;have HX:=ab x0;have HQ:=ab q0;have HS0:=ab ye;have b1:¬ 1=w.heap.size:=by omega
 have b2:¬ w.heap.size=1:=by omega
 have HG:Hid (∀ W,Below W0.heap.size W0 W→W.cell? ⟨1,0,none⟩=some (.iface 360 (.pointer (some (A 1))))):=fun W h=>((HE.out.below h).1.1 1 (by decide)).1
 clear hE hE0 q0 x0 yj ye;go_enter func116,ntmps116;go_wp2_with fail;refine MI.out.mono ?_
 rintro e w1 ⟨hv,aM⟩;have bN:=ab aM;clear aM MI;rcases hv with ⟨yn,Er,g,rfl,aF⟩ | ⟨fQ,rfl⟩
 ·obtain ⟨n,hn⟩ : ∃ n,n=c.toNat:=⟨_,rfl⟩;have HC0:=ab yn;have abe:=ab Er;have Xv:=ab hn;rw [← hn] at Er aF ⊢;obtain ⟨L,hL⟩ : ∃ L,L=bY s.data.toList n:=⟨_,rfl⟩;have FL:n=L.length:=by rw [hL,gk]
  have hLs:∀ x ∈ L,x.size≤4072:=by rw [hL];exact uP Er
  rw [← hL] at aF;have rP:n≤2036:=Er.1.1;have bm:∀ j (h:j<L.length),w1.cell? ⟨g,j,none⟩=some (.string L[j]):=fun j h=>by
   rw [World.ownsRow.cellAt aF j (by omega)]
   exact C3 L j h
  have Yw:=ab (nE g n L w1 FL rP hLs bm);have HL:=ab hL;have Fx:=ab FL;clear Er aF bm FL hLs hL hn yn;go_wp2_with fail;refine Yw.out.mono ?_
  rintro e w2 ⟨x,ua,un,uc,rfl,Vj,aS⟩;have q2:=ai w2 (.cells #[.int .i64 x,.slice ua un uc] 150);have x2:=au.new w2 #[.int .i64 x,.slice ua un uc] 150;have bG:=ab (Below.next bN.out (Below.next aS q2));have Fu:=ab bN.out.size;have hx:=HX.out.below bG.out;have r0:=hx.c0;have r1:=hx.c1;have z0:=hx.free 0;have z1:=hx.free 1;have JM:=ab hx;have cg:=HG.out _ bG.out;have t0:=x2.c0;have t1:=x2.c1;cases zC:zm L with
  | false =>
   have kL:Hid (¬ (0≤c∧vB c.toNat s.data.toList)):=fun h=>by
    have:=h.2.2.1;rw [← Xv.out,← HL.out,zC] at this;cases this
   clear Vj aS q2 x2 zC hx Yw;go_wp2_with fail;generalize w2.alloc (.cells #[.int .i64 x,.slice ua un uc] 150)=W2 at *;go_region_held3 (fun w'=>w'.cell? ⟨1,0,none⟩=some (.iface 360 (.pointer (some (A 1))))) (go_keep) (fail)
   all_goals
    clear r0 r1 z0 z1 cg t0 t1;go_wp2_with fail;exact bodyPost_ret (aN rfl _ _ w.heap.size 150 _ (0,0) _ rfl (JM.out.two _ _).drew underlying150 rfl (by kernel_rfl)) rfl ⟨.inr ⟨kL.out,rfl⟩,aK (b9 (Below.next HQ.out bG.out) (aj _))⟩
  | true =>
   obtain ⟨hxf,ho⟩:=Vj zC;obtain ⟨l,hl⟩ : ∃ l,l=B6 L:=⟨_,rfl⟩;rw [← hl] at ho;have Za:un=l.length:=by
    obtain ⟨_,_,he⟩:=ho.form;cases he;rfl
   have Z5:l.length≤2036:=by rw [hl];simp only [B6,az,ao];have:=Fx.out;omega
   have ZJ:Vu l:=fun p hp=>by
    rw [hl] at hp;simp only [B6,List.mem_map] at hp;obtain ⟨d,hd,rfl⟩:=hp;have hds:d.size≤4072:=by
     have:d ∈ bY s.data.toList n:=by rw [← HL.out];exact bH hd
     have Er:=abe.out;rw [← Xv.out] at Er;exact uP Er d this
    simp only [fG,ByteArray.size_extract];omega
   have HO:=ab (ho.below q2);have nX:=ab (yH A x _ l true _ ZJ (by omega) (ho.below q2).at (HE.out.below bG.out))
   have lW:=ab hl;have HXF:=ab hxf;have zM:=ab zC;have nO:=ab x2;have ajM:=ab (ar Fu.out aS.size);clear Vj aS q2 x2 zC hx Yw ho hxf hl Za Z5 ZJ;go_wp2_with fail;generalize w2.alloc (.cells #[.int .i64 x,.slice ua un uc] 150)=W2 at *;refine nX.out.mono ?_
   rintro e w3 ⟨rfl,bQ⟩;have hx:=JM.out.below bQ;have yX:=ab hx;have eG:=ab (Below.next bG.out bQ);have zN:=ab (HO.out.below bQ);have vQ:=nO.out.below bQ;clear bQ nX r0 r1 z0 z1 t0 t1 cg;have r0:=hx.c0;have r1:=hx.c1;have z0:=hx.free 0;have z1:=hx.free 1;have t0:=vQ.c0;have t1:=vQ.c1;have cg:=HG.out _ eG.out;clear hx vQ;cases lG:nB x l true with
   | some k =>
    have kL:Hid (¬ (0≤c∧vB c.toNat s.data.toList)):=fun h=>by
     have:=h.2.2.2;rw [← Xv.out,← HL.out,← lW.out,← HXF.out,lG] at this;cases this
    have Et:=fun W=>fh (some (A k)) W
    clear lG;unfold gC;go_wp2_with fail;go_region_held3 (fun w'=>w'.cell? ⟨1,0,none⟩=some (.iface 360 (.pointer (some (A 1))))) (go_keep) (fail)
    all_goals
     clear r0 r1 z0 z1 cg t0 t1;go_wp2_with fail;exact bodyPost_ret (aN rfl _ _ w.heap.size 150 _ (0,0) _ rfl (yX.out.two _ _).drew underlying150 rfl (by kernel_rfl)) rfl ⟨.inr ⟨kL.out,rfl⟩,aK (b9 (Below.next HQ.out eG.out) (aj _))⟩
   | none =>
    have aep:Hid (vB c.toNat s.data.toList):=by
     refine ⟨abe.out,?_,?_⟩
     ·rw [← Xv.out,← HL.out];exact zM.out
     ·rw [← Xv.out,← HL.out,← lW.out,← HXF.out];exact lG
    clear lG;unfold gC;go_wp2_with fail;refine bodyPost_ret (aN rfl _ _ w.heap.size 150 _ (0,0) _ rfl (yX.out.two _ _) underlying150 rfl (by kernel_rfl)) rfl ⟨.inl ⟨HC0.out,aep.out,.slice ua un uc,?_,?_⟩,b9 (Below.next HQ.out eG.out) (aj _)⟩
    ·rw [← Xv.out,← HL.out,← HXF.out];rfl
    ·rw [← Xv.out,← HL.out,← lW.out];exact (zN.out.xh (by have:=Fu.out;have:=HS0.out;omega) _ _).mono (by have:=Fu.out;have:=HS0.out;omega)
 ·have kL:Hid (¬ (0≤c∧vB c.toNat s.data.toList)):=fun h=>fQ ⟨h.1,h.2.1⟩
  have hx:=HX.out.below bN.out;have r0:=hx.c0;have r1:=hx.c1;have z0:=hx.free 0;have z1:=hx.free 1;have JM:=ab hx;have cg:=HG.out _ bN.out;have Et:=fun W=>fh (some (A 1)) W
  clear fQ hx;go_wp2_with fail;go_region_held3 (fun w'=>w'.cell? ⟨1,0,none⟩=some (.iface 360 (.pointer (some (A 1))))) (go_keep) (fail)
  all_goals
   clear r0 r1 z0 z1 cg;go_wp2_with fail;exact bodyPost_ret (aN rfl _ _ w.heap.size 150 _ (0,0) _ rfl (JM.out.two _ _).drew underlying150 rfl (by kernel_rfl)) rfl ⟨.inr ⟨kL.out,rfl⟩,aK (b9 (Below.next HQ.out bN.out) (aj _))⟩
end B
namespace T
open Go.RowKit
theorem OX(A:Nat→Addr)(kd id tx c:Value)(cn:Int)(body:ByteArray)(hc:c = .int .i64 cn)(w:World)(h0:0≤cn)(hd:mR cn.toNat body.data.toList)(hE:jS A w):Calls prog 174 #[.agg #[kd,id,tx,c,.string body]] w fun e w'=>∃ b pv lv cv,e = .returned (.tuple #[.pointer (some ⟨b,0,none⟩),.nilIface])∧dQ w' b ⟨B1 cn.toNat body.data.toList,0,[],[]⟩ pv lv cv∧Below w.heap.size w w':=by
 subst hc;have q0:=ai w (.cells #[kd,id,tx,.int .i64 cn,.string body] 87);have x0:=B.au.new w #[kd,id,tx,.int .i64 cn,.string body] 87;have k3:(w.alloc (.cells #[kd,id,tx,.int .i64 cn,.string body] 87)).cell? ⟨w.heap.size,3,none⟩=some (.int .i64 cn):=x0.cell 3 (by simp)
 have k4:(w.alloc (.cells #[kd,id,tx,.int .i64 cn,.string body] 87)).cell? ⟨w.heap.size,4,none⟩=some (.string body):=x0.cell 4 (by simp)
 obtain ⟨l,hl⟩ : ∃ l,l=B1 cn.toNat body.data.toList:=⟨_,rfl⟩;have ym:=sd hd.2.2;have nx:(∀ p ∈ l,cN p=true)∧l.length≤4000:=by
  have e:(bY body.data.toList cn.toNat).map dw=l:=by rw [hl];rfl
  rw [e] at ym;have:=iE l;exact ⟨ym.1,by omega⟩
 have tW:Hid (Calls prog 114 #[.int .i64 cn,.string body] (w.alloc (.cells #[kd,id,tx,.int .i64 cn,.string body] 87)) fun e w'=>∃ (ua:Option Addr) (uc:Nat),e = .returned (.tuple #[.slice ua l.length uc,.nilIface])∧gM w' (.slice ua l.length uc) l∧Below w.heap.size w w'):=by
  refine (DY A cn body _ (hE.below q0)).mono fun e w' ⟨hv,hb⟩=>?_
  rcases hv with ⟨_,_,u,he,ho⟩ | ⟨fQ,_⟩
  ·rw [← hl] at ho;obtain ⟨ua,uc,hu⟩:=ho.form;subst hu;exact ⟨ua,uc,he,ho.at,Below.next q0 hb⟩
  ·exact absurd ⟨h0,hd⟩ fQ
 rw [← hl];obtain ⟨N,hN⟩ : ∃ N,N=l.length:=⟨_,rfl⟩;rw [← hN] at tW;have R5:=ab nx;clear q0 x0 hl ym nx hd h0 hE hN;go_enter func174,ntmps174;go_wp2_with fail;refine tW.out.mono ?_
 rintro e w1 ⟨ua,uc,rfl,hr,aM⟩;have q:=ai w1 (.cells #[.slice ua N uc,.int .i64 0,.slice none 0 0,.slice none 0 0] 155);have xr:=B.au.new w1 #[.slice ua N uc,.int .i64 0,.slice none 0 0,.slice none 0 0] 155;have HR:Hid (dQ (w1.alloc (.cells #[.slice ua N uc,.int .i64 0,.slice none 0 0,.slice none 0 0] 155)) w1.heap.size ⟨l,0,[],[]⟩ (.slice ua N uc) (.slice none 0 0) (.slice none 0 0)):=⟨xr,hr.below q,B.di.nil _,(C.b7.nil _ 0).at,R5.out.1,R5.out.2,(fun p hp=>by simp at hp),by simp,by simp⟩
 have lI:=ab (Below.next aM q);clear q xr hr aM tW k3 k4;go_wp2;go_ret2;exact ⟨_,_,_,_,rfl,HR.out,lI.out⟩
def BB(f:Int)(l:List B.Lk):List C.Ch:=.pg f::l.map (fun p=>.pg p.2)
theorem vG(f:Int)(l:List B.Lk):(BB f l).length=l.length+1:=by simp [BB]
theorem Ou(f:Int)(l:List B.Lk)(k:Nat)(h:k<l.length):BB f (l.take (k+1))=BB f (l.take k)++[.pg l[k].2]:=by
 unfold BB;rw [ax h,bz];rfl
theorem V6(w:World)(p:C.Ch)(t:TypeId):C.di (w.alloc (.cells #[p.val] t)) (.slice (some ⟨w.heap.size,0,none⟩) 1 1) [p] :=
 ⟨_,1,rfl,aj _,fun h=>by simp at h,fun j x hj=>by
  have lY:j<1:=(List.getElem?_eq_some_iff.1 hj).1;have Lp:j=0:=by omega
  subst Lp;cases hj;exact ⟨_,_,rfl,(bM w #[p.val] t).2 0 (by simp)⟩⟩
theorem DA(f:Int)(v:Value)(l:List B.Lk)(w:World)(hm:l.length≤4000)(hr:B.di w v l):Calls prog 220 #[.agg #[.int .i64 f,v]] w fun e w'=>∃ u,e = .returned u∧C.b7 w' w.heap.size u (BB f l)∧Below w.heap.size w w':=by
 obtain ⟨a,c,hv⟩:=hr.form;subst hv;obtain ⟨n,hn⟩ : ∃ n,n=l.length:=⟨_,rfl⟩;rw [← hn] at hr ⊢;have q0:=ai w (.cells #[.int .i64 f,.slice a n c] 150);have x0:=B.au.new w #[.int .i64 f,.slice a n c] 150;have q1:=ai (w.alloc (.cells #[.int .i64 f,.slice a n c] 150)) (.cells #[.iface 146 (.int .i64 f)] 97);have k0:=x0.c0;have k1:=(x0.below q1).c1;have s0:(w.alloc (.cells #[.int .i64 f,.slice a n c] 150)).heap.size=w.heap.size+1:=by simp
 have ho:C.b7 ((w.alloc (.cells #[.int .i64 f,.slice a n c] 150)).alloc (.cells #[.iface 146 (.int .i64 f)] 97)) w.heap.size (.slice (some ⟨w.heap.size+1,0,none⟩) 1 1) (BB f (l.take 0)):=by
  rw [← s0];exact World.ownsRow_lit (w.alloc (.cells #[.int .i64 f,.slice a n c] 150)) #[.iface 146 (.int .i64 f)] 1 (by rw [s0];omega) (by decide) rfl
 have HB:=ab (Below.next q0 q1);have HO:=ab ho;have HR:=ab hr;have HN:=ab hn;clear q0 x0 q1 s0 ho hr hn;go_enter func220,ntmps220;go_wp2;go_loopw [3,13] (fun u i wr=>∃ (k:Nat) (ua:Option Addr) (uc:Nat),k≤n∧u = .slice ua (k+1) uc∧i = .int .i64 (k:Int)∧C.b7 wr w.heap.size (.slice ua (k+1) uc) (BB f (l.take k))∧Below w.heap.size w wr) (fun _ i _=>n - (intOf i).toNat)
 case atStart=>exact ⟨0,_,1,aB _,rfl,rfl,HO.out,HB.out⟩
 case round =>
  obtain ⟨k,ua,uc,hk,rfl,rfl,aF,bO⟩:=hrel;clear HO HB k0 k1;by_cases bK:k<n
  ·have de:k<l.length:=by have:=HN.out;omega
   obtain ⟨g,o,ha,c1,c2⟩:=(HR.out.below bO).spot k de;subst ha;have dK:(k:Int)<(n:Int):=by omega
   have RO:(0:Int)≤(k:Int):=by omega
   have q2:=ai wr (.cells #[.string l[k].1,.int .i64 l[k].2] 179);have x2:=B.au.new wr #[.string l[k].1,.int .i64 l[k].2] 179;have k2:=x2.c1;have UU:(BB f (l.take k)).length=k+1:=by rw [vG,ag];omega
   have q3:=ai (wr.alloc (.cells #[.string l[k].1,.int .i64 l[k].2] 179)) (.cells #[.iface 146 (.int .i64 l[k].2)] 97);obtain ⟨a',c',w',bq,G6,hg⟩:=C.fo w.heap.size _ _ _ [.pg l[k].2] _ ((aF.below q2).below q3) (V6 (wr.alloc (.cells #[.string l[k].1,.int .i64 l[k].2] 179)) (.pg l[k].2) 97) (by rw [UU];simp;omega) (ar bO.size (ar q2.size q3.size))
   rw [UU,← Ou f l k de] at G6;rw [UU] at bq;rw [show k+1+([C.Ch.pg l[k].2] : List C.Ch).length=k+1+1 from rfl] at G6 bq
   have bG:=ab ((Below.next (Below.next bO q2) q3).grown hg (ar bO.size (ar q2.size q3.size)) (fun j hj=>(aF.dF j hj).1))
   have jE:=ab G6;have s2:(wr.alloc (.cells #[.string l[k].1,.int .i64 l[k].2] 179)).heap.size=wr.heap.size+1:=by simp
   rw [s2] at bq;have AN:(Builtin.append_ #[153,153] 153 #[.slice ua (k+1) uc,.slice (some ⟨wr.heap.size+1,0,none⟩) 1 1]).run prog ((wr.alloc (.cells #[.string l[k].1,.int .i64 l[k].2] 179)).alloc (.cells #[.iface 146 (.int .i64 l[k].2)] 97)) = .ok (.slice a' (k+1+1) c') w':=bq;generalize l[k].1=y1 at *;generalize l[k].2=y2 at *;clear q2 x2 UU q3 G6 hg s2 bq aF bO;go_wp2_with (first | (at_builtin;refine wpList_append_run 153 rfl (.tmp 17) (.tmp 21) rfl rfl _ _ rfl rfl _ _ AN ?_))
   clear AN;go_wp2;go_roundw
   case rel=>exact ⟨k+1,a',c',by omega,rfl,by go_num,jE.out,bG.out⟩
   case measure=>simp [intOf];omega
  ·have nU:k=l.length:=by have:=HN.out;omega
   have df:l.take k=l:=al (by omega)
   rw [df] at aF;have jE:=ab aF;have bG:=ab bO;have dK:¬ (k:Int)<(n:Int):=by omega
   clear aF bO df nU;go_wp2;go_ret;exact ⟨_,rfl,jE.out,bG.out⟩
theorem OY(A:Nat→Addr)(kd id tx c:Value)(cn:Int)(body:ByteArray)(hc:c = .int .i64 cn)(w:World)(h0:0≤cn)(hd:B.vB cn.toNat body.data.toList)(hE:B.pU A w):Calls prog 175 #[.agg #[kd,id,tx,c,.string body]] w fun e w'=>∃ b pv lv cv,e = .returned (.tuple #[.pointer (some ⟨b,0,none⟩),.nilIface])∧dQ w' b ⟨[],B.FN (bY body.data.toList cn.toNat),B.B6 (bY body.data.toList cn.toNat),BB (B.FN (bY body.data.toList cn.toNat)) (B.B6 (bY body.data.toList cn.toNat))⟩ pv lv cv∧Below w.heap.size w w':=by
 subst hc;have q0:=ai w (.cells #[kd,id,tx,.int .i64 cn,.string body] 87);have x0:=B.au.new w #[kd,id,tx,.int .i64 cn,.string body] 87;have k3:(w.alloc (.cells #[kd,id,tx,.int .i64 cn,.string body] 87)).cell? ⟨w.heap.size,3,none⟩=some (.int .i64 cn):=x0.cell 3 (by simp)
 have k4:(w.alloc (.cells #[kd,id,tx,.int .i64 cn,.string body] 87)).cell? ⟨w.heap.size,4,none⟩=some (.string body):=x0.cell 4 (by simp)
 obtain ⟨f,hf⟩ : ∃ f,f=B.FN (bY body.data.toList cn.toNat):=⟨_,rfl⟩;obtain ⟨l,hl⟩ : ∃ l,l=B.B6 (bY body.data.toList cn.toNat):=⟨_,rfl⟩;have ym:=B.kV hd.2.2;rw [← hf,← hl] at ym;have nx:(∀ p ∈ l,cP p.1)∧l.length≤3000:=by
  have:=B.q9 l;exact ⟨fun p hp=>by have:=B.ll (ym.2.2.1 p hp);exact ⟨this.1,this.2.1⟩,by omega⟩
 have tW:Hid (Calls prog 116 #[.int .i64 cn,.string body] (w.alloc (.cells #[kd,id,tx,.int .i64 cn,.string body] 87)) fun e w'=>∃ (ua:Option Addr) (uc:Nat),e = .returned (.tuple #[.agg #[.int .i64 f,.slice ua l.length uc],.nilIface])∧B.di w' (.slice ua l.length uc) l∧Below w.heap.size w w'):=by
  refine (B.Fc A cn body _ (hE.below q0)).mono fun e w' ⟨hv,hb⟩=>?_
  rcases hv with ⟨_,_,u,he,ho⟩ | ⟨fQ,_⟩
  ·rw [← hl] at ho;rw [← hf] at he;obtain ⟨ua,uc,hu⟩:=ho.form;subst hu;exact ⟨ua,uc,he,ho.at,Below.next q0 hb⟩
  ·exact absurd ⟨h0,hd⟩ fQ
 rw [← hl,← hf];obtain ⟨N,hN⟩ : ∃ N,N=l.length:=⟨_,rfl⟩;rw [← hN] at tW;have R5:=ab nx;clear q0 x0 hl hf ym nx hd h0 hE hN;go_enter func175,ntmps175;go_wp2_with fail;refine tW.out.mono ?_
 rintro e w1 ⟨ua,uc,rfl,hr,aM⟩;have q2:=ai w1 (.cells #[.int .i64 f,.slice ua N uc] 150);have x2:=B.au.new w1 #[.int .i64 f,.slice ua N uc] 150;have nO:=ab x2;have bG:=ab (Below.next aM q2);have oT:=ab (hr.below q2);clear q2 x2 hr aM tW k3 k4;go_wp2_with fail;generalize w1.alloc (.cells #[.int .i64 f,.slice ua N uc] 150)=W2 at *;generalize w1.heap.size=k2 at *;have k0:=nO.out.c0;have k1:=nO.out.c1;obtain ⟨M,hM⟩ : ∃ M,M=(BB f l).length:=⟨_,rfl⟩;have Uw:Hid (Calls prog 220 #[.agg #[.int .i64 f,.slice ua N uc]] W2.drew fun e w'=>∃ (ca:Option Addr) (cc:Nat),e = .returned (.slice ca M cc)∧C.di w' (.slice ca M cc) (BB f l)∧Below W2.heap.size W2 w'):=by
  refine (DA f _ l W2.drew (by have:=R5.out.2;omega) oT.out.drew).mono fun e w' ⟨u,h1,h2,h3⟩=>?_
  obtain ⟨ca,cc,hu⟩:=h2.form;subst hu;rw [← hM] at h1 h2;exact ⟨ca,cc,h1,h2.at,B.du h3⟩
 have XD:Hid ((BB f l).length≤4001):=by show _≤_;rw [vG];have:=R5.out.2;omega
 clear hM;go_region_held3 (fun w'=>w'.cell? ⟨k2,0,none⟩=some (.int .i64 f)∧w'.cell? ⟨k2,1,none⟩=some (.slice ua N uc)) (go_keep)
  (first
   | (go_at_call 220;refine Uw.out.mono ?_;rintro e w3 ⟨ca,cc,rfl,pM,bQ⟩;have RY:=ab pM;have eG:=ab bQ;have m0:=(nO.out.below bQ).c0;have m1:=(nO.out.below bQ).c1;clear pM bQ))
 all_goals (
  have q:=ai w3 (.cells #[.slice none 0 0,.int .i64 f,.slice ua N uc,.slice ca M cc] 155);have xr:=B.au.new w3 #[.slice none 0 0,.int .i64 f,.slice ua N uc,.slice ca M cc] 155;have HR:Hid (dQ (w3.alloc (.cells #[.slice none 0 0,.int .i64 f,.slice ua N uc,.slice ca M cc] 155)) w3.heap.size ⟨[],f,l,BB f l⟩ (.slice none 0 0) (.slice ua N uc) (.slice ca M cc)):=⟨xr,gM.nil _,(oT.out.below eG.out).below q,RY.out.below q,(fun p hp=>by simp at hp),by simp,R5.out.1,by have:=R5.out.2;show l.length≤4000;omega,XD.out⟩
  have lI:=ab (Below.next (Below.next bG.out eG.out) q);clear q xr;go_wp2;go_ret2;exact ⟨_,_,_,_,rfl,HR.out,lI.out⟩)
theorem oq(w:World):Calls prog 43 #[.int .i64 0] w fun e w'=>e = .returned .nilIface∧w=w':=by
 go_enter func43,ntmps43;go_wp2;go_ret;exact ⟨rfl,rfl⟩
theorem ot(id:Int)(w:World)(h:¬ id=0):Calls prog 43 #[.int .i64 id] w fun e w'=>e = .returned (C.Ch.pg id).val∧w=w':=by
 have h1:(id == 0)=false:=by simp [h]
 go_enter func43,ntmps43;go_wp2;go_ret;exact ⟨rfl,rfl⟩
end T
end Go.Proofs.YtihmgigfkmofnaaGreatDoor
