import Derived.Test.YtihmgigfkmofnaaGreatDoorG13
import Derived.Test.YtihmgigfkmofnaaGreatDoorG09
set_option maxHeartbeats 4000000
set_option maxRecDepth 20000
open Go.Proofs.Tryz
namespace Go.Proofs.YtihmgigfkmofnaaGreatDoor
namespace B
open Go.RowKit
theorem WQ(g n:Nat)(h1:1≤n):∃ a',(1<n→a'=some ⟨g,1,none⟩)∧∀ w,(Instr.sliceAt 231 (.slice (some ⟨g,0,none⟩) n n) (some (.int .i64 1)) none none).run prog w = .ok (.slice a' (n - 1) (n - 1)) w:=by
 refine ⟨if n=1 then some ⟨g,0,none⟩ else some ⟨g,1,none⟩,fun h=>by rw [if_neg (by omega)],fun w=>?_⟩
 rw [run_sliceAt_slice (h:=underlying231),run_slice_l (ht:=underlying231) (h0:=by omega) (h1:=by omega)]
 have hz:(sizeOf (prog.elem 231)).run prog w = .ok 1 w:=by kernel_rfl
 rw [hz];simp [Result.andThen,sliced,bh]
theorem p9.four{A:Nat→Addr}{w:World}(h:p9 A w):dI 4 fe A w:=h.1.KF (by decide)
theorem nA(g n:Nat)(L:List ByteArray)(w:World)(hn:n=L.length)(su:n≤2036)(fI:∀ c ∈ L,c.size≤4072)(hc:∀ j (h:j<L.length),w.cell? ⟨g,j,none⟩=some (.string L[j])):Calls prog 155 #[.slice (some ⟨g,0,none⟩) n n] w fun e w'=>∃ (x:Int) (ua:Option Addr) (un uc:Nat),e = .returned (.tuple #[.agg #[.int .i64 x,.slice ua un uc],.bool (zN L)])∧(zN L=true→x=FC L∧b9 w' w.heap.size (.slice ua un uc) (Bu L))∧Below w.heap.size w w':=by
 have q0:=ai w (.cells #[.int .i64 0,.slice none 0 0] 150);have x0:=au.new w #[.int .i64 0,.slice none 0 0] 150;have HQ:=ab q0;have HX:=ab x0;cases L with
 | nil =>
  subst hn;have fl:zN []=false:=rfl;have kK:=ab fl;clear q0 x0 fI hc fl;rw [List.length_nil];go_enter func155,ntmps155;go_wp2;exact bodyPost_ret (aR rfl _ _ w.heap.size 150 _ (0,0) _ rfl HX.out underlying150 rfl (by kernel_rfl)) rfl ⟨_,_,_,_,by rw [kK.out];rfl,fun h=>(by rw [kK.out] at h;cases h),HQ.out⟩
 | cons c cs =>
  have A8:n=cs.length+1:=by rw [hn];rfl
  have Gi:((n:Int) == 0)=false:=by rw [beq_eq_false_iff_ne];omega
  have c0:(w.alloc (.cells #[.int .i64 0,.slice none 0 0] 150)).cell? ⟨g,0,none⟩=some (.string c):=by
   have:=hc 0 (by simp)
   simp only [List.getElem_cons_zero] at this;exact (q0.cell (p:=⟨g,0,none⟩) (World.block_lt_of_cell? w _ this)).trans this
  have uf:∀ j (h:j<cs.length),(w.alloc (.cells #[.int .i64 0,.slice none 0 0] 150)).cell? ⟨g,1+j,none⟩=some (.string cs[j]):=fun j h=>by
   have:=hc (j+1) (by simpa using h)
   simp only [List.getElem_cons_succ] at this;rw [Nat.add_comm 1 j];exact (q0.cell (p:=⟨g,j+1,none⟩) (World.block_lt_of_cell? w _ this)).trans this
  generalize sW:w.alloc (.cells #[.int .i64 0,.slice none 0 0] 150)=W0 at *;obtain ⟨a',ha',nP⟩:=WQ g n (by omega)
  have WC:=ab (vC c W0);have ZB:Hid (∀ W,Below W0.heap.size W0 W→Calls prog 193 #[.slice a' (n - 1) (n - 1)] W fun e w'=>((cs.all uW=true∧∃ u,e = .returned (.tuple #[u,.bool true])∧b9 w' W.heap.size u (cs.map fH))∨(cs.all uW=false∧e = .returned (.tuple #[.slice none 0 0,.bool false])))∧Below W.heap.size W w'):=fun W h =>
   En g 1 (n - 1) (n - 1) cs W (by omega) (by omega) (fun d hd=>fI d (dU _ hd)) (fun j hj=>(h.cell (p:=⟨g,1+j,none⟩) (World.block_lt_of_cell? W0 _ (uf j hj))).trans (uf j hj)) a' (fun h=>ha' (by omega))
  have n1:(1:Int)≤(n:Int):=by omega
  have Af:Hid (zN (c::cs)=(decide (c.size=4) && cs.all uW)):=by show _=_;rfl
  have HF:Hid (c.size=4→zQ c=FC (c::cs)):=fun h=>by unfold zQ FC;rw [if_pos h]
  have HL:Hid (Bu (c::cs)=cs.map fH):=by show _=_;simp [Bu]
  obtain ⟨kc,Gf⟩ : ∃ kc,kc=zQ c:=⟨_,rfl⟩;rw [← Gf] at WC HF;generalize n - 1=nm at *;have IT:=ab HX.out;clear hn A8 hc fI uf ha' Gf x0 q0;go_enter func155,ntmps155;go_wp2_with fail;refine WC.out.mono ?_
  rintro e w1 ⟨rfl,aO⟩;have bT:=ab aO;have acN:=ab (ZB.out _ aO);clear aO WC ZB c0;go_wp2_with fail;refine acN.out.mono ?_
  rintro e w2 ⟨hv,aV⟩;have hx:=HX.out.below (Below.next bT.out aV);have r0:=hx.c0;have r1:=hx.c1;have z0:=hx.free 0;have z1:=hx.free 1;have Kr:=ab hx;have bL:=ab (Below.next HQ.out (Below.next bT.out aV));have jc:Hid (w.heap.size<w1.heap.size∧w.heap.size≤w1.heap.size):=by
   have h1:=HX.out.lt;have h2:=bT.out.size;exact ⟨by omega,by omega⟩
  clear aV hx acN nP;rcases hv with ⟨dn,u,rfl,ho⟩ | ⟨dn,rfl⟩
  ·obtain ⟨ua,uc,hu⟩:=ho.form;subst hu;rw [dn] at Af;have HO:=ab ho;generalize (cs.map fH).length=un at *;clear ho dn;cases h4:decide (c.size=4) with
   | true =>
    rw [h4] at Af;have H4:=ab (of_decide_eq_true h4);clear h4;go_wp2_with fail;refine bodyPost_ret (aR rfl _ _ w.heap.size 150 _ (0,0) _ rfl (Kr.out.two _ _) underlying150 rfl (by kernel_rfl)) rfl ⟨kc,ua,un,uc,by rw [Af.out];rfl,fun _=>⟨HF.out H4.out,?_⟩,cx bL.out (aj _)⟩
    rw [HL.out];exact (HO.out.xI jc.out.1 _ _).mono jc.out.2
   | false =>
    rw [h4] at Af;clear h4;go_wp2_with fail;exact bodyPost_ret (aR rfl _ _ w.heap.size 150 _ (0,0) _ rfl (Kr.out.two _ _) underlying150 rfl (by kernel_rfl)) rfl ⟨kc,ua,un,uc,by rw [Af.out];rfl,fun h=>(by rw [Af.out] at h;cases h),cx bL.out (aj _)⟩
  ·rw [dn,Bool.and_false] at Af;clear dn;cases h4:decide (c.size=4) with
   | true =>
    clear h4;go_wp2_with fail;exact bodyPost_ret (aR rfl _ _ w.heap.size 150 _ (0,0) _ rfl (Kr.out.two _ _) underlying150 rfl (by kernel_rfl)) rfl ⟨kc,none,0,0,by rw [Af.out];rfl,fun h=>(by rw [Af.out] at h;cases h),cx bL.out (aj _)⟩
   | false =>
    clear h4;go_wp2_with fail;exact bodyPost_ret (aR rfl _ _ w.heap.size 150 _ (0,0) _ rfl (Kr.out.two _ _) underlying150 rfl (by kernel_rfl)) rfl ⟨kc,none,0,0,by rw [Af.out];rfl,fun h=>(by rw [Af.out] at h;cases h),cx bL.out (aj _)⟩
def adi(A:Nat→Addr)(c:Int)(s:ByteArray)(base:Nat)(e:Ending)(w:World):Prop :=
 (0≤c∧uM c.toNat s.data.toList∧∃ u,e = .returned (.tuple #[.agg #[.int .i64 (FC (bX s.data.toList c.toNat)),u],.nilIface])∧b9 w base u (Bu (bX s.data.toList c.toNat))) ∨
  (¬ (0≤c∧uM c.toNat s.data.toList)∧e = .returned (.tuple #[.agg #[.int .i64 0,.slice none 0 0],.iface 360 (.pointer (some (A 1)))]))
theorem vD{b:List UInt8}{n:Nat}(h:Nv b n):∀ x ∈ bX b n,x.size≤4072:=fun x hx=>by
 obtain ⟨i,hi,rfl⟩:=aK hx;rw [← bsize,nz b n i hi];unfold yR;rw [ag,al];have:=h.1.2;omega
theorem yW(A:Nat→Addr)(c:Int)(s:ByteArray)(w:World)(hE:p9 A w):Calls prog 116 #[.int .i64 c,.string s] w fun e w'=>adi A c s w.heap.size e w'∧Below w.heap.size w w':=by
 have q0:=ai w (.cells #[.int .i64 0,.slice none 0 0] 150);have x0:=au.new w #[.int .i64 0,.slice none 0 0] 150;have hE0:=hE.below q0;have yy:1<w.heap.size:=World.block_lt_of_cell? w _ ((hE.1.1 1 (by decide)).1)
 have tY:(w.alloc (.cells #[.int .i64 0,.slice none 0 0] 150)).heap.size=w.heap.size+1:=by simp
 generalize sW:w.alloc (.cells #[.int .i64 0,.slice none 0 0] 150)=W0 at *;have Nx:=ab (mm A c s W0 hE0.four);have HE:=ab hE0;have HX:=ab x0;have HQ:=ab q0;have HS0:=ab tY;have b1:¬ 1=w.heap.size:=by omega
 have b2:¬ w.heap.size=1:=by omega
 have HG:Hid (∀ W,Below W0.heap.size W0 W→W.cell? ⟨1,0,none⟩=some (.iface 360 (.pointer (some (A 1))))):=fun W h=>((HE.out.below h).1.1 1 (by decide)).1
 clear hE hE0 q0 x0 yy tY;go_enter func116,ntmps116;go_wp2_with fail;refine Nx.out.mono ?_
 rintro e w1 ⟨hv,aO⟩;have bT:=ab aO;clear aO Nx;rcases hv with ⟨qQ,ET,g,rfl,aE⟩ | ⟨fl,rfl⟩
 ·obtain ⟨n,hn⟩ : ∃ n,n=c.toNat:=⟨_,rfl⟩;have HC0:=ab qQ;have acG:=ab ET;have Yw:=ab hn;rw [← hn] at ET aE ⊢;obtain ⟨L,hL⟩ : ∃ L,L=bX s.data.toList n:=⟨_,rfl⟩;have Mq:n=L.length:=by rw [hL,gd]
  have hLs:∀ x ∈ L,x.size≤4072:=by rw [hL];exact vD ET
  rw [← hL] at aE;have su:n≤2036:=ET.1.1;have bq:∀ j (h:j<L.length),w1.cell? ⟨g,j,none⟩=some (.string L[j]):=fun j h=>by
   rw [World.ownsRow.cellAt aE j (by omega)]
   exact Dm L j h
  have ZI:=ab (nA g n L w1 Mq su hLs bq);have HL:=ab hL;have FZ:=ab Mq;clear ET aE bq Mq hLs hL hn qQ;go_wp2_with fail;refine ZI.out.mono ?_
  rintro e w2 ⟨x,ua,un,uc,rfl,V5,aV⟩;have q2:=ai w2 (.cells #[.int .i64 x,.slice ua un uc] 150);have x2:=au.new w2 #[.int .i64 x,.slice ua un uc] 150;have bL:=ab (Below.next bT.out (Below.next aV q2));have Yk:=ab bT.out.size;have hx:=HX.out.below bL.out;have r0:=hx.c0;have r1:=hx.c1;have z0:=hx.free 0;have z1:=hx.free 1;have Kr:=ab hx;have cg:=HG.out _ bL.out;have t0:=x2.c0;have t1:=x2.c1;cases zX:zN L with
  | false =>
   have kK:Hid (¬ (0≤c∧uM c.toNat s.data.toList)):=fun h=>by
    have:=h.2.2.1;rw [← Yw.out,← HL.out,zX] at this;cases this
   clear V5 aV q2 x2 zX hx ZI;go_wp2_with fail;generalize w2.alloc (.cells #[.int .i64 x,.slice ua un uc] 150)=W2 at *;go_region_held3 (fun w'=>w'.cell? ⟨1,0,none⟩=some (.iface 360 (.pointer (some (A 1))))) (go_keep) (fail)
   all_goals
    clear r0 r1 z0 z1 cg t0 t1;go_wp2_with fail;exact bodyPost_ret (aR rfl _ _ w.heap.size 150 _ (0,0) _ rfl (Kr.out.two _ _).drew underlying150 rfl (by kernel_rfl)) rfl ⟨.inr ⟨kK.out,rfl⟩,aP (cx (Below.next HQ.out bL.out) (aj _))⟩
  | true =>
   obtain ⟨hxf,ho⟩:=V5 zX;obtain ⟨l,hl⟩ : ∃ l,l=Bu L:=⟨_,rfl⟩;rw [← hl] at ho;have hun:un=l.length:=by
    obtain ⟨_,_,he⟩:=ho.form;cases he;rfl
   have abe:l.length≤2036:=by rw [hl];simp only [Bu,az,al];have:=FZ.out;omega
   have Qu:Wj l:=fun p hp=>by
    rw [hl] at hp;simp only [Bu,List.mem_map] at hp;obtain ⟨d,hd,rfl⟩:=hp;have hds:d.size≤4072:=by
     have:d ∈ bX s.data.toList n:=by rw [← HL.out];exact bK hd
     have ET:=acG.out;rw [← Yw.out] at ET;exact vD ET d this
    simp only [fH,ByteArray.size_extract];omega
   have HO:=ab (ho.below q2);have nM:=ab (rh A x _ l true _ Qu (by omega) (ho.below q2).at (HE.out.below bL.out))
   have kR:=ab hl;have HXF:=ab hxf;have Af:=ab zX;have nL:=ab x2;have alC:=ab (ar Yk.out aV.size);clear V5 aV q2 x2 zX hx ZI ho hxf hl hun abe Qu;go_wp2_with fail;generalize w2.alloc (.cells #[.int .i64 x,.slice ua un uc] 150)=W2 at *;refine nM.out.mono ?_
   rintro e w3 ⟨rfl,bW⟩;have hx:=Kr.out.below bW;have zu:=ab hx;have eH:=ab (Below.next bL.out bW);have rl:=ab (HO.out.below bW);have wF:=nL.out.below bW;clear bW nM r0 r1 z0 z1 t0 t1 cg;have r0:=hx.c0;have r1:=hx.c1;have z0:=hx.free 0;have z1:=hx.free 1;have t0:=wF.c0;have t1:=wF.c1;have cg:=HG.out _ eH.out;clear hx wF;cases kV:lz x l true with
   | some k =>
    have kK:Hid (¬ (0≤c∧uM c.toNat s.data.toList)):=fun h=>by
     have:=h.2.2.2;rw [← Yw.out,← HL.out,← kR.out,← HXF.out,kV] at this;cases this
    have EV:=fun W=>eY (some (A k)) W
    clear kV;unfold im;go_wp2_with fail;go_region_held3 (fun w'=>w'.cell? ⟨1,0,none⟩=some (.iface 360 (.pointer (some (A 1))))) (go_keep) (fail)
    all_goals
     clear r0 r1 z0 z1 cg t0 t1;go_wp2_with fail;exact bodyPost_ret (aR rfl _ _ w.heap.size 150 _ (0,0) _ rfl (zu.out.two _ _).drew underlying150 rfl (by kernel_rfl)) rfl ⟨.inr ⟨kK.out,rfl⟩,aP (cx (Below.next HQ.out eH.out) (aj _))⟩
   | none =>
    have afX:Hid (uM c.toNat s.data.toList):=by
     refine ⟨acG.out,?_,?_⟩
     ·rw [← Yw.out,← HL.out];exact Af.out
     ·rw [← Yw.out,← HL.out,← kR.out,← HXF.out];exact kV
    clear kV;unfold im;go_wp2_with fail;refine bodyPost_ret (aR rfl _ _ w.heap.size 150 _ (0,0) _ rfl (zu.out.two _ _) underlying150 rfl (by kernel_rfl)) rfl ⟨.inl ⟨HC0.out,afX.out,.slice ua un uc,?_,?_⟩,cx (Below.next HQ.out eH.out) (aj _)⟩
    ·rw [← Yw.out,← HL.out,← HXF.out];rfl
    ·rw [← Yw.out,← HL.out,← kR.out];exact (rl.out.xI (by have:=Yk.out;have:=HS0.out;omega) _ _).mono (by have:=Yk.out;have:=HS0.out;omega)
 ·have kK:Hid (¬ (0≤c∧uM c.toNat s.data.toList)):=fun h=>fl ⟨h.1,h.2.1⟩
  have hx:=HX.out.below bT.out;have r0:=hx.c0;have r1:=hx.c1;have z0:=hx.free 0;have z1:=hx.free 1;have Kr:=ab hx;have cg:=HG.out _ bT.out;have EV:=fun W=>eY (some (A 1)) W
  clear fl hx;go_wp2_with fail;go_region_held3 (fun w'=>w'.cell? ⟨1,0,none⟩=some (.iface 360 (.pointer (some (A 1))))) (go_keep) (fail)
  all_goals
   clear r0 r1 z0 z1 cg;go_wp2_with fail;exact bodyPost_ret (aR rfl _ _ w.heap.size 150 _ (0,0) _ rfl (Kr.out.two _ _).drew underlying150 rfl (by kernel_rfl)) rfl ⟨.inr ⟨kK.out,rfl⟩,aP (cx (Below.next HQ.out bT.out) (aj _))⟩
end B
namespace T
open Go.RowKit
theorem PO(A:Nat→Addr)(kd id tx c:Value)(cn:Int)(body:ByteArray)(hc:c = .int .i64 cn)(w:World)(h0:0≤cn)(hd:lV cn.toNat body.data.toList)(hE:jC A w):Calls prog 174 #[.agg #[kd,id,tx,c,.string body]] w fun e w'=>∃ b pv lv cv,e = .returned (.tuple #[.pointer (some ⟨b,0,none⟩),.nilIface])∧dP w' b ⟨Ab cn.toNat body.data.toList,0,[],[]⟩ pv lv cv∧Below w.heap.size w w':=by
 subst hc;have q0:=ai w (.cells #[kd,id,tx,.int .i64 cn,.string body] 87);have x0:=B.au.new w #[kd,id,tx,.int .i64 cn,.string body] 87;have k3:(w.alloc (.cells #[kd,id,tx,.int .i64 cn,.string body] 87)).cell? ⟨w.heap.size,3,none⟩=some (.int .i64 cn):=x0.cell 3 (by simp)
 have k4:(w.alloc (.cells #[kd,id,tx,.int .i64 cn,.string body] 87)).cell? ⟨w.heap.size,4,none⟩=some (.string body):=x0.cell 4 (by simp)
 obtain ⟨l,hl⟩ : ∃ l,l=Ab cn.toNat body.data.toList:=⟨_,rfl⟩;have vi:=sJ hd.2.2;have nk:(∀ p ∈ l,cQ p=true)∧l.length≤4000:=by
  have e:(bX body.data.toList cn.toNat).map dz=l:=by rw [hl];rfl
  rw [e] at vi;have:=gT l;exact ⟨vi.1,by omega⟩
 have nC:Hid (Calls prog 114 #[.int .i64 cn,.string body] (w.alloc (.cells #[kd,id,tx,.int .i64 cn,.string body] 87)) fun e w'=>∃ (ua:Option Addr) (uc:Nat),e = .returned (.tuple #[.slice ua l.length uc,.nilIface])∧gM w' (.slice ua l.length uc) l∧Below w.heap.size w w'):=by
  refine (yh A cn body _ (hE.below q0)).mono fun e w' ⟨hv,hb⟩=>?_
  rcases hv with ⟨_,_,u,he,ho⟩ | ⟨fl,_⟩
  ·rw [← hl] at ho;obtain ⟨ua,uc,hu⟩:=ho.form;subst hu;exact ⟨ua,uc,he,ho.at,Below.next q0 hb⟩
  ·exact absurd ⟨h0,hd⟩ fl
 rw [← hl];obtain ⟨N,hN⟩ : ∃ N,N=l.length:=⟨_,rfl⟩;rw [← hN] at nC;have SV:=ab nk;clear q0 x0 hl vi nk hd h0 hE hN;go_enter func174,ntmps174;go_wp2_with fail;refine nC.out.mono ?_
 rintro e w1 ⟨ua,uc,rfl,hr,aO⟩;have q:=ai w1 (.cells #[.slice ua N uc,.int .i64 0,.slice none 0 0,.slice none 0 0] 155);have xr:=B.au.new w1 #[.slice ua N uc,.int .i64 0,.slice none 0 0,.slice none 0 0] 155;have HR:Hid (dP (w1.alloc (.cells #[.slice ua N uc,.int .i64 0,.slice none 0 0,.slice none 0 0] 155)) w1.heap.size ⟨l,0,[],[]⟩ (.slice ua N uc) (.slice none 0 0) (.slice none 0 0)):=⟨xr,hr.below q,B.dm.nil _,(C.b9.nil _ 0).at,SV.out.1,SV.out.2,(fun p hp=>by simp at hp),by simp,by simp⟩
 have mU:=ab (Below.next aO q);clear q xr hr aO nC k3 k4;go_wp2;go_ret2;exact ⟨_,_,_,_,rfl,HR.out,mU.out⟩
def B2(f:Int)(l:List B.Lk):List C.Ch:=.pg f::l.map (fun p=>.pg p.2)
theorem wj(f:Int)(l:List B.Lk):(B2 f l).length=l.length+1:=by simp [B2]
theorem Pj(f:Int)(l:List B.Lk)(k:Nat)(h:k<l.length):B2 f (l.take (k+1))=B2 f (l.take k)++[.pg l[k].2]:=by
 unfold B2;rw [ax h,bz];rfl
theorem Xe(w:World)(p:C.Ch)(t:TypeId):C.dm (w.alloc (.cells #[p.val] t)) (.slice (some ⟨w.heap.size,0,none⟩) 1 1) [p] :=
 ⟨_,1,rfl,aj _,fun h=>by simp at h,fun j x hj=>by
  have lY:j<1:=(List.getElem?_eq_some_iff.1 hj).1;have Gg:j=0:=by omega
  subst Gg;cases hj;exact ⟨_,_,rfl,(bM w #[p.val] t).2 0 (by simp)⟩⟩
theorem DY(f:Int)(v:Value)(l:List B.Lk)(w:World)(hm:l.length≤4000)(hr:B.dm w v l):Calls prog 220 #[.agg #[.int .i64 f,v]] w fun e w'=>∃ u,e = .returned u∧C.b9 w' w.heap.size u (B2 f l)∧Below w.heap.size w w':=by
 obtain ⟨a,c,hv⟩:=hr.form;subst hv;obtain ⟨n,hn⟩ : ∃ n,n=l.length:=⟨_,rfl⟩;rw [← hn] at hr ⊢;have q0:=ai w (.cells #[.int .i64 f,.slice a n c] 150);have x0:=B.au.new w #[.int .i64 f,.slice a n c] 150;have q1:=ai (w.alloc (.cells #[.int .i64 f,.slice a n c] 150)) (.cells #[.iface 146 (.int .i64 f)] 97);have k0:=x0.c0;have k1:=(x0.below q1).c1;have s0:(w.alloc (.cells #[.int .i64 f,.slice a n c] 150)).heap.size=w.heap.size+1:=by simp
 have ho:C.b9 ((w.alloc (.cells #[.int .i64 f,.slice a n c] 150)).alloc (.cells #[.iface 146 (.int .i64 f)] 97)) w.heap.size (.slice (some ⟨w.heap.size+1,0,none⟩) 1 1) (B2 f (l.take 0)):=by
  rw [← s0];exact World.ownsRow_lit (w.alloc (.cells #[.int .i64 f,.slice a n c] 150)) #[.iface 146 (.int .i64 f)] 1 (by rw [s0];omega) (by decide) rfl
 have HB:=ab (Below.next q0 q1);have HO:=ab ho;have HR:=ab hr;have HN:=ab hn;clear q0 x0 q1 s0 ho hr hn;go_enter func220,ntmps220;go_wp2;go_loopw [3,13] (fun u i wr=>∃ (k:Nat) (ua:Option Addr) (uc:Nat),k≤n∧u = .slice ua (k+1) uc∧i = .int .i64 (k:Int)∧C.b9 wr w.heap.size (.slice ua (k+1) uc) (B2 f (l.take k))∧Below w.heap.size w wr) (fun _ i _=>n - (intOf i).toNat)
 case atStart=>exact ⟨0,_,1,aB _,rfl,rfl,HO.out,HB.out⟩
 case round =>
  obtain ⟨k,ua,uc,hk,rfl,rfl,aE,bQ⟩:=hrel;clear HO HB k0 k1;by_cases bO:k<n
  ·have cZ:k<l.length:=by have:=HN.out;omega
   obtain ⟨g,o,ha,c1,c2⟩:=(HR.out.below bQ).spot k cZ;subst ha;have dE:(k:Int)<(n:Int):=by omega
   have Mg:(0:Int)≤(k:Int):=by omega
   have q2:=ai wr (.cells #[.string l[k].1,.int .i64 l[k].2] 179);have x2:=B.au.new wr #[.string l[k].1,.int .i64 l[k].2] 179;have k2:=x2.c1;have T4:(B2 f (l.take k)).length=k+1:=by rw [wj,ag];omega
   have q3:=ai (wr.alloc (.cells #[.string l[k].1,.int .i64 l[k].2] 179)) (.cells #[.iface 146 (.int .i64 l[k].2)] 97);obtain ⟨a',c',w',bw,Ib,hg⟩:=C.fs w.heap.size _ _ _ [.pg l[k].2] _ ((aE.below q2).below q3) (Xe (wr.alloc (.cells #[.string l[k].1,.int .i64 l[k].2] 179)) (.pg l[k].2) 97) (by rw [T4];simp;omega) (ar bQ.size (ar q2.size q3.size))
   rw [T4,← Pj f l k cZ] at Ib;rw [T4] at bw;rw [show k+1+([C.Ch.pg l[k].2] : List C.Ch).length=k+1+1 from rfl] at Ib bw
   have bL:=ab ((Below.next (Below.next bQ q2) q3).grown hg (ar bQ.size (ar q2.size q3.size)) (fun j hj=>(aE.dx j hj).1))
   have jx:=ab Ib;have s2:(wr.alloc (.cells #[.string l[k].1,.int .i64 l[k].2] 179)).heap.size=wr.heap.size+1:=by simp
   rw [s2] at bw;have A4:(Builtin.append_ #[153,153] 153 #[.slice ua (k+1) uc,.slice (some ⟨wr.heap.size+1,0,none⟩) 1 1]).run prog ((wr.alloc (.cells #[.string l[k].1,.int .i64 l[k].2] 179)).alloc (.cells #[.iface 146 (.int .i64 l[k].2)] 97)) = .ok (.slice a' (k+1+1) c') w':=bw;generalize l[k].1=y1 at *;generalize l[k].2=y2 at *;clear q2 x2 T4 q3 Ib hg s2 bw aE bQ;go_wp2_with (first | (at_builtin;refine wpList_append_run 153 rfl (.tmp 17) (.tmp 21) rfl rfl _ _ rfl rfl _ _ A4 ?_))
   clear A4;go_wp2;go_roundw
   case rel=>exact ⟨k+1,a',c',by omega,rfl,by go_num,jx.out,bL.out⟩
   case measure=>simp [intOf];omega
  ·have nG:k=l.length:=by have:=HN.out;omega
   have dn:l.take k=l:=ao (by omega)
   rw [dn] at aE;have jx:=ab aE;have bL:=ab bQ;have dE:¬ (k:Int)<(n:Int):=by omega
   clear aE bQ dn nG;go_wp2;go_ret;exact ⟨_,rfl,jx.out,bL.out⟩
theorem PQ(A:Nat→Addr)(kd id tx c:Value)(cn:Int)(body:ByteArray)(hc:c = .int .i64 cn)(w:World)(h0:0≤cn)(hd:B.uM cn.toNat body.data.toList)(hE:B.p9 A w):Calls prog 175 #[.agg #[kd,id,tx,c,.string body]] w fun e w'=>∃ b pv lv cv,e = .returned (.tuple #[.pointer (some ⟨b,0,none⟩),.nilIface])∧dP w' b ⟨[],B.FC (bX body.data.toList cn.toNat),B.Bu (bX body.data.toList cn.toNat),B2 (B.FC (bX body.data.toList cn.toNat)) (B.Bu (bX body.data.toList cn.toNat))⟩ pv lv cv∧Below w.heap.size w w':=by
 subst hc;have q0:=ai w (.cells #[kd,id,tx,.int .i64 cn,.string body] 87);have x0:=B.au.new w #[kd,id,tx,.int .i64 cn,.string body] 87;have k3:(w.alloc (.cells #[kd,id,tx,.int .i64 cn,.string body] 87)).cell? ⟨w.heap.size,3,none⟩=some (.int .i64 cn):=x0.cell 3 (by simp)
 have k4:(w.alloc (.cells #[kd,id,tx,.int .i64 cn,.string body] 87)).cell? ⟨w.heap.size,4,none⟩=some (.string body):=x0.cell 4 (by simp)
 obtain ⟨f,hf⟩ : ∃ f,f=B.FC (bX body.data.toList cn.toNat):=⟨_,rfl⟩;obtain ⟨l,hl⟩ : ∃ l,l=B.Bu (bX body.data.toList cn.toNat):=⟨_,rfl⟩;have vi:=B.iX hd.2.2;rw [← hf,← hl] at vi;have nk:(∀ p ∈ l,cV p.1)∧l.length≤3000:=by
  have:=B.py l;exact ⟨fun p hp=>by have:=B.jN (vi.2.2.1 p hp);exact ⟨this.1,this.2.1⟩,by omega⟩
 have nC:Hid (Calls prog 116 #[.int .i64 cn,.string body] (w.alloc (.cells #[kd,id,tx,.int .i64 cn,.string body] 87)) fun e w'=>∃ (ua:Option Addr) (uc:Nat),e = .returned (.tuple #[.agg #[.int .i64 f,.slice ua l.length uc],.nilIface])∧B.dm w' (.slice ua l.length uc) l∧Below w.heap.size w w'):=by
  refine (B.yW A cn body _ (hE.below q0)).mono fun e w' ⟨hv,hb⟩=>?_
  rcases hv with ⟨_,_,u,he,ho⟩ | ⟨fl,_⟩
  ·rw [← hl] at ho;rw [← hf] at he;obtain ⟨ua,uc,hu⟩:=ho.form;subst hu;exact ⟨ua,uc,he,ho.at,Below.next q0 hb⟩
  ·exact absurd ⟨h0,hd⟩ fl
 rw [← hl,← hf];obtain ⟨N,hN⟩ : ∃ N,N=l.length:=⟨_,rfl⟩;rw [← hN] at nC;have SV:=ab nk;clear q0 x0 hl hf vi nk hd h0 hE hN;go_enter func175,ntmps175;go_wp2_with fail;refine nC.out.mono ?_
 rintro e w1 ⟨ua,uc,rfl,hr,aO⟩;have q2:=ai w1 (.cells #[.int .i64 f,.slice ua N uc] 150);have x2:=B.au.new w1 #[.int .i64 f,.slice ua N uc] 150;have nL:=ab x2;have bL:=ab (Below.next aO q2);have pe:=ab (hr.below q2);clear q2 x2 hr aO nC k3 k4;go_wp2_with fail;generalize w1.alloc (.cells #[.int .i64 f,.slice ua N uc] 150)=W2 at *;generalize w1.heap.size=k2 at *;have k0:=nL.out.c0;have k1:=nL.out.c1;obtain ⟨M,hM⟩ : ∃ M,M=(B2 f l).length:=⟨_,rfl⟩;have N9:Hid (Calls prog 220 #[.agg #[.int .i64 f,.slice ua N uc]] W2.drew fun e w'=>∃ (ca:Option Addr) (cc:Nat),e = .returned (.slice ca M cc)∧C.dm w' (.slice ca M cc) (B2 f l)∧Below W2.heap.size W2 w'):=by
  refine (DY f _ l W2.drew (by have:=SV.out.2;omega) pe.out.drew).mono fun e w' ⟨u,h1,h2,h3⟩=>?_
  obtain ⟨ca,cc,hu⟩:=h2.form;subst hu;rw [← hM] at h1 h2;exact ⟨ca,cc,h1,h2.at,B.dy h3⟩
 have YD:Hid ((B2 f l).length≤4001):=by show _≤_;rw [wj];have:=SV.out.2;omega
 clear hM;go_region_held3 (fun w'=>w'.cell? ⟨k2,0,none⟩=some (.int .i64 f)∧w'.cell? ⟨k2,1,none⟩=some (.slice ua N uc)) (go_keep)
  (first
   | (go_at_call 220;refine N9.out.mono ?_;rintro e w3 ⟨ca,cc,rfl,nF,bW⟩;have SS:=ab nF;have eH:=ab bW;have m0:=(nL.out.below bW).c0;have m1:=(nL.out.below bW).c1;clear nF bW))
 all_goals (
  have q:=ai w3 (.cells #[.slice none 0 0,.int .i64 f,.slice ua N uc,.slice ca M cc] 155);have xr:=B.au.new w3 #[.slice none 0 0,.int .i64 f,.slice ua N uc,.slice ca M cc] 155;have HR:Hid (dP (w3.alloc (.cells #[.slice none 0 0,.int .i64 f,.slice ua N uc,.slice ca M cc] 155)) w3.heap.size ⟨[],f,l,B2 f l⟩ (.slice none 0 0) (.slice ua N uc) (.slice ca M cc)):=⟨xr,gM.nil _,(pe.out.below eH.out).below q,SS.out.below q,(fun p hp=>by simp at hp),by simp,SV.out.1,by have:=SV.out.2;show l.length≤4000;omega,YD.out⟩
  have mU:=ab (Below.next (Below.next bL.out eH.out) q);clear q xr;go_wp2;go_ret2;exact ⟨_,_,_,_,rfl,HR.out,mU.out⟩)
theorem oA(w:World):Calls prog 43 #[.int .i64 0] w fun e w'=>e = .returned .nilIface∧w=w':=by
 go_enter func43,ntmps43;go_wp2;go_ret;exact ⟨rfl,rfl⟩
theorem oB(id:Int)(w:World)(h:¬ id=0):Calls prog 43 #[.int .i64 id] w fun e w'=>e = .returned (C.Ch.pg id).val∧w=w':=by
 have h1:(id == 0)=false:=by simp [h]
 go_enter func43,ntmps43;go_wp2;go_ret;exact ⟨rfl,rfl⟩
end T
end Go.Proofs.YtihmgigfkmofnaaGreatDoor
