import Derived.Test.YtihmgigfkmofnaaGreatDoorG13
import Derived.Test.YtihmgigfkmofnaaGreatDoorG09
set_option maxHeartbeats 4000000
set_option maxRecDepth 20000
open Go.Proofs.Tryz
namespace Go.Proofs.YtihmgigfkmofnaaGreatDoor
namespace B
open Go.RowKit
theorem Vl(g n:Nat)(h1:1≤n):∃ a',(1<n→a'=some ⟨g,1,none⟩)∧∀ w,(Instr.sliceAt 231 (.slice (some ⟨g,0,none⟩) n n) (some (.int .i64 1)) none none).run prog w = .ok (.slice a' (n - 1) (n - 1)) w:=by
 refine ⟨if n=1 then some ⟨g,0,none⟩ else some ⟨g,1,none⟩,fun h=>by rw [if_neg (by omega)],fun w=>?_⟩
 rw [run_sliceAt_slice (h:=underlying231),run_slice_l (ht:=underlying231) (h0:=by omega) (h1:=by omega)]
 have hz:(sizeOf (prog.elem 231)).run prog w = .ok 1 w:=by kernel_rfl
 rw [hz];simp [Result.andThen,sliced,bz]
theorem pJ.four{A:Nat→Addr}{w:World}(h:pJ A w):dA 4 eR A w:=h.1.JJ (by decide)
theorem nc(g n:Nat)(L:List ByteArray)(w:World)(hn:n=L.length)(nL:n≤2036)(fH:∀ c ∈ L,c.size≤4072)(hc:∀ j (h:j<L.length),w.cell? ⟨g,j,none⟩=some (.string L[j])):Calls prog 155 #[.slice (some ⟨g,0,none⟩) n n] w fun e w'=>∃ (x:Int) (ua:Option Addr) (un uc:Nat),e = .returned (.tuple #[.agg #[.int .i64 x,.slice ua un uc],.bool (yN L)])∧(yN L=true→x=Fp L∧b6 w' w.heap.size (.slice ua un uc) (BL L))∧Below w.heap.size w w':=by
 have q0:=ai w (.cells #[.int .i64 0,.slice none 0 0] 150);have x0:=au.new w #[.int .i64 0,.slice none 0 0] 150;have HQ:=ab q0;have HX:=ab x0;cases L with
 | nil =>
  subst hn;have fJ:yN []=false:=rfl;have kB:=ab fJ;clear q0 x0 fH hc fJ;rw [List.length_nil];go_enter func155,ntmps155;go_wp2;exact bodyPost_ret (aK rfl _ _ w.heap.size 150 _ (0,0) _ rfl HX.out underlying150 rfl (by kernel_rfl)) rfl ⟨_,_,_,_,by rw [kB.out];rfl,fun h=>(by rw [kB.out] at h;cases h),HQ.out⟩
 | cons c cs =>
  have Aq:n=cs.length+1:=by rw [hn];rfl
  have GX:((n:Int) == 0)=false:=by rw [beq_eq_false_iff_ne];omega
  have c0:(w.alloc (.cells #[.int .i64 0,.slice none 0 0] 150)).cell? ⟨g,0,none⟩=some (.string c):=by
   have:=hc 0 (by simp)
   simp only [List.getElem_cons_zero] at this;exact (q0.cell (p:=⟨g,0,none⟩) (World.block_lt_of_cell? w _ this)).trans this
  have s7:∀ j (h:j<cs.length),(w.alloc (.cells #[.int .i64 0,.slice none 0 0] 150)).cell? ⟨g,1+j,none⟩=some (.string cs[j]):=fun j h=>by
   have:=hc (j+1) (by simpa using h)
   simp only [List.getElem_cons_succ] at this;rw [Nat.add_comm 1 j];exact (q0.cell (p:=⟨g,j+1,none⟩) (World.block_lt_of_cell? w _ this)).trans this
  generalize Cc:w.alloc (.cells #[.int .i64 0,.slice none 0 0] 150)=W0 at *;obtain ⟨a',Z5,qq⟩:=Vl g n (by omega)
  have Vg:=ab (uy c W0);have HLS:Hid (∀ W,Below W0.heap.size W0 W→Calls prog 193 #[.slice a' (n - 1) (n - 1)] W fun e w'=>((cs.all tQ=true∧∃ u,e = .returned (.tuple #[u,.bool true])∧b6 w' W.heap.size u (cs.map fD))∨(cs.all tQ=false∧e = .returned (.tuple #[.slice none 0 0,.bool false])))∧Below W.heap.size W w'):=fun W h =>
   DB g 1 (n - 1) (n - 1) cs W (by omega) (by omega) (fun d hd=>fH d (dQ _ hd)) (fun j hj=>(h.cell (p:=⟨g,1+j,none⟩) (World.block_lt_of_cell? W0 _ (s7 j hj))).trans (s7 j hj)) a' (fun h=>Z5 (by omega))
  have n1:(1:Int)≤(n:Int):=by omega
  have zm:Hid (yN (c::cs)=(decide (c.size=4) && cs.all tQ)):=by show _=_;rfl
  have HF:Hid (c.size=4→yQ c=Fp (c::cs)):=fun h=>by unfold yQ Fp;rw [if_pos h]
  have HL:Hid (BL (c::cs)=cs.map fD):=by show _=_;simp [BL]
  obtain ⟨kc,Fj⟩ : ∃ kc,kc=yQ c:=⟨_,rfl⟩;rw [← Fj] at Vg HF;generalize n - 1=nm at *;have Hr:=ab HX.out;clear hn Aq hc fH s7 Z5 Fj x0 q0;go_enter func155,ntmps155;go_wp2_with fail;refine Vg.out.mono ?_
  rintro e w1 ⟨rfl,aL⟩;have bP:=ab aL;have aaQ:=ab (HLS.out _ aL);clear aL Vg HLS c0;go_wp2_with fail;refine aaQ.out.mono ?_
  rintro e w2 ⟨hv,aU⟩;have hx:=HX.out.below (Below.next bP.out aU);have r0:=hx.c0;have r1:=hx.c1;have z0:=hx.free 0;have z1:=hx.free 1;have Ju:=ab hx;have bH:=ab (Below.next HQ.out (Below.next bP.out aU));have gD:Hid (w.heap.size<w1.heap.size∧w.heap.size≤w1.heap.size):=by
   have h1:=HX.out.lt;have h2:=bP.out.size;exact ⟨by omega,by omega⟩
  clear aU hx aaQ qq;rcases hv with ⟨df,u,rfl,ho⟩ | ⟨df,rfl⟩
  ·obtain ⟨ua,uc,hu⟩:=ho.form;subst hu;rw [df] at zm;have HO:=ab ho;generalize (cs.map fD).length=un at *;clear ho df;cases h4:decide (c.size=4) with
   | true =>
    rw [h4] at zm;have H4:=ab (of_decide_eq_true h4);clear h4;go_wp2_with fail;refine bodyPost_ret (aK rfl _ _ w.heap.size 150 _ (0,0) _ rfl (Ju.out.two _ _) underlying150 rfl (by kernel_rfl)) rfl ⟨kc,ua,un,uc,by rw [zm.out];rfl,fun _=>⟨HF.out H4.out,?_⟩,b9 bH.out (aj _)⟩
    rw [HL.out];exact (HO.out.wG gD.out.1 _ _).mono gD.out.2
   | false =>
    rw [h4] at zm;clear h4;go_wp2_with fail;exact bodyPost_ret (aK rfl _ _ w.heap.size 150 _ (0,0) _ rfl (Ju.out.two _ _) underlying150 rfl (by kernel_rfl)) rfl ⟨kc,ua,un,uc,by rw [zm.out];rfl,fun h=>(by rw [zm.out] at h;cases h),b9 bH.out (aj _)⟩
  ·rw [df,Bool.and_false] at zm;clear df;cases h4:decide (c.size=4) with
   | true =>
    clear h4;go_wp2_with fail;exact bodyPost_ret (aK rfl _ _ w.heap.size 150 _ (0,0) _ rfl (Ju.out.two _ _) underlying150 rfl (by kernel_rfl)) rfl ⟨kc,none,0,0,by rw [zm.out];rfl,fun h=>(by rw [zm.out] at h;cases h),b9 bH.out (aj _)⟩
   | false =>
    clear h4;go_wp2_with fail;exact bodyPost_ret (aK rfl _ _ w.heap.size 150 _ (0,0) _ rfl (Ju.out.two _ _) underlying150 rfl (by kernel_rfl)) rfl ⟨kc,none,0,0,by rw [zm.out];rfl,fun h=>(by rw [zm.out] at h;cases h),b9 bH.out (aj _)⟩
def abh(A:Nat→Addr)(c:Int)(s:ByteArray)(base:Nat)(e:Ending)(w:World):Prop :=
 (0≤c∧uZ c.toNat s.data.toList∧∃ u,e = .returned (.tuple #[.agg #[.int .i64 (Fp (bX s.data.toList c.toNat)),u],.nilIface])∧b6 w base u (BL (bX s.data.toList c.toNat))) ∨
  (¬ (0≤c∧uZ c.toNat s.data.toList)∧e = .returned (.tuple #[.agg #[.int .i64 0,.slice none 0 0],.iface 360 (.pointer (some (A 1)))]))
theorem uz{b:List UInt8}{n:Nat}(h:Mn b n):∀ x ∈ bX b n,x.size≤4072:=fun x hx=>by
 obtain ⟨i,hi,rfl⟩:=aQ hx;rw [← bsize,mZ b n i hi];unfold yb;rw [ag,ao];have:=h.1.2;omega
theorem ER(A:Nat→Addr)(c:Int)(s:ByteArray)(w:World)(hE:pJ A w):Calls prog 116 #[.int .i64 c,.string s] w fun e w'=>abh A c s w.heap.size e w'∧Below w.heap.size w w':=by
 have q0:=ai w (.cells #[.int .i64 0,.slice none 0 0] 150);have x0:=au.new w #[.int .i64 0,.slice none 0 0] 150;have hE0:=hE.below q0;have xH:1<w.heap.size:=World.block_lt_of_cell? w _ ((hE.1.1 1 (by decide)).1)
 have xB:(w.alloc (.cells #[.int .i64 0,.slice none 0 0] 150)).heap.size=w.heap.size+1:=by simp
 generalize Cc:w.alloc (.cells #[.int .i64 0,.slice none 0 0] 150)=W0 at *;have Mo:=ab (lY A c s W0 hE0.four);have HE:=ab hE0;have HX:=ab x0;have HQ:=ab q0;have HS0:=ab xB;have b1:¬ 1=w.heap.size:=by omega
 have b2:¬ w.heap.size=1:=by omega
 have HG:Hid (∀ W,Below W0.heap.size W0 W→W.cell? ⟨1,0,none⟩=some (.iface 360 (.pointer (some (A 1))))):=fun W h=>((HE.out.below h).1.1 1 (by decide)).1
 clear hE hE0 q0 x0 xH xB;go_enter func116,ntmps116;go_wp2_with fail;refine Mo.out.mono ?_
 rintro e w1 ⟨hv,aL⟩;have bP:=ab aL;clear aL Mo;rcases hv with ⟨xL,D4,g,rfl,aE⟩ | ⟨fJ,rfl⟩
 ·obtain ⟨n,hn⟩ : ∃ n,n=c.toNat:=⟨_,rfl⟩;have HC0:=ab xL;have aaH:=ab D4;have WL:=ab hn;rw [← hn] at D4 aE ⊢;obtain ⟨L,hL⟩ : ∃ L,L=bX s.data.toList n:=⟨_,rfl⟩;have Lj:n=L.length:=by rw [hL,fY]
  have hLs:∀ x ∈ L,x.size≤4072:=by rw [hL];exact uz D4
  rw [← hL] at aE;have nL:n≤2036:=D4.1.1;have bh:∀ j (h:j<L.length),w1.cell? ⟨g,j,none⟩=some (.string L[j]):=fun j h=>by
   rw [World.ownsRow.cellAt aE j (by omega)]
   exact CC L j h
  have XV:=ab (nc g n L w1 Lj nL hLs bh);have HL:=ab hL;have E3:=ab Lj;clear D4 aE bh Lj hLs hL hn xL;go_wp2_with fail;refine XV.out.mono ?_
  rintro e w2 ⟨x,ua,un,uc,rfl,UN,aU⟩;have q2:=ai w2 (.cells #[.int .i64 x,.slice ua un uc] 150);have x2:=au.new w2 #[.int .i64 x,.slice ua un uc] 150;have bH:=ab (Below.next bP.out (Below.next aU q2));have WD:=ab bP.out.size;have hx:=HX.out.below bH.out;have r0:=hx.c0;have r1:=hx.c1;have z0:=hx.free 0;have z1:=hx.free 1;have Ju:=ab hx;have cg:=HG.out _ bH.out;have t0:=x2.c0;have t1:=x2.c1;cases yX:yN L with
  | false =>
   have kB:Hid (¬ (0≤c∧uZ c.toNat s.data.toList)):=fun h=>by
    have:=h.2.2.1;rw [← WL.out,← HL.out,yX] at this;cases this
   clear UN aU q2 x2 yX hx XV;go_wp2_with fail;generalize w2.alloc (.cells #[.int .i64 x,.slice ua un uc] 150)=W2 at *;go_region_held3 (fun w'=>w'.cell? ⟨1,0,none⟩=some (.iface 360 (.pointer (some (A 1))))) (go_keep) (fail)
   all_goals
    clear r0 r1 z0 z1 cg t0 t1;go_wp2_with fail;exact bodyPost_ret (aK rfl _ _ w.heap.size 150 _ (0,0) _ rfl (Ju.out.two _ _).drew underlying150 rfl (by kernel_rfl)) rfl ⟨.inr ⟨kB.out,rfl⟩,aO (b9 (Below.next HQ.out bH.out) (aj _))⟩
  | true =>
   obtain ⟨hxf,ho⟩:=UN yX;obtain ⟨l,hl⟩ : ∃ l,l=BL L:=⟨_,rfl⟩;rw [← hl] at ho;have Yz:un=l.length:=by
    obtain ⟨_,_,he⟩:=ho.form;cases he;rfl
   have Zr:l.length≤2036:=by rw [hl];simp only [BL,az,ao];have:=E3.out;omega
   have Y5:UX l:=fun p hp=>by
    rw [hl] at hp;simp only [BL,List.mem_map] at hp;obtain ⟨d,hd,rfl⟩:=hp;have hds:d.size≤4072:=by
     have:d ∈ bX s.data.toList n:=by rw [← HL.out];exact bG hd
     have D4:=aaH.out;rw [← WL.out] at D4;exact uz D4 d this
    simp only [fD,ByteArray.size_extract];omega
   have HO:=ab (ho.below q2);have nO:=ab (yg A x _ l true _ Y5 (by omega) (ho.below q2).at (HE.out.below bH.out))
   have lU:=ab hl;have HXF:=ab hxf;have zm:=ab yX;have nB:=ab x2;have ajl:=ab (ar WD.out aU.size);clear UN aU q2 x2 yX hx XV ho hxf hl Yz Zr Y5;go_wp2_with fail;generalize w2.alloc (.cells #[.int .i64 x,.slice ua un uc] 150)=W2 at *;refine nO.out.mono ?_
   rintro e w3 ⟨rfl,bT⟩;have hx:=Ju.out.below bT;have yA:=ab hx;have eG:=ab (Below.next bH.out bT);have BY:=ab (HO.out.below bT);have vu:=nB.out.below bT;clear bT nO r0 r1 z0 z1 t0 t1 cg;have r0:=hx.c0;have r1:=hx.c1;have z0:=hx.free 0;have z1:=hx.free 1;have t0:=vu.c0;have t1:=vu.c1;have cg:=HG.out _ eG.out;clear hx vu;cases lu:mX x l true with
   | some k =>
    have kB:Hid (¬ (0≤c∧uZ c.toNat s.data.toList)):=fun h=>by
     have:=h.2.2.2;rw [← WL.out,← HL.out,← lU.out,← HXF.out,lu] at this;cases this
    have D6:=fun W=>eZ (some (A k)) W
    clear lu;unfold ig;go_wp2_with fail;go_region_held3 (fun w'=>w'.cell? ⟨1,0,none⟩=some (.iface 360 (.pointer (some (A 1))))) (go_keep) (fail)
    all_goals
     clear r0 r1 z0 z1 cg t0 t1;go_wp2_with fail;exact bodyPost_ret (aK rfl _ _ w.heap.size 150 _ (0,0) _ rfl (yA.out.two _ _).drew underlying150 rfl (by kernel_rfl)) rfl ⟨.inr ⟨kB.out,rfl⟩,aO (b9 (Below.next HQ.out eG.out) (aj _))⟩
   | none =>
    have adY:Hid (uZ c.toNat s.data.toList):=by
     refine ⟨aaH.out,?_,?_⟩
     ·rw [← WL.out,← HL.out];exact zm.out
     ·rw [← WL.out,← HL.out,← lU.out,← HXF.out];exact lu
    clear lu;unfold ig;go_wp2_with fail;refine bodyPost_ret (aK rfl _ _ w.heap.size 150 _ (0,0) _ rfl (yA.out.two _ _) underlying150 rfl (by kernel_rfl)) rfl ⟨.inl ⟨HC0.out,adY.out,.slice ua un uc,?_,?_⟩,b9 (Below.next HQ.out eG.out) (aj _)⟩
    ·rw [← WL.out,← HL.out,← HXF.out];rfl
    ·rw [← WL.out,← HL.out,← lU.out];exact (BY.out.wG (by have:=WD.out;have:=HS0.out;omega) _ _).mono (by have:=WD.out;have:=HS0.out;omega)
 ·have kB:Hid (¬ (0≤c∧uZ c.toNat s.data.toList)):=fun h=>fJ ⟨h.1,h.2.1⟩
  have hx:=HX.out.below bP.out;have r0:=hx.c0;have r1:=hx.c1;have z0:=hx.free 0;have z1:=hx.free 1;have Ju:=ab hx;have cg:=HG.out _ bP.out;have D6:=fun W=>eZ (some (A 1)) W
  clear fJ hx;go_wp2_with fail;go_region_held3 (fun w'=>w'.cell? ⟨1,0,none⟩=some (.iface 360 (.pointer (some (A 1))))) (go_keep) (fail)
  all_goals
   clear r0 r1 z0 z1 cg;go_wp2_with fail;exact bodyPost_ret (aK rfl _ _ w.heap.size 150 _ (0,0) _ rfl (Ju.out.two _ _).drew underlying150 rfl (by kernel_rfl)) rfl ⟨.inr ⟨kB.out,rfl⟩,aO (b9 (Below.next HQ.out bP.out) (aj _))⟩
end B
namespace T
open Go.RowKit
theorem Ou(A:Nat→Addr)(kd id tx c:Value)(cn:Int)(body:ByteArray)(hc:c = .int .i64 cn)(w:World)(h0:0≤cn)(hd:mD cn.toNat body.data.toList)(hE:jL A w):Calls prog 174 #[.agg #[kd,id,tx,c,.string body]] w fun e w'=>∃ b pv lv cv,e = .returned (.tuple #[.pointer (some ⟨b,0,none⟩),.nilIface])∧dH w' b ⟨BG cn.toNat body.data.toList,0,[],[]⟩ pv lv cv∧Below w.heap.size w w':=by
 subst hc;have q0:=ai w (.cells #[kd,id,tx,.int .i64 cn,.string body] 87);have x0:=B.au.new w #[kd,id,tx,.int .i64 cn,.string body] 87;have k3:(w.alloc (.cells #[kd,id,tx,.int .i64 cn,.string body] 87)).cell? ⟨w.heap.size,3,none⟩=some (.int .i64 cn):=x0.cell 3 (by simp)
 have k4:(w.alloc (.cells #[kd,id,tx,.int .i64 cn,.string body] 87)).cell? ⟨w.heap.size,4,none⟩=some (.string body):=x0.cell 4 (by simp)
 obtain ⟨l,hl⟩ : ∃ l,l=BG cn.toNat body.data.toList:=⟨_,rfl⟩;have xK:=rQ hd.2.2;have mT:(∀ p ∈ l,cO p=true)∧l.length≤4000:=by
  have e:(bX body.data.toList cn.toNat).map dt=l:=by rw [hl];rfl
  rw [e] at xK;have:=iw l;exact ⟨xK.1,by omega⟩
 have tH:Hid (Calls prog 114 #[.int .i64 cn,.string body] (w.alloc (.cells #[kd,id,tx,.int .i64 cn,.string body] 87)) fun e w'=>∃ (ua:Option Addr) (uc:Nat),e = .returned (.tuple #[.slice ua l.length uc,.nilIface])∧gG w' (.slice ua l.length uc) l∧Below w.heap.size w w'):=by
  refine (DE A cn body _ (hE.below q0)).mono fun e w' ⟨hv,hb⟩=>?_
  rcases hv with ⟨_,_,u,he,ho⟩ | ⟨fJ,_⟩
  ·rw [← hl] at ho;obtain ⟨ua,uc,hu⟩:=ho.form;subst hu;exact ⟨ua,uc,he,ho.at,Below.next q0 hb⟩
  ·exact absurd ⟨h0,hd⟩ fJ
 rw [← hl];obtain ⟨N,hN⟩ : ∃ N,N=l.length:=⟨_,rfl⟩;rw [← hN] at tH;have Rz:=ab mT;clear q0 x0 hl xK mT hd h0 hE hN;go_enter func174,ntmps174;go_wp2_with fail;refine tH.out.mono ?_
 rintro e w1 ⟨ua,uc,rfl,hr,aL⟩;have q:=ai w1 (.cells #[.slice ua N uc,.int .i64 0,.slice none 0 0,.slice none 0 0] 155);have xr:=B.au.new w1 #[.slice ua N uc,.int .i64 0,.slice none 0 0,.slice none 0 0] 155;have HR:Hid (dH (w1.alloc (.cells #[.slice ua N uc,.int .i64 0,.slice none 0 0,.slice none 0 0] 155)) w1.heap.size ⟨l,0,[],[]⟩ (.slice ua N uc) (.slice none 0 0) (.slice none 0 0)):=⟨xr,hr.below q,B.di.nil _,(C.b6.nil _ 0).at,Rz.out.1,Rz.out.2,(fun p hp=>by simp at hp),by simp,by simp⟩
 have mJ:=ab (Below.next aL q);clear q xr hr aL tH k3 k4;go_wp2;go_ret2;exact ⟨_,_,_,_,rfl,HR.out,mJ.out⟩
def Ba(f:Int)(l:List B.Lk):List C.Ch:=.pg f::l.map (fun p=>.pg p.2)
theorem vh(f:Int)(l:List B.Lk):(Ba f l).length=l.length+1:=by simp [Ba]
theorem NY(f:Int)(l:List B.Lk)(k:Nat)(h:k<l.length):Ba f (l.take (k+1))=Ba f (l.take k)++[.pg l[k].2]:=by
 unfold Ba;rw [ay h,bt];rfl
theorem VA(w:World)(p:C.Ch)(t:TypeId):C.di (w.alloc (.cells #[p.val] t)) (.slice (some ⟨w.heap.size,0,none⟩) 1 1) [p] :=
 ⟨_,1,rfl,aj _,fun h=>by simp at h,fun j x hj=>by
  have lL:j<1:=(List.getElem?_eq_some_iff.1 hj).1;have K7:j=0:=by omega
  subst K7;cases hj;exact ⟨_,_,rfl,(bL w #[p.val] t).2 0 (by simp)⟩⟩
theorem C8(f:Int)(v:Value)(l:List B.Lk)(w:World)(hm:l.length≤4000)(hr:B.di w v l):Calls prog 220 #[.agg #[.int .i64 f,v]] w fun e w'=>∃ u,e = .returned u∧C.b6 w' w.heap.size u (Ba f l)∧Below w.heap.size w w':=by
 obtain ⟨a,c,hv⟩:=hr.form;subst hv;obtain ⟨n,hn⟩ : ∃ n,n=l.length:=⟨_,rfl⟩;rw [← hn] at hr ⊢;have q0:=ai w (.cells #[.int .i64 f,.slice a n c] 150);have x0:=B.au.new w #[.int .i64 f,.slice a n c] 150;have q1:=ai (w.alloc (.cells #[.int .i64 f,.slice a n c] 150)) (.cells #[.iface 146 (.int .i64 f)] 97);have k0:=x0.c0;have k1:=(x0.below q1).c1;have s0:(w.alloc (.cells #[.int .i64 f,.slice a n c] 150)).heap.size=w.heap.size+1:=by simp
 have ho:C.b6 ((w.alloc (.cells #[.int .i64 f,.slice a n c] 150)).alloc (.cells #[.iface 146 (.int .i64 f)] 97)) w.heap.size (.slice (some ⟨w.heap.size+1,0,none⟩) 1 1) (Ba f (l.take 0)):=by
  rw [← s0];exact World.ownsRow_lit (w.alloc (.cells #[.int .i64 f,.slice a n c] 150)) #[.iface 146 (.int .i64 f)] 1 (by rw [s0];omega) (by decide) rfl
 have HB:=ab (Below.next q0 q1);have HO:=ab ho;have HR:=ab hr;have HN:=ab hn;clear q0 x0 q1 s0 ho hr hn;go_enter func220,ntmps220;go_wp2;go_loopw [3,13] (fun u i wr=>∃ (k:Nat) (ua:Option Addr) (uc:Nat),k≤n∧u = .slice ua (k+1) uc∧i = .int .i64 (k:Int)∧C.b6 wr w.heap.size (.slice ua (k+1) uc) (Ba f (l.take k))∧Below w.heap.size w wr) (fun _ i _=>n - (intOf i).toNat)
 case atStart=>exact ⟨0,_,1,aD _,rfl,rfl,HO.out,HB.out⟩
 case round =>
  obtain ⟨k,ua,uc,hk,rfl,rfl,aE,bO⟩:=hrel;clear HO HB k0 k1;by_cases bN:k<n
  ·have cL:k<l.length:=by have:=HN.out;omega
   obtain ⟨g,o,ha,c1,c2⟩:=(HR.out.below bO).spot k cL;subst ha;have dP:(k:Int)<(n:Int):=by omega
   have Rk:(0:Int)≤(k:Int):=by omega
   have q2:=ai wr (.cells #[.string l[k].1,.int .i64 l[k].2] 179);have x2:=B.au.new wr #[.string l[k].1,.int .i64 l[k].2] 179;have k2:=x2.c1;have Ul:(Ba f (l.take k)).length=k+1:=by rw [vh,ag];omega
   have q3:=ai (wr.alloc (.cells #[.string l[k].1,.int .i64 l[k].2] 179)) (.cells #[.iface 146 (.int .i64 l[k].2)] 97);obtain ⟨a',c',w',bn,GN,hg⟩:=C.fi w.heap.size _ _ _ [.pg l[k].2] _ ((aE.below q2).below q3) (VA (wr.alloc (.cells #[.string l[k].1,.int .i64 l[k].2] 179)) (.pg l[k].2) 97) (by rw [Ul];simp;omega) (ar bO.size (ar q2.size q3.size))
   rw [Ul,← NY f l k cL] at GN;rw [Ul] at bn;rw [show k+1+([C.Ch.pg l[k].2] : List C.Ch).length=k+1+1 from rfl] at GN bn
   have bH:=ab ((Below.next (Below.next bO q2) q3).grown hg (ar bO.size (ar q2.size q3.size)) (fun j hj=>(aE.dr j hj).1))
   have jP:=ab GN;have s2:(wr.alloc (.cells #[.string l[k].1,.int .i64 l[k].2] 179)).heap.size=wr.heap.size+1:=by simp
   rw [s2] at bn;have Al:(Builtin.append_ #[153,153] 153 #[.slice ua (k+1) uc,.slice (some ⟨wr.heap.size+1,0,none⟩) 1 1]).run prog ((wr.alloc (.cells #[.string l[k].1,.int .i64 l[k].2] 179)).alloc (.cells #[.iface 146 (.int .i64 l[k].2)] 97)) = .ok (.slice a' (k+1+1) c') w':=bn;generalize l[k].1=y1 at *;generalize l[k].2=y2 at *;clear q2 x2 Ul q3 GN hg s2 bn aE bO;go_wp2_with (first | (at_builtin;refine wpList_append_run 153 rfl (.tmp 17) (.tmp 21) rfl rfl _ _ rfl rfl _ _ Al ?_))
   clear Al;go_wp2;go_roundw
   case rel=>exact ⟨k+1,a',c',by omega,rfl,by go_num,jP.out,bH.out⟩
   case measure=>simp [intOf];omega
  ·have nM:k=l.length:=by have:=HN.out;omega
   have df:l.take k=l:=al (by omega)
   rw [df] at aE;have jP:=ab aE;have bH:=ab bO;have dP:¬ (k:Int)<(n:Int):=by omega
   clear aE bO df nM;go_wp2;go_ret;exact ⟨_,rfl,jP.out,bH.out⟩
theorem Ov(A:Nat→Addr)(kd id tx c:Value)(cn:Int)(body:ByteArray)(hc:c = .int .i64 cn)(w:World)(h0:0≤cn)(hd:B.uZ cn.toNat body.data.toList)(hE:B.pJ A w):Calls prog 175 #[.agg #[kd,id,tx,c,.string body]] w fun e w'=>∃ b pv lv cv,e = .returned (.tuple #[.pointer (some ⟨b,0,none⟩),.nilIface])∧dH w' b ⟨[],B.Fp (bX body.data.toList cn.toNat),B.BL (bX body.data.toList cn.toNat),Ba (B.Fp (bX body.data.toList cn.toNat)) (B.BL (bX body.data.toList cn.toNat))⟩ pv lv cv∧Below w.heap.size w w':=by
 subst hc;have q0:=ai w (.cells #[kd,id,tx,.int .i64 cn,.string body] 87);have x0:=B.au.new w #[kd,id,tx,.int .i64 cn,.string body] 87;have k3:(w.alloc (.cells #[kd,id,tx,.int .i64 cn,.string body] 87)).cell? ⟨w.heap.size,3,none⟩=some (.int .i64 cn):=x0.cell 3 (by simp)
 have k4:(w.alloc (.cells #[kd,id,tx,.int .i64 cn,.string body] 87)).cell? ⟨w.heap.size,4,none⟩=some (.string body):=x0.cell 4 (by simp)
 obtain ⟨f,hf⟩ : ∃ f,f=B.Fp (bX body.data.toList cn.toNat):=⟨_,rfl⟩;obtain ⟨l,hl⟩ : ∃ l,l=B.BL (bX body.data.toList cn.toNat):=⟨_,rfl⟩;have xK:=B.kN hd.2.2;rw [← hf,← hl] at xK;have mT:(∀ p ∈ l,cQ p.1)∧l.length≤3000:=by
  have:=B.qU l;exact ⟨fun p hp=>by have:=B.kV (xK.2.2.1 p hp);exact ⟨this.1,this.2.1⟩,by omega⟩
 have tH:Hid (Calls prog 116 #[.int .i64 cn,.string body] (w.alloc (.cells #[kd,id,tx,.int .i64 cn,.string body] 87)) fun e w'=>∃ (ua:Option Addr) (uc:Nat),e = .returned (.tuple #[.agg #[.int .i64 f,.slice ua l.length uc],.nilIface])∧B.di w' (.slice ua l.length uc) l∧Below w.heap.size w w'):=by
  refine (B.ER A cn body _ (hE.below q0)).mono fun e w' ⟨hv,hb⟩=>?_
  rcases hv with ⟨_,_,u,he,ho⟩ | ⟨fJ,_⟩
  ·rw [← hl] at ho;rw [← hf] at he;obtain ⟨ua,uc,hu⟩:=ho.form;subst hu;exact ⟨ua,uc,he,ho.at,Below.next q0 hb⟩
  ·exact absurd ⟨h0,hd⟩ fJ
 rw [← hl,← hf];obtain ⟨N,hN⟩ : ∃ N,N=l.length:=⟨_,rfl⟩;rw [← hN] at tH;have Rz:=ab mT;clear q0 x0 hl hf xK mT hd h0 hE hN;go_enter func175,ntmps175;go_wp2_with fail;refine tH.out.mono ?_
 rintro e w1 ⟨ua,uc,rfl,hr,aL⟩;have q2:=ai w1 (.cells #[.int .i64 f,.slice ua N uc] 150);have x2:=B.au.new w1 #[.int .i64 f,.slice ua N uc] 150;have nB:=ab x2;have bH:=ab (Below.next aL q2);have oL:=ab (hr.below q2);clear q2 x2 hr aL tH k3 k4;go_wp2_with fail;generalize w1.alloc (.cells #[.int .i64 f,.slice ua N uc] 150)=W2 at *;generalize w1.heap.size=k2 at *;have k0:=nB.out.c0;have k1:=nB.out.c1;obtain ⟨M,hM⟩ : ∃ M,M=(Ba f l).length:=⟨_,rfl⟩;have TU:Hid (Calls prog 220 #[.agg #[.int .i64 f,.slice ua N uc]] W2.drew fun e w'=>∃ (ca:Option Addr) (cc:Nat),e = .returned (.slice ca M cc)∧C.di w' (.slice ca M cc) (Ba f l)∧Below W2.heap.size W2 w'):=by
  refine (C8 f _ l W2.drew (by have:=Rz.out.2;omega) oL.out.drew).mono fun e w' ⟨u,h1,h2,h3⟩=>?_
  obtain ⟨ca,cc,hu⟩:=h2.form;subst hu;rw [← hM] at h1 h2;exact ⟨ca,cc,h1,h2.at,B.dq h3⟩
 have WS:Hid ((Ba f l).length≤4001):=by show _≤_;rw [vh];have:=Rz.out.2;omega
 clear hM;go_region_held3 (fun w'=>w'.cell? ⟨k2,0,none⟩=some (.int .i64 f)∧w'.cell? ⟨k2,1,none⟩=some (.slice ua N uc)) (go_keep)
  (first
   | (go_at_call 220;refine TU.out.mono ?_;rintro e w3 ⟨ca,cc,rfl,pO,bT⟩;have Rw:=ab pO;have eG:=ab bT;have m0:=(nB.out.below bT).c0;have m1:=(nB.out.below bT).c1;clear pO bT))
 all_goals (
  have q:=ai w3 (.cells #[.slice none 0 0,.int .i64 f,.slice ua N uc,.slice ca M cc] 155);have xr:=B.au.new w3 #[.slice none 0 0,.int .i64 f,.slice ua N uc,.slice ca M cc] 155;have HR:Hid (dH (w3.alloc (.cells #[.slice none 0 0,.int .i64 f,.slice ua N uc,.slice ca M cc] 155)) w3.heap.size ⟨[],f,l,Ba f l⟩ (.slice none 0 0) (.slice ua N uc) (.slice ca M cc)):=⟨xr,gG.nil _,(oL.out.below eG.out).below q,Rw.out.below q,(fun p hp=>by simp at hp),by simp,Rz.out.1,by have:=Rz.out.2;show l.length≤4000;omega,WS.out⟩
  have mJ:=ab (Below.next (Below.next bH.out eG.out) q);clear q xr;go_wp2;go_ret2;exact ⟨_,_,_,_,rfl,HR.out,mJ.out⟩)
theorem oe(w:World):Calls prog 43 #[.int .i64 0] w fun e w'=>e = .returned .nilIface∧w=w':=by
 go_enter func43,ntmps43;go_wp2;go_ret;exact ⟨rfl,rfl⟩
theorem og(id:Int)(w:World)(h:¬ id=0):Calls prog 43 #[.int .i64 id] w fun e w'=>e = .returned (C.Ch.pg id).val∧w=w':=by
 have h1:(id == 0)=false:=by simp [h]
 go_enter func43,ntmps43;go_wp2;go_ret;exact ⟨rfl,rfl⟩
end T
end Go.Proofs.YtihmgigfkmofnaaGreatDoor
