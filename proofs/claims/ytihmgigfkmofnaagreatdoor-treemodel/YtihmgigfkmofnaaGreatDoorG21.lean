import Derived.Test.YtihmgigfkmofnaaGreatDoorG20
set_option maxHeartbeats 2000000
set_option maxRecDepth 100000
open Go.Proofs.Tryz
namespace Go.Proofs.YtihmgigfkmofnaaGreatDoor
namespace S
open Go.RowKit
def M6:Sh:=⟨0,0,0,0,⟨#[]⟩⟩
def fP(d:V.bq)(id:Int):V.bq × Sh × Nat :=
 if 2≤id∧id<1048576∧(id+1)*8≤d.size then
  if (d.read (id*8) 8).2.2=0 then ((d.read (id*8) 8).1,if gy (d.read (id*8) 8).2.1 id then (parse (d.read (id*8) 8).2.1,0) else (M6,2))
  else ((d.read (id*8) 8).1,M6,(d.read (id*8) 8).2.2)
 else (d,M6,1)
def sY:Obj:=.cells #[.int .i64 0,.int .i64 0,.int .u64 0,.int .i64 0,.string ⟨#[]⟩] 87
theorem Ks{d:V.bq}{s n:Int}(h0:0≤s)(h1:0≤n)(h2:s≤d.size - n)(h3:n≤1024):(d.read s n).2.2=if d.dead then 8 else 0:=by
 unfold V.bq.read;have hf:d.fits s n=true:=by unfold V.bq.fits;exact decide_eq_true ⟨h0,h1,h2⟩
 cases d.dead with
 | true=>rfl
 | false =>
  rw [hf];simp only [kK,if_false,pd];rw [if_neg (by omega)]
theorem Dg(a:Addr)(l:List UInt8)(id:Int):rF a l id=#[.agg (if gy l id then parse l else M6).cells.toArray,if gy l id then .nilIface else .iface 360 (.pointer (some a))]:=by
 unfold rF;split <;> rfl
theorem JN{w w2:World}{F F':Nat→Prop}(hs:V.Step F F' (w.alloc sY) w2)(hF:∀ k,F k→k<w.heap.size):w2.heap[w.heap.size]?=some (.cells #[.int .i64 0,.int .i64 0,.int .u64 0,.int .i64 0,.string ⟨#[]⟩] 87 (0,0)):=by
 rw [hs.block w.heap.size (by simp) (fun hf=>by have:=hF _ hf;omega)]
 exact heap_alloc_new w _
theorem yj{w w3:World}{b:Nat}{F:Nat→Prop}{d:V.bq}{u0 u1 u2 u3 u4:Value}(h:V.cO w3 b F d)(hs:V.Step F F w w3)(hF:∀ k,F k→k<w.heap.size)(En:V.Step (fun k=>k=b) (fun k=>k=b) w w3):V.cO (((((w3.setCell ⟨w.heap.size,0,none⟩ u0).setCell ⟨w.heap.size,1,none⟩ u1).setCell ⟨w.heap.size,2,none⟩ u2).setCell ⟨w.heap.size,3,none⟩ u3).setCell ⟨w.heap.size,4,none⟩ u4) b F d∧V.Step F F w (((((w3.setCell ⟨w.heap.size,0,none⟩ u0).setCell ⟨w.heap.size,1,none⟩ u1).setCell ⟨w.heap.size,2,none⟩ u2).setCell ⟨w.heap.size,3,none⟩ u3).setCell ⟨w.heap.size,4,none⟩ u4)∧V.Step (fun k=>k=b) (fun k=>k=b) w (((((w3.setCell ⟨w.heap.size,0,none⟩ u0).setCell ⟨w.heap.size,1,none⟩ u1).setCell ⟨w.heap.size,2,none⟩ u2).setCell ⟨w.heap.size,3,none⟩ u3).setCell ⟨w.heap.size,4,none⟩ u4):=by
 have h5:=@Ly w3 w.heap.size u0 u1 u2 u3 u4;refine ⟨h.keep h5 (fun k hk e=>by have:=hF k hk;omega),⟨h5.os.trans hs.os,h5.tape.trans hs.tape,h5.output.trans hs.output,al hs.size h5.size,fun q hq hn=>(h5.block q (ar hq hs.size) (by omega)).trans (hs.block q hq hn),fun q hq=>hs.sub q hq⟩,⟨h5.os.trans En.os,h5.tape.trans En.tape,h5.output.trans En.output,al En.size h5.size,fun q hq hn=>(h5.block q (ar hq En.size) (by omega)).trans (En.block q hq hn),fun q hq=>En.sub q hq⟩⟩
theorem KT(base:Nat)(A:Nat→Addr)(db:Nat)(F:Nat→Prop)(d:V.bq)(id:Int)(w:World)(hd:V.cO w db F d)(hE:Env base A w)(hF:∀ k,F k→base≤k):Calls prog 113 #[.pointer (some ⟨db,0,none⟩),.int .i64 id] w fun e w'=>e = .returned (.tuple #[.agg (fP d id).2.1.cells.toArray,V.iz A (fP d id).2.2])∧V.cO w' db F (fP d id).1∧V.Step F F w w'∧V.Step (fun k=>k=db) (fun k=>k=db) w w':=by
 have HE:=ab hE;have HD:=ab hd;have HFB:=ab hF;have HB:=ab (ai w sY);have HFl:=ab hd.lt;have HZ0:Hid (∀ w3,V.Step F F w w3→w3.heap[w.heap.size]?=some (.cells #[.int .i64 0,.int .i64 0,.int .u64 0,.int .i64 0,.string ⟨#[]⟩] 87 (0,0))→True):=fun _ _ _=>trivial
 have H9:Hid ((w.alloc sY).heap[w.heap.size]?=some (.cells #[.int .i64 0,.int .i64 0,.int .u64 0,.int .i64 0,.string ⟨#[]⟩] 87 (0,0))):=heap_alloc_new w _;have T5:=ab (sf id);clear hE hd hF HZ0;by_cases hid:2≤id∧id<1048576
 ·obtain ⟨Cr,vz⟩:=hid;have yU:0≤id:=by omega
  have HIT:Hid (∀ w,Calls prog 150 #[.int .i64 id] w fun e w'=>e = .returned (.bool true)∧w=w'):=fun w=>by
   have h:=T5.out w;rw [decide_eq_true ⟨Cr,vz⟩] at h;exact h
  clear T5;by_cases eE:(id+1)*8≤d.size
  ·have HDF:=ab (decide_eq_true eE);have UK:=Ks (d:=d) (s:=id*8) (n:=8) (by omega) (by omega) (by omega) (by omega)
   have WR:Hid (fP d id=if (d.read (id*8) 8).2.2=0 then ((d.read (id*8) 8).1,if gy (d.read (id*8) 8).2.1 id then (parse (d.read (id*8) 8).2.1,0) else (M6,2)) else ((d.read (id*8) 8).1,M6,(d.read (id*8) 8).2.2)):=by
    show fP d id=_
    unfold fP;rw [if_pos ⟨Cr,vz,eE⟩]
   have Vb:=ab (HD.out.below HB.out);have HEV:=ab (HE.out.up HB.out);have Mw:=ab (V.mm base A db F d (w.alloc sY) Vb.out HEV.out.errs (id*8) 8 (by decide))
   have FN:=ab (nj db F d id (w.alloc sY) Vb.out yU vz);rw [HDF.out] at FN;have MP:(d.read (id*8) 8).2.2=8∨(d.read (id*8) 8).2.2=0:=by rw [UK];cases d.dead <;> simp
   clear UK HDF eE;generalize d.read (id*8) 8=R at *;obtain ⟨Rd,Rl,Rc⟩:=R;simp only at MP WR;obtain ⟨ev,BP⟩ : ∃ ev,ev=V.iz A Rc:=⟨_,rfl⟩;have HRX:Hid (Calls prog 151 #[.pointer (some ⟨db,0,none⟩),.int .i64 (id*8),.int .i64 8] (w.alloc sY) fun e w'=>∃ va vc,e = .returned (.tuple #[.slice va Rl.length vc,ev])∧w'.ownsRow (w.alloc sY).heap.size 5 1 (.slice va Rl.length vc) Rl.length (dW Rl)∧V.cO w' db F Rd∧V.Step F F (w.alloc sY) w'∧V.Step (fun k=>k=db) (fun k=>k=db) (w.alloc sY) w'):=by
    refine Mw.out.mono ?_
    rintro e w2 ⟨v,P⟩;obtain ⟨va,vc,rfl,-⟩:=V.ib P.row;exact ⟨va,vc,by rw [BP];exact P.ret,P.row,P.dev,P.step,P.one⟩
   have aaO:=ab BP;clear Mw BP;go_enter func113,ntmps113;go_wp2_with fail;refine (HIT.out _).mono ?_
   rintro e W0' ⟨rfl,rfl⟩;go_wp2_with fail;refine FN.out.mono ?_
   rintro e W0' ⟨rfl,rfl⟩;go_wp2_with fail;refine (tR id _ yU (by omega)).mono ?_
   rintro e W0' ⟨rfl,rfl⟩;go_wp2_with fail;refine HRX.out.mono ?_
   rintro e w2 ⟨va,vc,rfl,bG,PL,hstp,Eo⟩;have im:Hid (V.Step (fun k=>k=db) (fun k=>k=db) w w2):=(V.Step.bA HB.out).trans Eo
   clear Eo;have o7:Hid (w2.heap[w.heap.size]?=some (.cells #[.int .i64 0,.int .i64 0,.int .u64 0,.int .i64 0,.string ⟨#[]⟩] 87 (0,0))):=JN hstp HFl.out;have Cz:=ab (Dh bG);have XO:=ab PL;have lI:Hid (V.Step F F w w2):=(V.Step.bA HB.out).trans hstp;have JK:=ab (HEV.out.step hstp HFB.out);clear bG PL hstp HRX FN;rcases MP with rfl | rfl
   ·have gj:=o7.out;have z0:w2.cell? ⟨w.heap.size,0,none⟩=some (.int .i64 0):=by rw [cell_of_row _ _ _ _ _ _ gj];rfl
    have z1:w2.cell? ⟨w.heap.size,1,none⟩=some (.int .i64 0):=by rw [cell_of_row _ _ _ _ _ _ gj];rfl
    have z2:w2.cell? ⟨w.heap.size,2,none⟩=some (.int .u64 0):=by rw [cell_of_row _ _ _ _ _ _ gj];rfl
    have z3:w2.cell? ⟨w.heap.size,3,none⟩=some (.int .i64 0):=by rw [cell_of_row _ _ _ _ _ _ gj];rfl
    have z4:w2.cell? ⟨w.heap.size,4,none⟩=some (.string ⟨#[]⟩):=by rw [cell_of_row _ _ _ _ _ _ gj];rfl
    have y0:w2.frozen? ⟨w.heap.size,0,none⟩=false:=frozen_of_row _ _ _ _ _ gj;have y1:w2.frozen? ⟨w.heap.size,1,none⟩=false:=frozen_of_row _ _ _ _ _ gj;have y2:w2.frozen? ⟨w.heap.size,2,none⟩=false:=frozen_of_row _ _ _ _ _ gj;have y3:w2.frozen? ⟨w.heap.size,3,none⟩=false:=frozen_of_row _ _ _ _ _ gj;have y4:w2.frozen? ⟨w.heap.size,4,none⟩=false:=frozen_of_row _ _ _ _ _ gj;have U6:Hid (fP d id=(Rd,M6,8)):=by show fP d id=_;rw [WR.out];rfl
    obtain rfl:ev = .iface 360 (.pointer (some (A 7))):=aaO.out;clear WR gj;go_wp2_with fail
    (try simp only [Exit.inBlock,Exit.then])
    rw [U6.out];refine bodyPost_ret (aM rfl _ _ w.heap.size 87 #[.int .i64 0,.int .i64 0,.int .u64 0,.int .i64 0,.string ⟨#[]⟩] (0,0) _ rfl (oy o7.out) underlying87 rfl (by kernel_rfl)) rfl ⟨rfl,?_⟩
    exact yj XO.out lI.out HFl.out im.out
   ·obtain rfl:ev = .nilIface:=aaO.out;have U6:Hid (fP d id=(Rd,if gy Rl id then (parse Rl,0) else (M6,2))):=by show fP d id=_;rw [WR.out];rfl
    have oc:=ab (mm (A 1) _ Rl id _ Cz.out JK.out.lay JK.out.tab JK.out.text);rw [Dg] at oc;clear WR;obtain ⟨sh,FD⟩ : ∃ sh,sh=if gy Rl id then parse Rl else M6:=⟨_,rfl⟩
    obtain ⟨er,her⟩ : ∃ er:Value,er=if gy Rl id then .nilIface else .iface 360 (.pointer (some (A 1))):=⟨_,rfl⟩
    rw [← FD,← her] at oc;have HLW:Hid ((fP d id).2.1=sh∧V.iz A (fP d id).2.2=er∧(fP d id).1=Rd):=by
     show _∧_∧_
     rw [U6.out,FD,her];split <;> exact ⟨rfl,rfl,rfl⟩
    clear FD her U6;obtain ⟨k5,i5,t5,c5,b5⟩:=sh;go_wp2_with fail;refine oc.out.mono ?_
    rintro e w3 ⟨rfl,bF⟩;have gj:w3.heap[w.heap.size]?=some (.cells #[.int .i64 0,.int .i64 0,.int .u64 0,.int .i64 0,.string ⟨#[]⟩] 87 (0,0)):=(bF.block _ ((Array.getElem?_eq_some_iff.1 o7.out).1)).trans o7.out;have RG:=ab gj;have HP3:=ab (XO.out.below bF);have MV:Hid (V.Step F F w w3):=lI.out.trans (V.Step.bA bF);have vC:Hid (V.Step (fun k=>k=db) (fun k=>k=db) w w3):=im.out.trans (V.Step.bA bF)
    have z0:w3.cell? ⟨w.heap.size,0,none⟩=some (.int .i64 0):=by rw [cell_of_row _ _ _ _ _ _ gj];rfl
    have z1:w3.cell? ⟨w.heap.size,1,none⟩=some (.int .i64 0):=by rw [cell_of_row _ _ _ _ _ _ gj];rfl
    have z2:w3.cell? ⟨w.heap.size,2,none⟩=some (.int .u64 0):=by rw [cell_of_row _ _ _ _ _ _ gj];rfl
    have z3:w3.cell? ⟨w.heap.size,3,none⟩=some (.int .i64 0):=by rw [cell_of_row _ _ _ _ _ _ gj];rfl
    have z4:w3.cell? ⟨w.heap.size,4,none⟩=some (.string ⟨#[]⟩):=by rw [cell_of_row _ _ _ _ _ _ gj];rfl
    have y0:w3.frozen? ⟨w.heap.size,0,none⟩=false:=frozen_of_row _ _ _ _ _ gj;have y1:w3.frozen? ⟨w.heap.size,1,none⟩=false:=frozen_of_row _ _ _ _ _ gj;have y2:w3.frozen? ⟨w.heap.size,2,none⟩=false:=frozen_of_row _ _ _ _ _ gj;have y3:w3.frozen? ⟨w.heap.size,3,none⟩=false:=frozen_of_row _ _ _ _ _ gj;have y4:w3.frozen? ⟨w.heap.size,4,none⟩=false:=frozen_of_row _ _ _ _ _ gj;have Q1:Hid ((⟨k5,i5,t5,c5,b5⟩ : Sh).cells.toArray=#[.int .i64 k5,.int .i64 i5,.int .u64 (t5:Int),.int .i64 c5,.string b5]):=rfl;rw [Q1.out];clear gj bF;go_wp2_with fail
    (try simp only [Exit.inBlock,Exit.then])
    rw [HLW.out.1,HLW.out.2.1,HLW.out.2.2];refine bodyPost_ret (aM rfl _ _ w.heap.size 87 #[.int .i64 k5,.int .i64 i5,.int .u64 (t5:Int),.int .i64 c5,.string b5] (0,0) _ rfl (oy RG.out) underlying87 rfl (by kernel_rfl)) rfl ⟨rfl,?_⟩
    exact yj HP3.out MV.out HFl.out vC.out
  ·have FN:=ab (nj db F d id (w.alloc sY) (HD.out.below HB.out) yU vz);rw [decide_eq_false eE] at FN;have U6:Hid (fP d id=(d,M6,1)):=by show fP d id=_;unfold fP;rw [if_neg (fun h=>eE h.2.2)]
   have cE:(w.alloc (.cells #[.int .i64 0,.int .i64 0,.int .u64 0,.int .i64 0,.string ⟨#[]⟩] 87)).cell? ⟨0,0,none⟩=some (.iface 360 (.pointer (some (A 0)))):=(HE.out.up HB.out).errs.arg;have gj:=H9.out;unfold sY at gj;have z0:(w.alloc (.cells #[.int .i64 0,.int .i64 0,.int .u64 0,.int .i64 0,.string ⟨#[]⟩] 87)).cell? ⟨w.heap.size,0,none⟩=some (.int .i64 0):=by rw [cell_of_row _ _ _ _ _ _ gj];rfl
   have z1:(w.alloc (.cells #[.int .i64 0,.int .i64 0,.int .u64 0,.int .i64 0,.string ⟨#[]⟩] 87)).cell? ⟨w.heap.size,1,none⟩=some (.int .i64 0):=by rw [cell_of_row _ _ _ _ _ _ gj];rfl
   have z2:(w.alloc (.cells #[.int .i64 0,.int .i64 0,.int .u64 0,.int .i64 0,.string ⟨#[]⟩] 87)).cell? ⟨w.heap.size,2,none⟩=some (.int .u64 0):=by rw [cell_of_row _ _ _ _ _ _ gj];rfl
   have z3:(w.alloc (.cells #[.int .i64 0,.int .i64 0,.int .u64 0,.int .i64 0,.string ⟨#[]⟩] 87)).cell? ⟨w.heap.size,3,none⟩=some (.int .i64 0):=by rw [cell_of_row _ _ _ _ _ _ gj];rfl
   have z4:(w.alloc (.cells #[.int .i64 0,.int .i64 0,.int .u64 0,.int .i64 0,.string ⟨#[]⟩] 87)).cell? ⟨w.heap.size,4,none⟩=some (.string ⟨#[]⟩):=by rw [cell_of_row _ _ _ _ _ _ gj];rfl
   have y0:(w.alloc (.cells #[.int .i64 0,.int .i64 0,.int .u64 0,.int .i64 0,.string ⟨#[]⟩] 87)).frozen? ⟨w.heap.size,0,none⟩=false:=frozen_of_row _ _ _ _ _ gj;have y1:(w.alloc (.cells #[.int .i64 0,.int .i64 0,.int .u64 0,.int .i64 0,.string ⟨#[]⟩] 87)).frozen? ⟨w.heap.size,1,none⟩=false:=frozen_of_row _ _ _ _ _ gj;have y2:(w.alloc (.cells #[.int .i64 0,.int .i64 0,.int .u64 0,.int .i64 0,.string ⟨#[]⟩] 87)).frozen? ⟨w.heap.size,2,none⟩=false:=frozen_of_row _ _ _ _ _ gj;have y3:(w.alloc (.cells #[.int .i64 0,.int .i64 0,.int .u64 0,.int .i64 0,.string ⟨#[]⟩] 87)).frozen? ⟨w.heap.size,3,none⟩=false:=frozen_of_row _ _ _ _ _ gj;have y4:(w.alloc (.cells #[.int .i64 0,.int .i64 0,.int .u64 0,.int .i64 0,.string ⟨#[]⟩] 87)).frozen? ⟨w.heap.size,4,none⟩=false:=frozen_of_row _ _ _ _ _ gj;clear gj;clear eE;go_enter func113,ntmps113;go_wp2_with fail;refine (HIT.out _).mono ?_
   rintro e W0' ⟨rfl,rfl⟩;go_wp2_with fail;refine FN.out.mono ?_
   rintro e W0' ⟨rfl,rfl⟩;unfold sY;go_wp2_with fail;go_region
   all_goals
    go_wp2_with fail
    (try simp only [Exit.inBlock,Exit.then])
    rw [U6.out];refine bodyPost_ret (aM rfl _ _ w.heap.size 87 #[.int .i64 0,.int .i64 0,.int .u64 0,.int .i64 0,.string ⟨#[]⟩] (0,0) _ rfl H9.out underlying87 rfl (by kernel_rfl)) rfl ⟨rfl,?_⟩
    exact ⟨HD.out.below (V.below_drewN HB.out 1),V.Step.bA (V.below_drewN HB.out 1),V.Step.bA (V.below_drewN HB.out 1)⟩
 ·have HIT:Hid (∀ w,Calls prog 150 #[.int .i64 id] w fun e w'=>e = .returned (.bool false)∧w=w'):=fun w=>by
   have h:=T5.out w;rw [decide_eq_false hid] at h;exact h
  have U6:Hid (fP d id=(d,M6,1)):=by show fP d id=_;unfold fP;rw [if_neg (fun h=>hid ⟨h.1,h.2.1⟩)]
  have cE:(w.alloc (.cells #[.int .i64 0,.int .i64 0,.int .u64 0,.int .i64 0,.string ⟨#[]⟩] 87)).cell? ⟨0,0,none⟩=some (.iface 360 (.pointer (some (A 0)))):=(HE.out.up HB.out).errs.arg;have gj:=H9.out;unfold sY at gj;have z0:(w.alloc (.cells #[.int .i64 0,.int .i64 0,.int .u64 0,.int .i64 0,.string ⟨#[]⟩] 87)).cell? ⟨w.heap.size,0,none⟩=some (.int .i64 0):=by rw [cell_of_row _ _ _ _ _ _ gj];rfl
  have z1:(w.alloc (.cells #[.int .i64 0,.int .i64 0,.int .u64 0,.int .i64 0,.string ⟨#[]⟩] 87)).cell? ⟨w.heap.size,1,none⟩=some (.int .i64 0):=by rw [cell_of_row _ _ _ _ _ _ gj];rfl
  have z2:(w.alloc (.cells #[.int .i64 0,.int .i64 0,.int .u64 0,.int .i64 0,.string ⟨#[]⟩] 87)).cell? ⟨w.heap.size,2,none⟩=some (.int .u64 0):=by rw [cell_of_row _ _ _ _ _ _ gj];rfl
  have z3:(w.alloc (.cells #[.int .i64 0,.int .i64 0,.int .u64 0,.int .i64 0,.string ⟨#[]⟩] 87)).cell? ⟨w.heap.size,3,none⟩=some (.int .i64 0):=by rw [cell_of_row _ _ _ _ _ _ gj];rfl
  have z4:(w.alloc (.cells #[.int .i64 0,.int .i64 0,.int .u64 0,.int .i64 0,.string ⟨#[]⟩] 87)).cell? ⟨w.heap.size,4,none⟩=some (.string ⟨#[]⟩):=by rw [cell_of_row _ _ _ _ _ _ gj];rfl
  have y0:(w.alloc (.cells #[.int .i64 0,.int .i64 0,.int .u64 0,.int .i64 0,.string ⟨#[]⟩] 87)).frozen? ⟨w.heap.size,0,none⟩=false:=frozen_of_row _ _ _ _ _ gj;have y1:(w.alloc (.cells #[.int .i64 0,.int .i64 0,.int .u64 0,.int .i64 0,.string ⟨#[]⟩] 87)).frozen? ⟨w.heap.size,1,none⟩=false:=frozen_of_row _ _ _ _ _ gj;have y2:(w.alloc (.cells #[.int .i64 0,.int .i64 0,.int .u64 0,.int .i64 0,.string ⟨#[]⟩] 87)).frozen? ⟨w.heap.size,2,none⟩=false:=frozen_of_row _ _ _ _ _ gj;have y3:(w.alloc (.cells #[.int .i64 0,.int .i64 0,.int .u64 0,.int .i64 0,.string ⟨#[]⟩] 87)).frozen? ⟨w.heap.size,3,none⟩=false:=frozen_of_row _ _ _ _ _ gj;have y4:(w.alloc (.cells #[.int .i64 0,.int .i64 0,.int .u64 0,.int .i64 0,.string ⟨#[]⟩] 87)).frozen? ⟨w.heap.size,4,none⟩=false:=frozen_of_row _ _ _ _ _ gj;clear gj;clear hid T5;go_enter func113,ntmps113;go_wp2_with fail;refine (HIT.out _).mono ?_
  rintro e W0' ⟨rfl,rfl⟩;go_wp2_with fail;go_region
  all_goals
   go_wp2_with fail
   (try simp only [Exit.inBlock,Exit.then])
   rw [U6.out];refine bodyPost_ret (aM rfl _ _ w.heap.size 87 #[.int .i64 0,.int .i64 0,.int .u64 0,.int .i64 0,.string ⟨#[]⟩] (0,0) _ rfl H9.out underlying87 rfl (by kernel_rfl)) rfl ⟨rfl,?_⟩
   exact ⟨HD.out.below (V.below_drewN HB.out 1),V.Step.bA (V.below_drewN HB.out 1),V.Step.bA (V.below_drewN HB.out 1)⟩
end S
namespace T
open Go.RowKit
def Nr(d d':S.V.bq):Prop:=∃ n,d'={ d with nr:=n }
theorem Nr.refl(d:S.V.bq):Nr d d:=⟨d.nr,rfl⟩
theorem Nr.trans{a b c:S.V.bq}(h:Nr a b)(k:Nr b c):Nr a c:=by
 obtain ⟨n,rfl⟩:=h;obtain ⟨m,rfl⟩:=k;exact ⟨m,rfl⟩
structure Mv(db:Nat)(F:Nat→Prop)(w w':World):Prop where
 step:S.V.Step F F w w'
 one:One db w w'
theorem Mv.refl(db:Nat)(F:Nat→Prop)(w:World):Mv db F w w:=⟨S.V.Step.refl _ _,S.V.Step.refl _ _⟩
theorem Mv.trans{db:Nat}{F:Nat→Prop}{a b c:World}(h:Mv db F a b)(k:Mv db F b c):Mv db F a c:=⟨h.step.trans k.step,h.one.trans k.one⟩
theorem Mv.of{db:Nat}{F:Nat→Prop}{a b:World}(h:Below a.heap.size a b):Mv db F a b:=⟨S.V.Step.bA h,S.V.Step.bA h⟩
theorem Mv.size{db:Nat}{F:Nat→Prop}{a b:World}(h:Mv db F a b):a.heap.size≤b.heap.size:=h.step.size
structure Dv(base:Nat)(A:Nat→Addr)(db:Nat)(F:Nat→Prop)(d:S.V.bq)(w:World):Prop where
 dev:∃ d',Nr d d'∧S.V.cO w db F d'
 env:S.Env base A w
 errs:du 13 fl A w
 up:∀ k,F k→base≤k
 alive:d.dead=false
 lo:∀ i,i<13→fl i<base∧(A i).block<base
theorem Dv.below{base:Nat}{A:Nat→Addr}{db:Nat}{F:Nat→Prop}{d:S.V.bq}{w w':World}(h:Dv base A db F d w)(hb:Below w.heap.size w w'):Dv base A db F d w':=by
 obtain ⟨d',h1,h2⟩:=h.dev;exact ⟨⟨d',h1,h2.below hb⟩,h.env.up hb,h.errs.keep hb,h.up,h.alive,h.lo⟩
theorem Dv.zJ{base:Nat}{A:Nat→Addr}{db:Nat}{F:Nat→Prop}{d:S.V.bq}{w:World}(h:Dv base A db F d w):j7 A w:=⟨h.errs.JU (by decide),(h.errs.1 11 (by decide)).1⟩
theorem Dv.Z6{base:Nat}{A:Nat→Addr}{db:Nat}{F:Nat→Prop}{d:S.V.bq}{w:World}(h:Dv base A db F d w):B.p8 A w:=B.EK h.errs
theorem Dv.g{base:Nat}{A:Nat→Addr}{db:Nat}{F:Nat→Prop}{d:S.V.bq}{w:World}(h:Dv base A db F d w)(i:Nat)(hi:i<13):w.cell? ⟨fl i,0,none⟩=some (.iface 360 (.pointer (some (A i)))):=(h.errs.1 i hi).1
theorem Vn{db:Nat}{F:Nat→Prop}{w w':World}(h:Mv db F w w'){b:Nat}{cs:Array Value}{t:TypeId}(hs:B.ax w b cs t)(ht:b≠db):B.ax w' b cs t:=(h.one.block b hs.lt ht).trans hs
theorem Sg(d:S.V.bq)(id:Int)(AR:d.dead=false)(h0:0≤id)(eE:(id+1)*8≤d.size):d.read (id*8) 8=(S.SD d,S.V.iY d (id*8) 8,0):=by
 have hf:d.fits (id*8) 8=true:=by
  unfold S.V.bq.fits;exact decide_eq_true ⟨by omega,by omega,by omega⟩
 obtain ⟨sz,eF,aV,eR,dead,nr,nw,ns⟩:=d;simp only at AR;subst AR;unfold S.V.bq.read;rw [hf];simp only [kK,if_false,pd];rw [if_neg (by decide)]
 rfl
theorem tk{d:S.V.bq}{id:Int}{s s':S.Sh}(h:fB d id s)(k:fB d id s'):s=s':=by
 have e1:=S.ly s h.1 h.2.1;have e2:=S.ly s' k.1 k.2.1;have e3:S.gQ s=S.gQ s':=by rw [← h.2.2.2.2,← k.2.2.2.2,h.2.2.1,k.2.2.1]
 rw [← e1,← e2,e3]
theorem holds_one{s:S.Sh}{p p':PD}(h:gF s p)(k:gF s p'):p=p':=by
 rcases h with ⟨h1,_,h3⟩ | ⟨h1,_,h3⟩ <;> rcases k with ⟨k1,_,k3⟩ | ⟨k1,_,k3⟩
 ·rw [h3,k3]
 ·omega
 ·omega
 ·rw [h3,k3]
theorem IK{d:S.V.bq}{id:Int}{s:S.Sh}{p:PD}(h:fB d id s)(k:gF s p):cJ d id=some p:=by
 have he:∃ p s,fB d id s∧gF s p:=⟨p,s,h,k⟩;cases hp:cJ d id with
 | none =>
  unfold cJ at hp;rw [dif_pos he] at hp;cases hp
 | some q =>
  obtain ⟨s',h',k'⟩:=tp hp;rw [tk h' h] at k';rw [holds_one k k']
theorem By{d:S.V.bq}{id:Int}(h:∀ s p,fB d id s→¬ gF s p):cJ d id=none:=by
 cases hp:cJ d id with
 | none=>rfl
 | some q =>
  obtain ⟨s',h',k'⟩:=tp hp;exact absurd k' (h s' q h')
theorem DR(d:S.V.bq)(id:Int)(AR:d.dead=false):Nr d (S.fP d id).1∧(((S.fP d id).2.2=0∧fB d id (S.fP d id).2.1)∨(((S.fP d id).2.2=1∨(S.fP d id).2.2=2)∧∀ s,¬ fB d id s)):=by
 unfold S.fP;split
 ·rename_i h
  rw [Sg d id AR (by omega) h.2.2]
  simp only [if_true];refine ⟨⟨_,rfl⟩,?_⟩;split
  ·rename_i cT
   refine .inl ⟨rfl,cT.2.2.1,S.Ui _,cT.2.1,?_,?_⟩
   ·have:=cT.2.1;show ((S.parse _).id+1)*8≤d.size
    rw [this];exact h.2.2
   ·have:=cT.2.1;show S.V.iY d ((S.parse _).id*8) 8=S.gQ (S.parse _)
    rw [this,cT.2.2.2]
  ·rename_i fM
   refine .inr ⟨.inr rfl,fun s hs=>fM ?_⟩
   have e:=hs.2.2.2.2;rw [hs.2.2.1] at e;rw [e];exact (S.DA s hs.1 hs.2.1 id).2 hs.2.2.1.symm
 ·rename_i h
  refine ⟨Nr.refl d,.inr ⟨.inl rfl,fun s hs=>h ?_⟩⟩
  have h1:=hs.1.2.2.1;have h2:=hs.2.2.2.1;rw [hs.2.2.1] at h1 h2;exact ⟨h1.1,h1.2,h2⟩
def _root_.Go.Proofs.YtihmgigfkmofnaaGreatDoor.T.PD.sn:PD→SN
 | .leaf l=>⟨l,0,[],[]⟩
 | .br f lk=>⟨[],f,lk,zj f lk⟩
theorem KR(A:Nat→Addr)(kd id tx c:Value)(cn:Int)(body:ByteArray)(hc:c = .int .i64 cn)(w:World)(fM:¬ (0≤cn∧mT cn.toNat body.data.toList))(hE:du 13 fl A w):Calls prog 174 #[.agg #[kd,id,tx,c,.string body]] w fun e w'=>e = .returned (.tuple #[.pointer none,.iface 360 (.pointer (some (A 8)))])∧Below w.heap.size w w':=by
 subst hc;have q0:=ai w (.cells #[kd,id,tx,.int .i64 cn,.string body] 87);have x0:=B.ax.new w #[kd,id,tx,.int .i64 cn,.string body] 87;have k3:(w.alloc (.cells #[kd,id,tx,.int .i64 cn,.string body] 87)).cell? ⟨w.heap.size,3,none⟩=some (.int .i64 cn):=x0.cell 3 (by simp)
 have k4:(w.alloc (.cells #[kd,id,tx,.int .i64 cn,.string body] 87)).cell? ⟨w.heap.size,4,none⟩=some (.string body):=x0.cell 4 (by simp)
 have mf:Hid (Calls prog 114 #[.int .i64 cn,.string body] (w.alloc (.cells #[kd,id,tx,.int .i64 cn,.string body] 87)) fun e w'=>e = .returned (.tuple #[.slice none 0 0,.iface 360 (.pointer (some (A 1)))])∧Below w.heap.size w w'∧w'.cell? ⟨8,0,none⟩=some (.iface 360 (.pointer (some (A 8))))):=by
  refine (DY A cn body _ ⟨(hE.keep q0).JU (by decide),((hE.keep q0).1 11 (by decide)).1⟩).mono fun e w' ⟨hv,hb⟩=>?_
  rcases hv with ⟨h1,h2,_⟩ | ⟨_,he⟩
  ·exact absurd ⟨h1,h2⟩ fM
  ·exact ⟨he,Below.next q0 hb,(((hE.keep q0).keep hb).1 8 (by decide)).1⟩
 clear q0 x0 fM hE;go_enter func174,ntmps174;go_wp2_with fail;refine mf.out.mono ?_
 rintro e w1 ⟨rfl,aP,fK⟩;have HB:=ab aP;clear aP mf k3 k4;go_wp2_with fail;go_quiet (fail)
 go_wp2;go_ret2;exact ⟨rfl,aB HB.out _⟩
theorem KS(A:Nat→Addr)(kd id tx c:Value)(cn:Int)(body:ByteArray)(hc:c = .int .i64 cn)(w:World)(fM:¬ (0≤cn∧B.vE cn.toNat body.data.toList))(hE:du 13 fl A w):Calls prog 175 #[.agg #[kd,id,tx,c,.string body]] w fun e w'=>e = .returned (.tuple #[.pointer none,.iface 360 (.pointer (some (A 8)))])∧Below w.heap.size w w':=by
 subst hc;have q0:=ai w (.cells #[kd,id,tx,.int .i64 cn,.string body] 87);have x0:=B.ax.new w #[kd,id,tx,.int .i64 cn,.string body] 87;have k3:(w.alloc (.cells #[kd,id,tx,.int .i64 cn,.string body] 87)).cell? ⟨w.heap.size,3,none⟩=some (.int .i64 cn):=x0.cell 3 (by simp)
 have k4:(w.alloc (.cells #[kd,id,tx,.int .i64 cn,.string body] 87)).cell? ⟨w.heap.size,4,none⟩=some (.string body):=x0.cell 4 (by simp)
 have mf:Hid (Calls prog 116 #[.int .i64 cn,.string body] (w.alloc (.cells #[kd,id,tx,.int .i64 cn,.string body] 87)) fun e w'=>e = .returned (.tuple #[.agg #[.int .i64 0,.slice none 0 0],.iface 360 (.pointer (some (A 1)))])∧Below w.heap.size w w'∧w'.cell? ⟨8,0,none⟩=some (.iface 360 (.pointer (some (A 8))))):=by
  refine (B.Fa A cn body _ (B.EK (hE.keep q0))).mono fun e w' ⟨hv,hb⟩=>?_
  rcases hv with ⟨h1,h2,_⟩ | ⟨_,he⟩
  ·exact absurd ⟨h1,h2⟩ fM
  ·exact ⟨he,Below.next q0 hb,(((hE.keep q0).keep hb).1 8 (by decide)).1⟩
 clear q0 x0 fM hE;go_enter func175,ntmps175;go_wp2_with fail;refine mf.out.mono ?_
 rintro e w1 ⟨rfl,aP,fK⟩;have q2:=ai w1 (.cells #[.int .i64 0,.slice none 0 0] 150);have g2:(w1.alloc (.cells #[.int .i64 0,.slice none 0 0] 150)).cell? ⟨8,0,none⟩=some (.iface 360 (.pointer (some (A 8)))):=(q2.cell (p:=⟨8,0,none⟩) (World.block_lt_of_cell? w1 _ fK)).trans fK;have HB:=ab (Below.next aP q2);clear aP mf k3 k4 q2;go_wp2_with fail;go_quiet (fail)
 go_wp2;go_ret2;exact ⟨rfl,aB HB.out _⟩
def sF(A:Nat→Addr)(P:Option PD)(e:Ending)(w':World):Prop :=
 (P=none∧e = .returned (.tuple #[.pointer none,.iface 360 (.pointer (some (A 8)))])) ∨
 (∃ p b pv lv cv,P=some p∧e = .returned (.tuple #[.pointer (some ⟨b,0,none⟩),.nilIface])∧dG w' b p.sn pv lv cv)
theorem sF.form{A:Nat→Addr}{P:Option PD}{e:Ending}{w':World}(h:sF A P e w'):∃ p v,e = .returned (.tuple #[.pointer p,v])∧sF A P (.returned (.tuple #[.pointer p,v])) w'∧(v = .nilIface∨v = .iface 360 (.pointer (some (A 8)))):=by
 rcases h with ⟨h1,rfl⟩ | ⟨p,b,pv,lv,cv,h1,rfl,h2⟩
 ·exact ⟨_,_,rfl,.inl ⟨h1,rfl⟩,.inr rfl⟩
 ·exact ⟨_,_,rfl,.inr ⟨p,b,pv,lv,cv,h1,rfl,h2⟩,.inl rfl⟩
theorem KJ(base:Nat)(A:Nat→Addr)(db:Nat)(F:Nat→Prop)(d:S.V.bq)(id:Int)(w:World)(hv:Dv base A db F d w):Calls prog 135 #[.pointer (some ⟨db,0,none⟩),.int .i64 id] w fun e w'=>sF A (cJ d id) e w'∧Dv base A db F d w'∧Mv db F w w':=by
 obtain ⟨d0,Rp,hd⟩:=hv.dev;have V7:d0.dead=false:=by obtain ⟨n,rfl⟩:=Rp;exact hv.alive
 have AL:cJ d0=cJ d:=by obtain ⟨n,rfl⟩:=Rp;rfl
 rw [← AL];obtain ⟨hnr,fs⟩:=DR d0 id V7;have JH:=ab (S.KT base A db F d0 id w hd hv.env hv.up);generalize S.fP d0 id=R at *;obtain ⟨Rd,s,c⟩:=R;simp only at hnr fs JH;have qn:Hid (∀ w1,S.V.cO w1 db F Rd→S.V.Step F F w w1→One db w w1→Dv base A db F d w1∧Mv db F w w1):=fun w1 h1 h2 h3 =>
  ⟨⟨⟨Rd,Rp.trans hnr,h1⟩,hv.env.step h2 hv.up,EJ h3 hd h1 hv.errs,hv.up,hv.alive,hv.lo⟩,⟨h2,h3⟩⟩
 obtain ⟨kd,uA,tx,cn,bd⟩:=s;simp only [S.Sh.cells] at JH;rcases fs with ⟨rfl,FD⟩ | ⟨ZH,fM⟩
 ·have vw:kd=66∨kd=76:=FD.1.1;have yh:(0:Int)≤cn:=FD.1.2.1.1;have Er:=fun W=>EM (some (A 7)) W
  have FN:=ab FD;have HC0:=ab yh;have e0:S.V.iz A 0 = .nilIface:=rfl;rw [e0] at JH;clear hv hd V7 Rp AL hnr FD yh e0;rcases vw with rfl | rfl
  ·by_cases hdec:B.vE cn.toNat bd.data.toList
   ·have Fq:=ab (IK FN.out (.inr ⟨rfl,hdec,rfl⟩));have mf:=ab hdec;clear hdec;go_enter func135,ntmps135;go_wp2_with fail;refine JH.out.mono ?_
    rintro e w1 ⟨rfl,sP,jk,jT⟩;obtain ⟨dX,eo⟩:=qn.out w1 sP jk jT;have q2:=ai w1 (.cells #[.int .i64 66,.int .i64 uA,.int .u64 (tx:Int),.int .i64 cn,.string bd] 87);have x2:=B.ax.new w1 #[.int .i64 66,.int .i64 uA,.int .u64 (tx:Int),.int .i64 cn,.string bd] 87;have UN:(w1.alloc (.cells #[.int .i64 66,.int .i64 uA,.int .u64 (tx:Int),.int .i64 cn,.string bd] 87)).cell? ⟨7,0,none⟩=some (.iface 360 (.pointer (some (A 7)))):=(dX.below q2).g 7 (by decide)
    have k0:=x2.cell 0 (by simp)
    have k1:=x2.cell 1 (by simp)
    have k2:=x2.cell 2 (by simp)
    have k3:=x2.cell 3 (by simp)
    have k4:=x2.cell 4 (by simp)
    simp only [bT,List.getElem_cons_zero,List.getElem_cons_succ] at k0 k1 k2 k3 k4;have iq:=ab (OH A (.int .i64 66) (.int .i64 uA) (.int .u64 (tx:Int)) (.int .i64 cn) cn bd rfl (w1.alloc (.cells #[.int .i64 66,.int .i64 uA,.int .u64 (tx:Int),.int .i64 cn,.string bd] 87)) HC0.out mf.out (dX.below q2).Z6);have qm:=ab q2;have mQ:=ab dX;have Fw:=ab eo;clear JH sP jk jT q2 x2 dX eo qn;go_wp2_with fail;refine iq.out.mono ?_
    rintro e w3 ⟨b,pv,lv,cv,rfl,Pf,bF⟩;have jd:=Below.next qm.out bF;have bM:Hid (sF A (cJ d0 id) (.returned (.tuple #[.pointer (some ⟨b,0,none⟩),.nilIface])) w3∧Dv base A db F d w3∧Mv db F w w3):=⟨.inr ⟨_,b,pv,lv,cv,Fq.out,rfl,Pf⟩,mQ.out.below jd,Fw.out.trans (Mv.of jd)⟩;clear Pf bF jd k0 k1 k2 k3 k4 UN iq;go_wp2;go_ret2;exact bM.out
   ·have Fq:Hid (cJ d0 id=none):=By fun s p h1 h2=>by
     rw [tk h1 FN.out] at h2;rcases h2 with ⟨h,_⟩ | ⟨_,h,_⟩
     ·exact absurd (show (66:Int)=76 from h) (by decide)
     ·exact hdec h
    have mf:=ab hdec;clear hdec;go_enter func135,ntmps135;go_wp2_with fail;refine JH.out.mono ?_
    rintro e w1 ⟨rfl,sP,jk,jT⟩;obtain ⟨dX,eo⟩:=qn.out w1 sP jk jT;have q2:=ai w1 (.cells #[.int .i64 66,.int .i64 uA,.int .u64 (tx:Int),.int .i64 cn,.string bd] 87);have x2:=B.ax.new w1 #[.int .i64 66,.int .i64 uA,.int .u64 (tx:Int),.int .i64 cn,.string bd] 87;have UN:(w1.alloc (.cells #[.int .i64 66,.int .i64 uA,.int .u64 (tx:Int),.int .i64 cn,.string bd] 87)).cell? ⟨7,0,none⟩=some (.iface 360 (.pointer (some (A 7)))):=(dX.below q2).g 7 (by decide)
    have k0:=x2.cell 0 (by simp)
    have k1:=x2.cell 1 (by simp)
    have k2:=x2.cell 2 (by simp)
    have k3:=x2.cell 3 (by simp)
    have k4:=x2.cell 4 (by simp)
    simp only [bT,List.getElem_cons_zero,List.getElem_cons_succ] at k0 k1 k2 k3 k4;have iq:=ab (KS A (.int .i64 66) (.int .i64 uA) (.int .u64 (tx:Int)) (.int .i64 cn) cn bd rfl (w1.alloc (.cells #[.int .i64 66,.int .i64 uA,.int .u64 (tx:Int),.int .i64 cn,.string bd] 87)) (fun h=>mf.out h.2) (dX.below q2).errs)
    have qm:=ab q2;have mQ:=ab dX;have Fw:=ab eo;clear JH sP jk jT q2 x2 dX eo qn;go_wp2_with fail;refine iq.out.mono ?_
    rintro e w3 ⟨rfl,bF⟩;have jd:=Below.next qm.out bF;have bM:Hid (sF A (cJ d0 id) (.returned (.tuple #[.pointer none,.iface 360 (.pointer (some (A 8)))])) w3∧Dv base A db F d w3∧Mv db F w w3):=⟨.inl ⟨Fq.out,rfl⟩,mQ.out.below jd,Fw.out.trans (Mv.of jd)⟩;clear bF jd k0 k1 k2 k3 k4 UN iq;go_wp2;go_ret2;exact bM.out
  ·by_cases hdec:mT cn.toNat bd.data.toList
   ·have Fq:=ab (IK FN.out (.inl ⟨rfl,hdec,rfl⟩));have mf:=ab hdec;clear hdec;go_enter func135,ntmps135;go_wp2_with fail;refine JH.out.mono ?_
    rintro e w1 ⟨rfl,sP,jk,jT⟩;obtain ⟨dX,eo⟩:=qn.out w1 sP jk jT;have q2:=ai w1 (.cells #[.int .i64 76,.int .i64 uA,.int .u64 (tx:Int),.int .i64 cn,.string bd] 87);have x2:=B.ax.new w1 #[.int .i64 76,.int .i64 uA,.int .u64 (tx:Int),.int .i64 cn,.string bd] 87;have UN:(w1.alloc (.cells #[.int .i64 76,.int .i64 uA,.int .u64 (tx:Int),.int .i64 cn,.string bd] 87)).cell? ⟨7,0,none⟩=some (.iface 360 (.pointer (some (A 7)))):=(dX.below q2).g 7 (by decide)
    have k0:=x2.cell 0 (by simp)
    have k1:=x2.cell 1 (by simp)
    have k2:=x2.cell 2 (by simp)
    have k3:=x2.cell 3 (by simp)
    have k4:=x2.cell 4 (by simp)
    simp only [bT,List.getElem_cons_zero,List.getElem_cons_succ] at k0 k1 k2 k3 k4;have iq:=ab (OG A (.int .i64 76) (.int .i64 uA) (.int .u64 (tx:Int)) (.int .i64 cn) cn bd rfl (w1.alloc (.cells #[.int .i64 76,.int .i64 uA,.int .u64 (tx:Int),.int .i64 cn,.string bd] 87)) HC0.out mf.out (dX.below q2).zJ);have qm:=ab q2;have mQ:=ab dX;have Fw:=ab eo;clear JH sP jk jT q2 x2 dX eo qn;go_wp2_with fail;refine iq.out.mono ?_
    rintro e w3 ⟨b,pv,lv,cv,rfl,Pf,bF⟩;have jd:=Below.next qm.out bF;have bM:Hid (sF A (cJ d0 id) (.returned (.tuple #[.pointer (some ⟨b,0,none⟩),.nilIface])) w3∧Dv base A db F d w3∧Mv db F w w3):=⟨.inr ⟨_,b,pv,lv,cv,Fq.out,rfl,Pf⟩,mQ.out.below jd,Fw.out.trans (Mv.of jd)⟩;clear Pf bF jd k0 k1 k2 k3 k4 UN iq;go_wp2;go_ret2;exact bM.out
   ·have Fq:Hid (cJ d0 id=none):=By fun s p h1 h2=>by
     rw [tk h1 FN.out] at h2;rcases h2 with ⟨_,h,_⟩ | ⟨h,_⟩
     ·exact hdec h
     ·exact absurd (show (76:Int)=66 from h) (by decide)
    have mf:=ab hdec;clear hdec;go_enter func135,ntmps135;go_wp2_with fail;refine JH.out.mono ?_
    rintro e w1 ⟨rfl,sP,jk,jT⟩;obtain ⟨dX,eo⟩:=qn.out w1 sP jk jT;have q2:=ai w1 (.cells #[.int .i64 76,.int .i64 uA,.int .u64 (tx:Int),.int .i64 cn,.string bd] 87);have x2:=B.ax.new w1 #[.int .i64 76,.int .i64 uA,.int .u64 (tx:Int),.int .i64 cn,.string bd] 87;have UN:(w1.alloc (.cells #[.int .i64 76,.int .i64 uA,.int .u64 (tx:Int),.int .i64 cn,.string bd] 87)).cell? ⟨7,0,none⟩=some (.iface 360 (.pointer (some (A 7)))):=(dX.below q2).g 7 (by decide)
    have k0:=x2.cell 0 (by simp)
    have k1:=x2.cell 1 (by simp)
    have k2:=x2.cell 2 (by simp)
    have k3:=x2.cell 3 (by simp)
    have k4:=x2.cell 4 (by simp)
    simp only [bT,List.getElem_cons_zero,List.getElem_cons_succ] at k0 k1 k2 k3 k4;have iq:=ab (KR A (.int .i64 76) (.int .i64 uA) (.int .u64 (tx:Int)) (.int .i64 cn) cn bd rfl (w1.alloc (.cells #[.int .i64 76,.int .i64 uA,.int .u64 (tx:Int),.int .i64 cn,.string bd] 87)) (fun h=>mf.out h.2) (dX.below q2).errs)
    have qm:=ab q2;have mQ:=ab dX;have Fw:=ab eo;clear JH sP jk jT q2 x2 dX eo qn;go_wp2_with fail;refine iq.out.mono ?_
    rintro e w3 ⟨rfl,bF⟩;have jd:=Below.next qm.out bF;have bM:Hid (sF A (cJ d0 id) (.returned (.tuple #[.pointer none,.iface 360 (.pointer (some (A 8)))])) w3∧Dv base A db F d w3∧Mv db F w w3):=⟨.inl ⟨Fq.out,rfl⟩,mQ.out.below jd,Fw.out.trans (Mv.of jd)⟩;clear bF jd k0 k1 k2 k3 k4 UN iq;go_wp2;go_ret2;exact bM.out
 ·have Fq:Hid (cJ d0 id=none):=By fun s p h1 _=>fM s h1
  obtain ⟨j,hj,hec⟩ : ∃ j,j<2∧S.V.iz A c = .iface 360 (.pointer (some (A j))):=by
   rcases ZH with rfl | rfl
   ·exact ⟨0,by decide,rfl⟩
   ·exact ⟨1,by decide,rfl⟩
  rw [hec] at JH;clear hv hd V7 Rp AL hnr fM ZH hec;go_enter func135,ntmps135;go_wp2_with fail;refine JH.out.mono ?_
  rintro e w1 ⟨rfl,sP,jk,jT⟩;obtain ⟨dX,eo⟩:=qn.out w1 sP jk jT;have q2:=ai w1 (.cells #[.int .i64 kd,.int .i64 uA,.int .u64 (tx:Int),.int .i64 cn,.string bd] 87);have UN:(w1.alloc (.cells #[.int .i64 kd,.int .i64 uA,.int .u64 (tx:Int),.int .i64 cn,.string bd] 87)).cell? ⟨7,0,none⟩=some (.iface 360 (.pointer (some (A 7)))):=(dX.below q2).g 7 (by decide)
  have g8':(w1.alloc (.cells #[.int .i64 kd,.int .i64 uA,.int .u64 (tx:Int),.int .i64 cn,.string bd] 87)).cell? ⟨8,0,none⟩=some (.iface 360 (.pointer (some (A 8)))):=(dX.below q2).g 8 (by decide)
  have dK:=Qb A j 7 _ (dX.below q2).errs (by omega) (by decide) (by omega)
  have qm:=ab q2;have bM:Hid (sF A (cJ d0 id) (.returned (.tuple #[.pointer none,.iface 360 (.pointer (some (A 8)))])) (w1.alloc (.cells #[.int .i64 kd,.int .i64 uA,.int .u64 (tx:Int),.int .i64 cn,.string bd] 87))∧Dv base A db F d (w1.alloc (.cells #[.int .i64 kd,.int .i64 uA,.int .u64 (tx:Int),.int .i64 cn,.string bd] 87))∧Mv db F w (w1.alloc (.cells #[.int .i64 kd,.int .i64 uA,.int .u64 (tx:Int),.int .i64 cn,.string bd] 87))):=⟨.inl ⟨Fq.out,rfl⟩,dX.below q2,eo.trans (Mv.of q2)⟩;clear JH sP jk jT q2 dX eo qn;go_wp2_with fail;go_quiet (fail)
  go_wp2;go_ret2;exact ⟨.inl ⟨Fq.out,rfl⟩,bM.out.2.1.below (aB (Below.refl _ _) _),bM.out.2.2.trans (Mv.of (aB (Below.refl _ _) _))⟩
end T
namespace W
open Go.RowKit
abbrev Lk:=Nat × Int
def bm(l:List Lk):List Value:=l.flatMap fun p=>[Value.pointer (some ⟨p.1,0,none⟩),.int .i64 p.2]
theorem ep(p:Lk)(l:List Lk):bm (p::l) = .pointer (some ⟨p.1,0,none⟩)::.int .i64 p.2::bm l:=by simp [bm]
theorem dh(a b:List Lk):bm (a++b)=bm a++bm b:=by simp [bm]
theorem aR(l:List Lk):(bm l).length=l.length*2:=by
 induction l with
 | nil=>rfl
 | cons p l ih=>rw [ep];simp [ih];omega
theorem gI(l:List Lk):∀ j (h:j<l.length),(bm l)[j*2]?=some (.pointer (some ⟨l[j].1,0,none⟩))∧(bm l)[j*2+1]?=some (.int .i64 l[j].2):=by
 induction l with
 | nil=>intro j h;simp at h
 | cons p l ih =>
  intro j h;rw [ep];cases j with
  | zero=>exact ⟨rfl,rfl⟩
  | succ j =>
   have:=ih j (by simpa using h)
   rw [show (j+1)*2=j*2+1+1 by omega]
   simpa using this
theorem fU(l:List Lk):∀ u ∈ bm l,u.oneCell'=true:=by
 intro u hu;simp only [bm,ma] at hu;obtain ⟨p,_,h⟩:=hu;simp at h
 rcases h with rfl | rfl <;> rfl
theorem lQ:(prog.info? 159).map (fun i=>(i.zero,i.size,i.bytes))=some (some (.agg #[.pointer none,.int .i64 0]),2,16):=by kernel_rfl
def cV(w:World)(v:Value)(l:List Lk):Prop:=∃ a cap,v = .slice a l.length cap∧l.length≤cap∧(a=none→cap=0) ∧
 ∀ j (h:j<l.length),∃ g o,a=some ⟨g,o,none⟩∧w.cell? ⟨g,o+j*2,none⟩=some (.pointer (some ⟨l[j].1,0,none⟩))∧w.cell? ⟨g,o+j*2+1,none⟩=some (.int .i64 l[j].2)
theorem cV.below{w w':World}{v:Value}{l:List Lk}(h:cV w v l)(hb:Below w.heap.size w w'):cV w' v l:=by
 obtain ⟨a,cap,rfl,hle,hn,hc⟩:=h;refine ⟨a,cap,rfl,hle,hn,fun j hj=>?_⟩
 obtain ⟨g,o,ha,h1,h2⟩:=hc j hj;exact ⟨g,o,ha,(hb.cell (p:=⟨g,o+j*2,none⟩) (World.block_lt_of_cell? w _ h1)).trans h1,(hb.cell (p:=⟨g,o+j*2+1,none⟩) (World.block_lt_of_cell? w _ h2)).trans h2⟩
theorem cV.form{w:World}{v:Value}{l:List Lk}(h:cV w v l):∃ a c,v = .slice a l.length c:=by
 obtain ⟨a,c,rfl,_⟩:=h;exact ⟨a,c,rfl⟩
theorem cV.rP{w:World}{base n:Nat}{v:Value}{l:List Lk}(h:w.ownsRow base 159 2 v n (bm l)):cV w v l:=by
 have hl:=h.1;rw [aR] at hl;have hl:l.length=n:=by omega
 rcases h.2 with ⟨rfl,hn⟩ | ⟨g,cap,cur,rfl,hb,hg,Cn,sQ,fs,mX⟩
 ·have h0:l.length=0:=by omega
  exact ⟨none,0,by rw [h0],by omega,fun _=>rfl,fun j hj=>by omega⟩
 ·refine ⟨some ⟨g,0,none⟩,cap,by rw [hl],by omega,fun h=>(by cases h),fun j hj=>⟨g,0,rfl,?_,?_⟩⟩
  ·rw [Nat.zero_add,h.cellAt (j*2) (by omega)];exact (gI l j hj).1
  ·rw [Nat.zero_add,h.cellAt (j*2+1) (by omega)];exact (gI l j hj).2
theorem cV.take{w:World}{a:Option Addr}{n m cap:Nat}{l:List Lk}(h:cV w (.slice a n cap) l)(hm:m≤n):cV w (.slice a m cap) (l.take m):=by
 obtain ⟨a',eP,he,hle,hn,hc⟩:=h;cases he;refine ⟨a,cap,by rw [ag,a8 hm],by rw [ag];omega,hn,fun j hj=>?_⟩
 rw [ag] at hj;obtain ⟨g,o,ha,h1,h2⟩:=hc j (by omega)
 exact ⟨g,o,ha,by rw [bD];exact h1,by rw [bD];exact h2⟩
theorem cV.nil(w:World):cV w (.slice none 0 0) []:=⟨none,0,rfl,aj _,fun _=>rfl,fun j h=>by simp at h⟩
def b7(w:World)(base:Nat)(v:Value)(l:List Lk):Prop:=w.ownsRow base 159 2 v l.length (bm l)
theorem b7.at{w:World}{base:Nat}{v:Value}{l:List Lk}(h:b7 w base v l):cV w v l:=cV.rP h
theorem b7.form{w:World}{base:Nat}{v:Value}{l:List Lk}(h:b7 w base v l):∃ a c,v = .slice a l.length c:=h.at.form
theorem b7.below{w w':World}{base:Nat}{v:Value}{l:List Lk}(h:b7 w base v l)(hb:Below w.heap.size w w'):b7 w' base v l:=by
 refine ⟨h.1,?_⟩;rcases h.2 with h' | ⟨g,cap,cur,h',h1,h2,hr⟩
 ·exact .inl h'
 ·refine .inr ⟨g,cap,cur,h',h1,?_,hr⟩;have hg:g<w.heap.size:=by
   rcases a7 g w.heap.size with h' | h'
   ·exact h'
   ·rw [aY h'] at h2;cases h2
  rw [hb.block g hg];exact h2
theorem b7.mono{w:World}{b b2:Nat}{v:Value}{l:List Lk}(h:b7 w b v l)(hb:b2≤b):b7 w b2 v l:=by
 refine ⟨h.1,?_⟩;rcases h.2 with h' | ⟨g,cap,cur,h',h1,hr⟩
 ·exact .inl h'
 ·exact .inr ⟨g,cap,cur,h',al hb h1,hr⟩
theorem b7.nil(w:World)(base:Nat):b7 w base (.slice none 0 0) []:=World.ownsRow_nil _ _ _ _
theorem fo(base:Nat)(v s:Value)(xs us:List Lk)(w:World)(aE:b7 w base v xs)(hs:cV w s us)(hb:(xs.length+us.length)*16≤140737488355328)(dy:base≤w.heap.size):∃ a' eP w',(Builtin.append_ #[101,101] 101 #[v,s]).run prog w = .ok (.slice a' (xs.length+us.length) eP) w'∧b7 w' base (.slice a' (xs.length+us.length) eP) (xs++us)∧w.grownBy w' v.ownBlock:=by
 obtain ⟨i0,hi,hz,cx,kU⟩:=info_parts lQ;obtain ⟨a,cap,rfl,hle,qN,hc⟩:=hs;have MO:∃ a' c',v = .slice a' xs.length c':=aE.form;unfold b7 at aE ⊢;rw [ae,dh];cases a with
 | none =>
  have h0:us=[]:=by
   cases us with
   | nil=>rfl
   | cons u r=>obtain ⟨g,o,he,_⟩:=hc 0 (by simp);cases he
  subst h0;rw [qN rfl];have hr:=run_append_owned_none (P:=prog) w base 101 101 159 i0 2 underlying101 hi v xs.length (bm xs) aE;obtain ⟨a',c',rfl⟩:=MO;exact ⟨a',c',w,hr,by simpa [bm] using aE,⟨rfl,rfl,rfl,aj _,fun _ _ _=>rfl⟩⟩
 | some ad =>
  obtain ⟨v',w',hr,gk,AQ,_⟩:=run_append_own (P:=prog) w base 101 101 159 i0 _ 2 16 underlying101 hi hz cx kU rfl (by decide) v xs.length (bm xs) aE ad us.length cap (bm us) (aR us) (fun j u hj=>by
   have l6:=(List.getElem?_eq_some_iff.1 hj).1;rw [aR] at l6;obtain ⟨g,o,he,c1,c2⟩:=hc (j / 2) (by omega)
   cases he;have hg:=gI us (j / 2) (by omega)
   rw [bB];rcases bW j with hm | hm
   ·have e:j / 2*2=j:=by omega
    rw [e] at hg c1;rw [hg.1] at hj;cases hj;exact c1
   ·have e:j / 2*2+1=j:=by omega
    rw [dM,e] at c2;rw [e] at hg;rw [hg.2] at hj;cases hj;exact c2) (fU us) (by unfold maxLen;omega) hb dy
  have hf:∃ a' c',v' = .slice a' (xs.length+us.length) c':=by
   rcases gk.2 with ⟨rfl,h0⟩ | ⟨g,cap,cur,rfl,_⟩
   ·exact ⟨none,0,by rw [h0]⟩
   ·exact ⟨_,_,rfl⟩
  obtain ⟨a',c',rfl⟩:=hf;exact ⟨a',c',w',hr,gk,AQ⟩
theorem b7.dn{w:World}{base:Nat}{v:Value}{l:List Lk}(h:b7 w base v l):∀ k,v.ownBlock=some k→base≤k∧k<w.heap.size:=World.ownsRow.lt h
theorem vN(w:World)(p:Lk)(t:TypeId):cV (w.alloc (.cells #[Value.pointer (some ⟨p.1,0,none⟩),.int .i64 p.2] t)) (.slice (some ⟨w.heap.size,0,none⟩) 1 1) [p]:=by
 have hb:=bN w #[Value.pointer (some ⟨p.1,0,none⟩),.int .i64 p.2] t;refine ⟨_,_,rfl,aj _,fun h=>(by cases h),fun j hj=>⟨_,_,rfl,?_,?_⟩⟩
 ·have:j=0:=by simpa using hj
  subst this;exact hb.2 0 (by simp)
 ·have:j=0:=by simpa using hj
  subst this;exact hb.2 1 (by simp)
theorem cV.cap{w:World}{a:Option Addr}{n c:Nat}{l:List Lk}(h:cV w (.slice a n c) l):l.length≤c:=by
 obtain ⟨_,_,he,h,_⟩:=h;cases he;exact h
theorem b7.has{w:World}{base:Nat}{v:Value}{l:List Lk}(h:b7 w base v l)(hl:0<l.length):∃ g c,v = .slice (some ⟨g,0,none⟩) l.length c∧base≤g∧g<w.heap.size∧l.length≤c:=by
 rcases h.2 with ⟨_,h0⟩ | ⟨g,cap,cur,rfl,h1,h2,h3,_⟩
 ·omega
 ·exact ⟨g,cap,rfl,h1,(h.dn g rfl).2,h3⟩
theorem cV.spot{w:World}{a:Option Addr}{n c:Nat}{l:List Lk}(h:cV w (.slice a n c) l)(j:Nat)(hj:j<l.length):∃ g o,a = .some ⟨g,o,none⟩∧w.cell? ⟨g,o+j*2,none⟩ = .some (.pointer (some ⟨l[j].1,0,none⟩))∧w.cell? ⟨g,o+j*2+1,none⟩ = .some (.int .i64 l[j].2):=by
 obtain ⟨a',c',he,_,_,hc⟩:=h;cases he;exact hc j hj
end W
end Go.Proofs.YtihmgigfkmofnaaGreatDoor
