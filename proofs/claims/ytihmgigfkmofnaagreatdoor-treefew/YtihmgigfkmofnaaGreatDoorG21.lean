import Derived.Test.YtihmgigfkmofnaaGreatDoorG20
set_option maxHeartbeats 2000000
set_option maxRecDepth 100000
open Go.Proofs.Tryz
namespace Go.Proofs.YtihmgigfkmofnaaGreatDoor
namespace S
open Go.RowKit
def MM:Sh:=⟨0,0,0,0,⟨#[]⟩⟩
def fO(d:V.bD)(id:Int):V.bD × Sh × Nat :=
 if 2≤id∧id<1048576∧(id+1)*8≤d.size then
  if (d.read (id*8) 8).2.2=0 then ((d.read (id*8) 8).1,if gy (d.read (id*8) 8).2.1 id then (parse (d.read (id*8) 8).2.1,0) else (MM,2))
  else ((d.read (id*8) 8).1,MM,(d.read (id*8) 8).2.2)
 else (d,MM,1)
def sV:Obj:=.cells #[.int .i64 0,.int .i64 0,.int .u64 0,.int .i64 0,.string ⟨#[]⟩] 87
theorem Kh{d:V.bD}{s n:Int}(h0:0≤s)(h1:0≤n)(h2:s≤d.size - n)(h3:n≤1024):(d.read s n).2.2=if d.dead then 8 else 0:=by
 unfold V.bD.read;have hf:d.fits s n=true:=by unfold V.bD.fits;exact decide_eq_true ⟨h0,h1,h2⟩
 cases d.dead with
 | true=>rfl
 | false =>
  rw [hf];simp only [oV,if_false,oU];rw [if_neg (by omega)]
theorem Dh(a:Addr)(l:List UInt8)(id:Int):rC a l id=#[.agg (if gy l id then parse l else MM).cells.toArray,if gy l id then .nilIface else .iface 360 (.pointer (some a))]:=by
 unfold rC;split <;> rfl
theorem JJ{w w2:World}{F F':Nat→Prop}(hs:V.Step F F' (w.alloc sV) w2)(hF:∀ k,F k→k<w.heap.size):w2.heap[w.heap.size]?=some (.cells #[.int .i64 0,.int .i64 0,.int .u64 0,.int .i64 0,.string ⟨#[]⟩] 87 (0,0)):=by
 rw [hs.block w.heap.size (by simp) (fun hf=>by have:=hF _ hf;omega)]
 exact heap_alloc_new w _
theorem yo{w w3:World}{b:Nat}{F:Nat→Prop}{d:V.bD}{u0 u1 u2 u3 u4:Value}(h:V.cM w3 b F d)(hs:V.Step F F w w3)(hF:∀ k,F k→k<w.heap.size)(Ee:V.Step (fun k=>k=b) (fun k=>k=b) w w3):V.cM (((((w3.setCell ⟨w.heap.size,0,none⟩ u0).setCell ⟨w.heap.size,1,none⟩ u1).setCell ⟨w.heap.size,2,none⟩ u2).setCell ⟨w.heap.size,3,none⟩ u3).setCell ⟨w.heap.size,4,none⟩ u4) b F d∧V.Step F F w (((((w3.setCell ⟨w.heap.size,0,none⟩ u0).setCell ⟨w.heap.size,1,none⟩ u1).setCell ⟨w.heap.size,2,none⟩ u2).setCell ⟨w.heap.size,3,none⟩ u3).setCell ⟨w.heap.size,4,none⟩ u4)∧V.Step (fun k=>k=b) (fun k=>k=b) w (((((w3.setCell ⟨w.heap.size,0,none⟩ u0).setCell ⟨w.heap.size,1,none⟩ u1).setCell ⟨w.heap.size,2,none⟩ u2).setCell ⟨w.heap.size,3,none⟩ u3).setCell ⟨w.heap.size,4,none⟩ u4):=by
 have h5:=@Ld w3 w.heap.size u0 u1 u2 u3 u4;refine ⟨h.keep h5 (fun k hk e=>by have:=hF k hk;omega),⟨h5.os.trans hs.os,h5.tape.trans hs.tape,h5.output.trans hs.output,aq hs.size h5.size,fun q hq hn=>(h5.block q (al hq hs.size) (by omega)).trans (hs.block q hq hn),fun q hq=>hs.sub q hq⟩,⟨h5.os.trans Ee.os,h5.tape.trans Ee.tape,h5.output.trans Ee.output,aq Ee.size h5.size,fun q hq hn=>(h5.block q (al hq Ee.size) (by omega)).trans (Ee.block q hq hn),fun q hq=>Ee.sub q hq⟩⟩
theorem KE(base:Nat)(A:Nat→Addr)(db:Nat)(F:Nat→Prop)(d:V.bD)(id:Int)(w:World)(hd:V.cM w db F d)(hE:Env base A w)(hF:∀ k,F k→base≤k):Calls prog 113 #[.pointer (some ⟨db,0,none⟩),.int .i64 id] w fun e w'=>e = .returned (.tuple #[.agg (fO d id).2.1.cells.toArray,V.im A (fO d id).2.2])∧V.cM w' db F (fO d id).1∧V.Step F F w w'∧V.Step (fun k=>k=db) (fun k=>k=db) w w':=by
 have HE:=ab hE;have HD:=ab hd;have HFB:=ab hF;have HB:=ab (ai w sV);have HFl:=ab hd.lt;have HZ0:Hid (∀ w3,V.Step F F w w3→w3.heap[w.heap.size]?=some (.cells #[.int .i64 0,.int .i64 0,.int .u64 0,.int .i64 0,.string ⟨#[]⟩] 87 (0,0))→True):=fun _ _ _=>trivial
 have Hy:Hid ((w.alloc sV).heap[w.heap.size]?=some (.cells #[.int .i64 0,.int .i64 0,.int .u64 0,.int .i64 0,.string ⟨#[]⟩] 87 (0,0))):=heap_alloc_new w _;have Ty:=ab (sg id);clear hE hd hF HZ0;by_cases hid:2≤id∧id<1048576
 ·obtain ⟨Cu,sj⟩:=hid;have AM:0≤id:=by omega
  have HIT:Hid (∀ w,Calls prog 150 #[.int .i64 id] w fun e w'=>e = .returned (.bool true)∧w=w'):=fun w=>by
   have h:=Ty.out w;rw [decide_eq_true ⟨Cu,sj⟩] at h;exact h
  clear Ty;by_cases eE:(id+1)*8≤d.size
  ·have HDF:=ab (decide_eq_true eE);have Ul:=Kh (d:=d) (s:=id*8) (n:=8) (by omega) (by omega) (by omega) (by omega)
   have Ws:Hid (fO d id=if (d.read (id*8) 8).2.2=0 then ((d.read (id*8) 8).1,if gy (d.read (id*8) 8).2.1 id then (parse (d.read (id*8) 8).2.1,0) else (MM,2)) else ((d.read (id*8) 8).1,MM,(d.read (id*8) 8).2.2)):=by
    show fO d id=_
    unfold fO;rw [if_pos ⟨Cu,sj,eE⟩]
   have Xt:=ab (HD.out.below HB.out);have HEV:=ab (HE.out.up HB.out);have QD:=ab (V.lM base A db F d (w.alloc sV) Xt.out HEV.out.errs (id*8) 8 (by decide))
   have FH:=ab (mL db F d id (w.alloc sV) Xt.out AM sj);rw [HDF.out] at FH;have Mx:(d.read (id*8) 8).2.2=8∨(d.read (id*8) 8).2.2=0:=by rw [Ul];cases d.dead <;> simp
   clear Ul HDF eE;generalize d.read (id*8) 8=R at *;obtain ⟨Rd,Rl,Rc⟩:=R;simp only at Mx Ws;obtain ⟨ev,Es⟩ : ∃ ev,ev=V.im A Rc:=⟨_,rfl⟩;have HRX:Hid (Calls prog 151 #[.pointer (some ⟨db,0,none⟩),.int .i64 (id*8),.int .i64 8] (w.alloc sV) fun e w'=>∃ va vc,e = .returned (.tuple #[.slice va Rl.length vc,ev])∧w'.ownsRow (w.alloc sV).heap.size 5 1 (.slice va Rl.length vc) Rl.length (dR Rl)∧V.cM w' db F Rd∧V.Step F F (w.alloc sV) w'∧V.Step (fun k=>k=db) (fun k=>k=db) (w.alloc sV) w'):=by
    refine QD.out.mono ?_
    rintro e w2 ⟨v,P⟩;obtain ⟨va,vc,rfl,-⟩:=V.ia P.row;exact ⟨va,vc,by rw [Es];exact P.ret,P.row,P.dev,P.step,P.one⟩
   have aag:=ab Es;clear QD Es;go_enter func113,ntmps113;go_wp2_with fail;refine (HIT.out _).mono ?_
   rintro e ZG ⟨rfl,rfl⟩;go_wp2_with fail;refine FH.out.mono ?_
   rintro e ZG ⟨rfl,rfl⟩;go_wp2_with fail;refine (tL id _ AM (by omega)).mono ?_
   rintro e ZG ⟨rfl,rfl⟩;go_wp2_with fail;refine HRX.out.mono ?_
   rintro e w2 ⟨va,vc,rfl,bV,Pm,hstp,Ef⟩;have gX:Hid (V.Step (fun k=>k=db) (fun k=>k=db) w w2):=(V.Step.bx HB.out).trans Ef
   clear Ef;have oR:Hid (w2.heap[w.heap.size]?=some (.cells #[.int .i64 0,.int .i64 0,.int .u64 0,.int .i64 0,.string ⟨#[]⟩] 87 (0,0))):=JJ hstp HFl.out;have CD:=ab (Di bV);have Xq:=ab Pm;have nJ:Hid (V.Step F F w w2):=(V.Step.bx HB.out).trans hstp;have HE2:=ab (HEV.out.step hstp HFB.out);clear bV Pm hstp HRX FH;rcases Mx with rfl | rfl
   ·have gj:=oR.out;have z0:w2.cell? ⟨w.heap.size,0,none⟩=some (.int .i64 0):=by rw [cell_of_row _ _ _ _ _ _ gj];rfl
    have z1:w2.cell? ⟨w.heap.size,1,none⟩=some (.int .i64 0):=by rw [cell_of_row _ _ _ _ _ _ gj];rfl
    have z2:w2.cell? ⟨w.heap.size,2,none⟩=some (.int .u64 0):=by rw [cell_of_row _ _ _ _ _ _ gj];rfl
    have z3:w2.cell? ⟨w.heap.size,3,none⟩=some (.int .i64 0):=by rw [cell_of_row _ _ _ _ _ _ gj];rfl
    have z4:w2.cell? ⟨w.heap.size,4,none⟩=some (.string ⟨#[]⟩):=by rw [cell_of_row _ _ _ _ _ _ gj];rfl
    have y0:w2.frozen? ⟨w.heap.size,0,none⟩=false:=frozen_of_row _ _ _ _ _ gj;have y1:w2.frozen? ⟨w.heap.size,1,none⟩=false:=frozen_of_row _ _ _ _ _ gj;have y2:w2.frozen? ⟨w.heap.size,2,none⟩=false:=frozen_of_row _ _ _ _ _ gj;have y3:w2.frozen? ⟨w.heap.size,3,none⟩=false:=frozen_of_row _ _ _ _ _ gj;have y4:w2.frozen? ⟨w.heap.size,4,none⟩=false:=frozen_of_row _ _ _ _ _ gj;have UG:Hid (fO d id=(Rd,MM,8)):=by show fO d id=_;rw [Ws.out];rfl
    obtain rfl:ev = .iface 360 (.pointer (some (A 7))):=aag.out;clear Ws gj;go_wp2_with fail
    (try simp only [Exit.inBlock,Exit.then])
    rw [UG.out];refine bodyPost_ret (aK rfl _ _ w.heap.size 87 #[.int .i64 0,.int .i64 0,.int .u64 0,.int .i64 0,.string ⟨#[]⟩] (0,0) _ rfl (od oR.out) underlying87 rfl (by kernel_rfl)) rfl ⟨rfl,?_⟩
    exact yo Xq.out nJ.out HFl.out gX.out
   ·obtain rfl:ev = .nilIface:=aag.out;have UG:Hid (fO d id=(Rd,if gy Rl id then (parse Rl,0) else (MM,2))):=by show fO d id=_;rw [Ws.out];rfl
    have rj:=ab (lM (A 1) _ Rl id _ CD.out HE2.out.lay HE2.out.tab HE2.out.text);rw [Dh] at rj;clear Ws;obtain ⟨sh,Fx⟩ : ∃ sh,sh=if gy Rl id then parse Rl else MM:=⟨_,rfl⟩
    obtain ⟨er,her⟩ : ∃ er:Value,er=if gy Rl id then .nilIface else .iface 360 (.pointer (some (A 1))):=⟨_,rfl⟩
    rw [← Fx,← her] at rj;have HLW:Hid ((fO d id).2.1=sh∧V.im A (fO d id).2.2=er∧(fO d id).1=Rd):=by
     show _∧_∧_
     rw [UG.out,Fx,her];split <;> exact ⟨rfl,rfl,rfl⟩
    clear Fx her UG;obtain ⟨k5,i5,t5,c5,b5⟩:=sh;go_wp2_with fail;refine rj.out.mono ?_
    rintro e w3 ⟨rfl,b6⟩;have gj:w3.heap[w.heap.size]?=some (.cells #[.int .i64 0,.int .i64 0,.int .u64 0,.int .i64 0,.string ⟨#[]⟩] 87 (0,0)):=(b6.block _ ((Array.getElem?_eq_some_iff.1 oR.out).1)).trans oR.out;have Rb:=ab gj;have HP3:=ab (Xq.out.below b6);have QC:Hid (V.Step F F w w3):=nJ.out.trans (V.Step.bx b6);have nL:Hid (V.Step (fun k=>k=db) (fun k=>k=db) w w3):=gX.out.trans (V.Step.bx b6)
    have z0:w3.cell? ⟨w.heap.size,0,none⟩=some (.int .i64 0):=by rw [cell_of_row _ _ _ _ _ _ gj];rfl
    have z1:w3.cell? ⟨w.heap.size,1,none⟩=some (.int .i64 0):=by rw [cell_of_row _ _ _ _ _ _ gj];rfl
    have z2:w3.cell? ⟨w.heap.size,2,none⟩=some (.int .u64 0):=by rw [cell_of_row _ _ _ _ _ _ gj];rfl
    have z3:w3.cell? ⟨w.heap.size,3,none⟩=some (.int .i64 0):=by rw [cell_of_row _ _ _ _ _ _ gj];rfl
    have z4:w3.cell? ⟨w.heap.size,4,none⟩=some (.string ⟨#[]⟩):=by rw [cell_of_row _ _ _ _ _ _ gj];rfl
    have y0:w3.frozen? ⟨w.heap.size,0,none⟩=false:=frozen_of_row _ _ _ _ _ gj;have y1:w3.frozen? ⟨w.heap.size,1,none⟩=false:=frozen_of_row _ _ _ _ _ gj;have y2:w3.frozen? ⟨w.heap.size,2,none⟩=false:=frozen_of_row _ _ _ _ _ gj;have y3:w3.frozen? ⟨w.heap.size,3,none⟩=false:=frozen_of_row _ _ _ _ _ gj;have y4:w3.frozen? ⟨w.heap.size,4,none⟩=false:=frozen_of_row _ _ _ _ _ gj;have QB:Hid ((⟨k5,i5,t5,c5,b5⟩ : Sh).cells.toArray=#[.int .i64 k5,.int .i64 i5,.int .u64 (t5:Int),.int .i64 c5,.string b5]):=rfl;rw [QB.out];clear gj b6;go_wp2_with fail
    (try simp only [Exit.inBlock,Exit.then])
    rw [HLW.out.1,HLW.out.2.1,HLW.out.2.2];refine bodyPost_ret (aK rfl _ _ w.heap.size 87 #[.int .i64 k5,.int .i64 i5,.int .u64 (t5:Int),.int .i64 c5,.string b5] (0,0) _ rfl (od Rb.out) underlying87 rfl (by kernel_rfl)) rfl ⟨rfl,?_⟩
    exact yo HP3.out QC.out HFl.out nL.out
  ·have FH:=ab (mL db F d id (w.alloc sV) (HD.out.below HB.out) AM sj);rw [decide_eq_false eE] at FH;have UG:Hid (fO d id=(d,MM,1)):=by show fO d id=_;unfold fO;rw [if_neg (fun h=>eE h.2.2)]
   have cE:(w.alloc (.cells #[.int .i64 0,.int .i64 0,.int .u64 0,.int .i64 0,.string ⟨#[]⟩] 87)).cell? ⟨0,0,none⟩=some (.iface 360 (.pointer (some (A 0)))):=(HE.out.up HB.out).errs.arg;have gj:=Hy.out;unfold sV at gj;have z0:(w.alloc (.cells #[.int .i64 0,.int .i64 0,.int .u64 0,.int .i64 0,.string ⟨#[]⟩] 87)).cell? ⟨w.heap.size,0,none⟩=some (.int .i64 0):=by rw [cell_of_row _ _ _ _ _ _ gj];rfl
   have z1:(w.alloc (.cells #[.int .i64 0,.int .i64 0,.int .u64 0,.int .i64 0,.string ⟨#[]⟩] 87)).cell? ⟨w.heap.size,1,none⟩=some (.int .i64 0):=by rw [cell_of_row _ _ _ _ _ _ gj];rfl
   have z2:(w.alloc (.cells #[.int .i64 0,.int .i64 0,.int .u64 0,.int .i64 0,.string ⟨#[]⟩] 87)).cell? ⟨w.heap.size,2,none⟩=some (.int .u64 0):=by rw [cell_of_row _ _ _ _ _ _ gj];rfl
   have z3:(w.alloc (.cells #[.int .i64 0,.int .i64 0,.int .u64 0,.int .i64 0,.string ⟨#[]⟩] 87)).cell? ⟨w.heap.size,3,none⟩=some (.int .i64 0):=by rw [cell_of_row _ _ _ _ _ _ gj];rfl
   have z4:(w.alloc (.cells #[.int .i64 0,.int .i64 0,.int .u64 0,.int .i64 0,.string ⟨#[]⟩] 87)).cell? ⟨w.heap.size,4,none⟩=some (.string ⟨#[]⟩):=by rw [cell_of_row _ _ _ _ _ _ gj];rfl
   have y0:(w.alloc (.cells #[.int .i64 0,.int .i64 0,.int .u64 0,.int .i64 0,.string ⟨#[]⟩] 87)).frozen? ⟨w.heap.size,0,none⟩=false:=frozen_of_row _ _ _ _ _ gj;have y1:(w.alloc (.cells #[.int .i64 0,.int .i64 0,.int .u64 0,.int .i64 0,.string ⟨#[]⟩] 87)).frozen? ⟨w.heap.size,1,none⟩=false:=frozen_of_row _ _ _ _ _ gj;have y2:(w.alloc (.cells #[.int .i64 0,.int .i64 0,.int .u64 0,.int .i64 0,.string ⟨#[]⟩] 87)).frozen? ⟨w.heap.size,2,none⟩=false:=frozen_of_row _ _ _ _ _ gj;have y3:(w.alloc (.cells #[.int .i64 0,.int .i64 0,.int .u64 0,.int .i64 0,.string ⟨#[]⟩] 87)).frozen? ⟨w.heap.size,3,none⟩=false:=frozen_of_row _ _ _ _ _ gj;have y4:(w.alloc (.cells #[.int .i64 0,.int .i64 0,.int .u64 0,.int .i64 0,.string ⟨#[]⟩] 87)).frozen? ⟨w.heap.size,4,none⟩=false:=frozen_of_row _ _ _ _ _ gj;clear gj;clear eE;go_enter func113,ntmps113;go_wp2_with fail;refine (HIT.out _).mono ?_
   rintro e ZG ⟨rfl,rfl⟩;go_wp2_with fail;refine FH.out.mono ?_
   rintro e ZG ⟨rfl,rfl⟩;unfold sV;go_wp2_with fail;go_region
   all_goals
    go_wp2_with fail
    (try simp only [Exit.inBlock,Exit.then])
    rw [UG.out];refine bodyPost_ret (aK rfl _ _ w.heap.size 87 #[.int .i64 0,.int .i64 0,.int .u64 0,.int .i64 0,.string ⟨#[]⟩] (0,0) _ rfl Hy.out underlying87 rfl (by kernel_rfl)) rfl ⟨rfl,?_⟩
    exact ⟨HD.out.below (V.below_drewN HB.out 1),V.Step.bx (V.below_drewN HB.out 1),V.Step.bx (V.below_drewN HB.out 1)⟩
 ·have HIT:Hid (∀ w,Calls prog 150 #[.int .i64 id] w fun e w'=>e = .returned (.bool false)∧w=w'):=fun w=>by
   have h:=Ty.out w;rw [decide_eq_false hid] at h;exact h
  have UG:Hid (fO d id=(d,MM,1)):=by show fO d id=_;unfold fO;rw [if_neg (fun h=>hid ⟨h.1,h.2.1⟩)]
  have cE:(w.alloc (.cells #[.int .i64 0,.int .i64 0,.int .u64 0,.int .i64 0,.string ⟨#[]⟩] 87)).cell? ⟨0,0,none⟩=some (.iface 360 (.pointer (some (A 0)))):=(HE.out.up HB.out).errs.arg;have gj:=Hy.out;unfold sV at gj;have z0:(w.alloc (.cells #[.int .i64 0,.int .i64 0,.int .u64 0,.int .i64 0,.string ⟨#[]⟩] 87)).cell? ⟨w.heap.size,0,none⟩=some (.int .i64 0):=by rw [cell_of_row _ _ _ _ _ _ gj];rfl
  have z1:(w.alloc (.cells #[.int .i64 0,.int .i64 0,.int .u64 0,.int .i64 0,.string ⟨#[]⟩] 87)).cell? ⟨w.heap.size,1,none⟩=some (.int .i64 0):=by rw [cell_of_row _ _ _ _ _ _ gj];rfl
  have z2:(w.alloc (.cells #[.int .i64 0,.int .i64 0,.int .u64 0,.int .i64 0,.string ⟨#[]⟩] 87)).cell? ⟨w.heap.size,2,none⟩=some (.int .u64 0):=by rw [cell_of_row _ _ _ _ _ _ gj];rfl
  have z3:(w.alloc (.cells #[.int .i64 0,.int .i64 0,.int .u64 0,.int .i64 0,.string ⟨#[]⟩] 87)).cell? ⟨w.heap.size,3,none⟩=some (.int .i64 0):=by rw [cell_of_row _ _ _ _ _ _ gj];rfl
  have z4:(w.alloc (.cells #[.int .i64 0,.int .i64 0,.int .u64 0,.int .i64 0,.string ⟨#[]⟩] 87)).cell? ⟨w.heap.size,4,none⟩=some (.string ⟨#[]⟩):=by rw [cell_of_row _ _ _ _ _ _ gj];rfl
  have y0:(w.alloc (.cells #[.int .i64 0,.int .i64 0,.int .u64 0,.int .i64 0,.string ⟨#[]⟩] 87)).frozen? ⟨w.heap.size,0,none⟩=false:=frozen_of_row _ _ _ _ _ gj;have y1:(w.alloc (.cells #[.int .i64 0,.int .i64 0,.int .u64 0,.int .i64 0,.string ⟨#[]⟩] 87)).frozen? ⟨w.heap.size,1,none⟩=false:=frozen_of_row _ _ _ _ _ gj;have y2:(w.alloc (.cells #[.int .i64 0,.int .i64 0,.int .u64 0,.int .i64 0,.string ⟨#[]⟩] 87)).frozen? ⟨w.heap.size,2,none⟩=false:=frozen_of_row _ _ _ _ _ gj;have y3:(w.alloc (.cells #[.int .i64 0,.int .i64 0,.int .u64 0,.int .i64 0,.string ⟨#[]⟩] 87)).frozen? ⟨w.heap.size,3,none⟩=false:=frozen_of_row _ _ _ _ _ gj;have y4:(w.alloc (.cells #[.int .i64 0,.int .i64 0,.int .u64 0,.int .i64 0,.string ⟨#[]⟩] 87)).frozen? ⟨w.heap.size,4,none⟩=false:=frozen_of_row _ _ _ _ _ gj;clear gj;clear hid Ty;go_enter func113,ntmps113;go_wp2_with fail;refine (HIT.out _).mono ?_
  rintro e ZG ⟨rfl,rfl⟩;go_wp2_with fail;go_region
  all_goals
   go_wp2_with fail
   (try simp only [Exit.inBlock,Exit.then])
   rw [UG.out];refine bodyPost_ret (aK rfl _ _ w.heap.size 87 #[.int .i64 0,.int .i64 0,.int .u64 0,.int .i64 0,.string ⟨#[]⟩] (0,0) _ rfl Hy.out underlying87 rfl (by kernel_rfl)) rfl ⟨rfl,?_⟩
   exact ⟨HD.out.below (V.below_drewN HB.out 1),V.Step.bx (V.below_drewN HB.out 1),V.Step.bx (V.below_drewN HB.out 1)⟩
end S
namespace T
open Go.RowKit
def Nr(d d':S.V.bD):Prop:=∃ n,d'={ d with nr:=n }
theorem Nr.refl(d:S.V.bD):Nr d d:=⟨d.nr,rfl⟩
theorem Nr.trans{a b c:S.V.bD}(h:Nr a b)(k:Nr b c):Nr a c:=by
 obtain ⟨n,rfl⟩:=h;obtain ⟨m,rfl⟩:=k;exact ⟨m,rfl⟩
structure Mv(db:Nat)(F:Nat→Prop)(w w':World):Prop where
 step:S.V.Step F F w w'
 one:One db w w'
theorem Mv.refl(db:Nat)(F:Nat→Prop)(w:World):Mv db F w w:=⟨S.V.Step.refl _ _,S.V.Step.refl _ _⟩
theorem Mv.trans{db:Nat}{F:Nat→Prop}{a b c:World}(h:Mv db F a b)(k:Mv db F b c):Mv db F a c:=⟨h.step.trans k.step,h.one.trans k.one⟩
theorem Mv.of{db:Nat}{F:Nat→Prop}{a b:World}(h:Below a.heap.size a b):Mv db F a b:=⟨S.V.Step.bx h,S.V.Step.bx h⟩
theorem Mv.size{db:Nat}{F:Nat→Prop}{a b:World}(h:Mv db F a b):a.heap.size≤b.heap.size:=h.step.size
structure Dv(base:Nat)(A:Nat→Addr)(db:Nat)(F:Nat→Prop)(d:S.V.bD)(w:World):Prop where
 dev:∃ d',Nr d d'∧S.V.cM w db F d'
 env:S.Env base A w
 errs:dk 13 fl A w
 up:∀ k,F k→base≤k
 alive:d.dead=false
 lo:∀ i,i<13→fl i<base∧(A i).block<base
theorem Dv.below{base:Nat}{A:Nat→Addr}{db:Nat}{F:Nat→Prop}{d:S.V.bD}{w w':World}(h:Dv base A db F d w)(hb:Below w.heap.size w w'):Dv base A db F d w':=by
 obtain ⟨d',h1,h2⟩:=h.dev;exact ⟨⟨d',h1,h2.below hb⟩,h.env.up hb,h.errs.keep hb,h.up,h.alive,h.lo⟩
theorem Dv.B0{base:Nat}{A:Nat→Addr}{db:Nat}{F:Nat→Prop}{d:S.V.bD}{w:World}(h:Dv base A db F d w):jG A w:=⟨h.errs.JQ (by decide),(h.errs.1 11 (by decide)).1⟩
theorem Dv.ZA{base:Nat}{A:Nat→Addr}{db:Nat}{F:Nat→Prop}{d:S.V.bD}{w:World}(h:Dv base A db F d w):B.pT A w:=B.EF h.errs
theorem Dv.g{base:Nat}{A:Nat→Addr}{db:Nat}{F:Nat→Prop}{d:S.V.bD}{w:World}(h:Dv base A db F d w)(i:Nat)(hi:i<13):w.cell? ⟨fl i,0,none⟩=some (.iface 360 (.pointer (some (A i)))):=(h.errs.1 i hi).1
theorem RK(d:S.V.bD)(id:Int)(AO:d.dead=false)(h0:0≤id)(eE:(id+1)*8≤d.size):d.read (id*8) 8=(S.R6 d,S.V.iO d (id*8) 8,0):=by
 have hf:d.fits (id*8) 8=true:=by
  unfold S.V.bD.fits;exact decide_eq_true ⟨by omega,by omega,by omega⟩
 obtain ⟨sz,eF,aS,eQ,dead,nr,nw,ns⟩:=d;simp only at AO;subst AO;unfold S.V.bD.read;rw [hf];simp only [oV,if_false,oU];rw [if_neg (by decide)]
 rfl
theorem te{d:S.V.bD}{id:Int}{s s':S.Sh}(h:fB d id s)(k:fB d id s'):s=s':=by
 have e1:=S.kG s h.1 h.2.1;have e2:=S.kG s' k.1 k.2.1;have e3:S.hU s=S.hU s':=by rw [← h.2.2.2.2,← k.2.2.2.2,h.2.2.1,k.2.2.1]
 rw [← e1,← e2,e3]
theorem holds_one{s:S.Sh}{p p':PD}(h:gE s p)(k:gE s p'):p=p':=by
 rcases h with ⟨h1,_,h3⟩ | ⟨h1,_,h3⟩ <;> rcases k with ⟨k1,_,k3⟩ | ⟨k1,_,k3⟩
 ·rw [h3,k3]
 ·omega
 ·omega
 ·rw [h3,k3]
theorem IJ{d:S.V.bD}{id:Int}{s:S.Sh}{p:PD}(h:fB d id s)(k:gE s p):cU d id=some p:=by
 have he:∃ p s,fB d id s∧gE s p:=⟨p,s,h,k⟩;cases hp:cU d id with
 | none =>
  unfold cU at hp;rw [dif_pos he] at hp;cases hp
 | some q =>
  obtain ⟨s',h',k'⟩:=Aj hp;rw [te h' h] at k';rw [holds_one k k']
theorem BA{d:S.V.bD}{id:Int}(h:∀ s p,fB d id s→¬ gE s p):cU d id=none:=by
 cases hp:cU d id with
 | none=>rfl
 | some q =>
  obtain ⟨s',h',k'⟩:=Aj hp;exact absurd k' (h s' q h')
theorem DM(d:S.V.bD)(id:Int)(AO:d.dead=false):Nr d (S.fO d id).1∧(((S.fO d id).2.2=0∧fB d id (S.fO d id).2.1)∨(((S.fO d id).2.2=1∨(S.fO d id).2.2=2)∧∀ s,¬ fB d id s)):=by
 unfold S.fO;split
 ·rename_i h
  rw [RK d id AO (by omega) h.2.2]
  simp only [if_true];refine ⟨⟨_,rfl⟩,?_⟩;split
  ·rename_i cC
   refine .inl ⟨rfl,cC.2.2.1,S.TO _,cC.2.1,?_,?_⟩
   ·have:=cC.2.1;show ((S.parse _).id+1)*8≤d.size
    rw [this];exact h.2.2
   ·have:=cC.2.1;show S.V.iO d ((S.parse _).id*8) 8=S.hU (S.parse _)
    rw [this,cC.2.2.2]
  ·rename_i fy
   refine .inr ⟨.inr rfl,fun s hs=>fy ?_⟩
   have e:=hs.2.2.2.2;rw [hs.2.2.1] at e;rw [e];exact (S.Dx s hs.1 hs.2.1 id).2 hs.2.2.1.symm
 ·rename_i h
  refine ⟨Nr.refl d,.inr ⟨.inl rfl,fun s hs=>h ?_⟩⟩
  have h1:=hs.1.2.2.1;have h2:=hs.2.2.2.1;rw [hs.2.2.1] at h1 h2;exact ⟨h1.1,h1.2,h2⟩
def _root_.Go.Proofs.YtihmgigfkmofnaaGreatDoor.T.PD.sn:PD→SN
 | .leaf l=>⟨l,0,[],[]⟩
 | .br f lk=>⟨[],f,lk,Bz f lk⟩
theorem KC(A:Nat→Addr)(kd id tx c:Value)(cn:Int)(body:ByteArray)(hc:c = .int .i64 cn)(w:World)(fy:¬ (0≤cn∧mx cn.toNat body.data.toList))(hE:dk 13 fl A w):Calls prog 174 #[.agg #[kd,id,tx,c,.string body]] w fun e w'=>e = .returned (.tuple #[.pointer none,.iface 360 (.pointer (some (A 8)))])∧Below w.heap.size w w':=by
 subst hc;have q0:=ai w (.cells #[kd,id,tx,.int .i64 cn,.string body] 87);have x0:=B.au.new w #[kd,id,tx,.int .i64 cn,.string body] 87;have k3:(w.alloc (.cells #[kd,id,tx,.int .i64 cn,.string body] 87)).cell? ⟨w.heap.size,3,none⟩=some (.int .i64 cn):=x0.cell 3 (by simp)
 have k4:(w.alloc (.cells #[kd,id,tx,.int .i64 cn,.string body] 87)).cell? ⟨w.heap.size,4,none⟩=some (.string body):=x0.cell 4 (by simp)
 have lG:Hid (Calls prog 114 #[.int .i64 cn,.string body] (w.alloc (.cells #[kd,id,tx,.int .i64 cn,.string body] 87)) fun e w'=>e = .returned (.tuple #[.slice none 0 0,.iface 360 (.pointer (some (A 1)))])∧Below w.heap.size w w'∧w'.cell? ⟨8,0,none⟩=some (.iface 360 (.pointer (some (A 8))))):=by
  refine (DT A cn body _ ⟨(hE.keep q0).JQ (by decide),((hE.keep q0).1 11 (by decide)).1⟩).mono fun e w' ⟨hv,hb⟩=>?_
  rcases hv with ⟨h1,h2,_⟩ | ⟨_,he⟩
  ·exact absurd ⟨h1,h2⟩ fy
  ·exact ⟨he,Below.next q0 hb,(((hE.keep q0).keep hb).1 8 (by decide)).1⟩
 clear q0 x0 fy hE;go_enter func174,ntmps174;go_wp2_with fail;refine lG.out.mono ?_
 rintro e w1 ⟨rfl,aN,fJ⟩;have HB:=ab aN;clear aN lG k3 k4;go_wp2_with fail;go_quiet (fail)
 go_wp2;go_ret2;exact ⟨rfl,aB HB.out _⟩
theorem KD(A:Nat→Addr)(kd id tx c:Value)(cn:Int)(body:ByteArray)(hc:c = .int .i64 cn)(w:World)(fy:¬ (0≤cn∧B.vz cn.toNat body.data.toList))(hE:dk 13 fl A w):Calls prog 175 #[.agg #[kd,id,tx,c,.string body]] w fun e w'=>e = .returned (.tuple #[.pointer none,.iface 360 (.pointer (some (A 8)))])∧Below w.heap.size w w':=by
 subst hc;have q0:=ai w (.cells #[kd,id,tx,.int .i64 cn,.string body] 87);have x0:=B.au.new w #[kd,id,tx,.int .i64 cn,.string body] 87;have k3:(w.alloc (.cells #[kd,id,tx,.int .i64 cn,.string body] 87)).cell? ⟨w.heap.size,3,none⟩=some (.int .i64 cn):=x0.cell 3 (by simp)
 have k4:(w.alloc (.cells #[kd,id,tx,.int .i64 cn,.string body] 87)).cell? ⟨w.heap.size,4,none⟩=some (.string body):=x0.cell 4 (by simp)
 have lG:Hid (Calls prog 116 #[.int .i64 cn,.string body] (w.alloc (.cells #[kd,id,tx,.int .i64 cn,.string body] 87)) fun e w'=>e = .returned (.tuple #[.agg #[.int .i64 0,.slice none 0 0],.iface 360 (.pointer (some (A 1)))])∧Below w.heap.size w w'∧w'.cell? ⟨8,0,none⟩=some (.iface 360 (.pointer (some (A 8))))):=by
  refine (B.E2 A cn body _ (B.EF (hE.keep q0))).mono fun e w' ⟨hv,hb⟩=>?_
  rcases hv with ⟨h1,h2,_⟩ | ⟨_,he⟩
  ·exact absurd ⟨h1,h2⟩ fy
  ·exact ⟨he,Below.next q0 hb,(((hE.keep q0).keep hb).1 8 (by decide)).1⟩
 clear q0 x0 fy hE;go_enter func175,ntmps175;go_wp2_with fail;refine lG.out.mono ?_
 rintro e w1 ⟨rfl,aN,fJ⟩;have q2:=ai w1 (.cells #[.int .i64 0,.slice none 0 0] 150);have g2:(w1.alloc (.cells #[.int .i64 0,.slice none 0 0] 150)).cell? ⟨8,0,none⟩=some (.iface 360 (.pointer (some (A 8)))):=(q2.cell (p:=⟨8,0,none⟩) (World.block_lt_of_cell? w1 _ fJ)).trans fJ;have HB:=ab (Below.next aN q2);clear aN lG k3 k4 q2;go_wp2_with fail;go_quiet (fail)
 go_wp2;go_ret2;exact ⟨rfl,aB HB.out _⟩
def sH(A:Nat→Addr)(P:Option PD)(e:Ending)(w':World):Prop :=
 (P=none∧e = .returned (.tuple #[.pointer none,.iface 360 (.pointer (some (A 8)))])) ∨
 (∃ p b pv lv cv,P=some p∧e = .returned (.tuple #[.pointer (some ⟨b,0,none⟩),.nilIface])∧dM w' b p.sn pv lv cv)
theorem sH.form{A:Nat→Addr}{P:Option PD}{e:Ending}{w':World}(h:sH A P e w'):∃ p v,e = .returned (.tuple #[.pointer p,v])∧sH A P (.returned (.tuple #[.pointer p,v])) w'∧(v = .nilIface∨v = .iface 360 (.pointer (some (A 8)))):=by
 rcases h with ⟨h1,rfl⟩ | ⟨p,b,pv,lv,cv,h1,rfl,h2⟩
 ·exact ⟨_,_,rfl,.inl ⟨h1,rfl⟩,.inr rfl⟩
 ·exact ⟨_,_,rfl,.inr ⟨p,b,pv,lv,cv,h1,rfl,h2⟩,.inl rfl⟩
theorem Kw(base:Nat)(A:Nat→Addr)(db:Nat)(F:Nat→Prop)(d:S.V.bD)(id:Int)(w:World)(hv:Dv base A db F d w):Calls prog 135 #[.pointer (some ⟨db,0,none⟩),.int .i64 id] w fun e w'=>sH A (cU d id) e w'∧Dv base A db F d w'∧Mv db F w w':=by
 obtain ⟨d0,QY,hd⟩:=hv.dev;have VH:d0.dead=false:=by obtain ⟨n,rfl⟩:=QY;exact hv.alive
 have AH:cU d0=cU d:=by obtain ⟨n,rfl⟩:=QY;rfl
 rw [← AH];obtain ⟨hnr,fG⟩:=DM d0 id VH;have JG:=ab (S.KE base A db F d0 id w hd hv.env hv.up);generalize S.fO d0 id=R at *;obtain ⟨Rd,s,c⟩:=R;simp only at hnr fG JG;have qf:Hid (∀ w1,S.V.cM w1 db F Rd→S.V.Step F F w w1→One db w w1→Dv base A db F d w1∧Mv db F w w1):=fun w1 h1 h2 h3 =>
  ⟨⟨⟨Rd,QY.trans hnr,h1⟩,hv.env.step h2 hv.up,EE h3 hd h1 hv.errs,hv.up,hv.alive,hv.lo⟩,⟨h2,h3⟩⟩
 obtain ⟨kd,uo,tx,cn,bd⟩:=s;simp only [S.Sh.cells] at JG;rcases fG with ⟨rfl,Fx⟩ | ⟨Y9,fy⟩
 ·have ri:kd=66∨kd=76:=Fx.1.1;have yi:(0:Int)≤cn:=Fx.1.2.1.1;have GW:=fun W=>EH (some (A 7)) W
  have FH:=ab Fx;have HC0:=ab yi;have e0:S.V.im A 0 = .nilIface:=rfl;rw [e0] at JG;clear hv hd VH QY AH hnr Fx yi e0;rcases ri with rfl | rfl
  ·by_cases hdec:B.vz cn.toNat bd.data.toList
   ·have Ff:=ab (IJ FH.out (.inr ⟨rfl,hdec,rfl⟩));have lG:=ab hdec;clear hdec;go_enter func135,ntmps135;go_wp2_with fail;refine JG.out.mono ?_
    rintro e w1 ⟨rfl,sN,jT,jB⟩;obtain ⟨eH,fI⟩:=qf.out w1 sN jT jB;have q2:=ai w1 (.cells #[.int .i64 66,.int .i64 uo,.int .u64 (tx:Int),.int .i64 cn,.string bd] 87);have x2:=B.au.new w1 #[.int .i64 66,.int .i64 uo,.int .u64 (tx:Int),.int .i64 cn,.string bd] 87;have Uq:(w1.alloc (.cells #[.int .i64 66,.int .i64 uo,.int .u64 (tx:Int),.int .i64 cn,.string bd] 87)).cell? ⟨7,0,none⟩=some (.iface 360 (.pointer (some (A 7)))):=(eH.below q2).g 7 (by decide)
    have k0:=x2.cell 0 (by simp)
    have k1:=x2.cell 1 (by simp)
    have k2:=x2.cell 2 (by simp)
    have k3:=x2.cell 3 (by simp)
    have k4:=x2.cell 4 (by simp)
    simp only [aG,List.getElem_cons_zero,List.getElem_cons_succ] at k0 k1 k2 k3 k4;have kj:=ab (Oj A (.int .i64 66) (.int .i64 uo) (.int .u64 (tx:Int)) (.int .i64 cn) cn bd rfl (w1.alloc (.cells #[.int .i64 66,.int .i64 uo,.int .u64 (tx:Int),.int .i64 cn,.string bd] 87)) HC0.out lG.out (eH.below q2).ZA);have sI:=ab q2;have qY:=ab eH;have QJ:=ab fI;clear JG sN jT jB q2 x2 eH fI qf;go_wp2_with fail;refine kj.out.mono ?_
    rintro e w3 ⟨b,pv,lv,cv,rfl,OS,b6⟩;have iS:=Below.next sI.out b6;have b8:Hid (sH A (cU d0 id) (.returned (.tuple #[.pointer (some ⟨b,0,none⟩),.nilIface])) w3∧Dv base A db F d w3∧Mv db F w w3):=⟨.inr ⟨_,b,pv,lv,cv,Ff.out,rfl,OS⟩,qY.out.below iS,QJ.out.trans (Mv.of iS)⟩;clear OS b6 iS k0 k1 k2 k3 k4 Uq kj;go_wp2;go_ret2;exact b8.out
   ·have Ff:Hid (cU d0 id=none):=BA fun s p h1 h2=>by
     rw [te h1 FH.out] at h2;rcases h2 with ⟨h,_⟩ | ⟨_,h,_⟩
     ·exact absurd (show (66:Int)=76 from h) (by decide)
     ·exact hdec h
    have lG:=ab hdec;clear hdec;go_enter func135,ntmps135;go_wp2_with fail;refine JG.out.mono ?_
    rintro e w1 ⟨rfl,sN,jT,jB⟩;obtain ⟨eH,fI⟩:=qf.out w1 sN jT jB;have q2:=ai w1 (.cells #[.int .i64 66,.int .i64 uo,.int .u64 (tx:Int),.int .i64 cn,.string bd] 87);have x2:=B.au.new w1 #[.int .i64 66,.int .i64 uo,.int .u64 (tx:Int),.int .i64 cn,.string bd] 87;have Uq:(w1.alloc (.cells #[.int .i64 66,.int .i64 uo,.int .u64 (tx:Int),.int .i64 cn,.string bd] 87)).cell? ⟨7,0,none⟩=some (.iface 360 (.pointer (some (A 7)))):=(eH.below q2).g 7 (by decide)
    have k0:=x2.cell 0 (by simp)
    have k1:=x2.cell 1 (by simp)
    have k2:=x2.cell 2 (by simp)
    have k3:=x2.cell 3 (by simp)
    have k4:=x2.cell 4 (by simp)
    simp only [aG,List.getElem_cons_zero,List.getElem_cons_succ] at k0 k1 k2 k3 k4;have kj:=ab (KD A (.int .i64 66) (.int .i64 uo) (.int .u64 (tx:Int)) (.int .i64 cn) cn bd rfl (w1.alloc (.cells #[.int .i64 66,.int .i64 uo,.int .u64 (tx:Int),.int .i64 cn,.string bd] 87)) (fun h=>lG.out h.2) (eH.below q2).errs)
    have sI:=ab q2;have qY:=ab eH;have QJ:=ab fI;clear JG sN jT jB q2 x2 eH fI qf;go_wp2_with fail;refine kj.out.mono ?_
    rintro e w3 ⟨rfl,b6⟩;have iS:=Below.next sI.out b6;have b8:Hid (sH A (cU d0 id) (.returned (.tuple #[.pointer none,.iface 360 (.pointer (some (A 8)))])) w3∧Dv base A db F d w3∧Mv db F w w3):=⟨.inl ⟨Ff.out,rfl⟩,qY.out.below iS,QJ.out.trans (Mv.of iS)⟩;clear b6 iS k0 k1 k2 k3 k4 Uq kj;go_wp2;go_ret2;exact b8.out
  ·by_cases hdec:mx cn.toNat bd.data.toList
   ·have Ff:=ab (IJ FH.out (.inl ⟨rfl,hdec,rfl⟩));have lG:=ab hdec;clear hdec;go_enter func135,ntmps135;go_wp2_with fail;refine JG.out.mono ?_
    rintro e w1 ⟨rfl,sN,jT,jB⟩;obtain ⟨eH,fI⟩:=qf.out w1 sN jT jB;have q2:=ai w1 (.cells #[.int .i64 76,.int .i64 uo,.int .u64 (tx:Int),.int .i64 cn,.string bd] 87);have x2:=B.au.new w1 #[.int .i64 76,.int .i64 uo,.int .u64 (tx:Int),.int .i64 cn,.string bd] 87;have Uq:(w1.alloc (.cells #[.int .i64 76,.int .i64 uo,.int .u64 (tx:Int),.int .i64 cn,.string bd] 87)).cell? ⟨7,0,none⟩=some (.iface 360 (.pointer (some (A 7)))):=(eH.below q2).g 7 (by decide)
    have k0:=x2.cell 0 (by simp)
    have k1:=x2.cell 1 (by simp)
    have k2:=x2.cell 2 (by simp)
    have k3:=x2.cell 3 (by simp)
    have k4:=x2.cell 4 (by simp)
    simp only [aG,List.getElem_cons_zero,List.getElem_cons_succ] at k0 k1 k2 k3 k4;have kj:=ab (Oi A (.int .i64 76) (.int .i64 uo) (.int .u64 (tx:Int)) (.int .i64 cn) cn bd rfl (w1.alloc (.cells #[.int .i64 76,.int .i64 uo,.int .u64 (tx:Int),.int .i64 cn,.string bd] 87)) HC0.out lG.out (eH.below q2).B0);have sI:=ab q2;have qY:=ab eH;have QJ:=ab fI;clear JG sN jT jB q2 x2 eH fI qf;go_wp2_with fail;refine kj.out.mono ?_
    rintro e w3 ⟨b,pv,lv,cv,rfl,OS,b6⟩;have iS:=Below.next sI.out b6;have b8:Hid (sH A (cU d0 id) (.returned (.tuple #[.pointer (some ⟨b,0,none⟩),.nilIface])) w3∧Dv base A db F d w3∧Mv db F w w3):=⟨.inr ⟨_,b,pv,lv,cv,Ff.out,rfl,OS⟩,qY.out.below iS,QJ.out.trans (Mv.of iS)⟩;clear OS b6 iS k0 k1 k2 k3 k4 Uq kj;go_wp2;go_ret2;exact b8.out
   ·have Ff:Hid (cU d0 id=none):=BA fun s p h1 h2=>by
     rw [te h1 FH.out] at h2;rcases h2 with ⟨_,h,_⟩ | ⟨h,_⟩
     ·exact hdec h
     ·exact absurd (show (76:Int)=66 from h) (by decide)
    have lG:=ab hdec;clear hdec;go_enter func135,ntmps135;go_wp2_with fail;refine JG.out.mono ?_
    rintro e w1 ⟨rfl,sN,jT,jB⟩;obtain ⟨eH,fI⟩:=qf.out w1 sN jT jB;have q2:=ai w1 (.cells #[.int .i64 76,.int .i64 uo,.int .u64 (tx:Int),.int .i64 cn,.string bd] 87);have x2:=B.au.new w1 #[.int .i64 76,.int .i64 uo,.int .u64 (tx:Int),.int .i64 cn,.string bd] 87;have Uq:(w1.alloc (.cells #[.int .i64 76,.int .i64 uo,.int .u64 (tx:Int),.int .i64 cn,.string bd] 87)).cell? ⟨7,0,none⟩=some (.iface 360 (.pointer (some (A 7)))):=(eH.below q2).g 7 (by decide)
    have k0:=x2.cell 0 (by simp)
    have k1:=x2.cell 1 (by simp)
    have k2:=x2.cell 2 (by simp)
    have k3:=x2.cell 3 (by simp)
    have k4:=x2.cell 4 (by simp)
    simp only [aG,List.getElem_cons_zero,List.getElem_cons_succ] at k0 k1 k2 k3 k4;have kj:=ab (KC A (.int .i64 76) (.int .i64 uo) (.int .u64 (tx:Int)) (.int .i64 cn) cn bd rfl (w1.alloc (.cells #[.int .i64 76,.int .i64 uo,.int .u64 (tx:Int),.int .i64 cn,.string bd] 87)) (fun h=>lG.out h.2) (eH.below q2).errs)
    have sI:=ab q2;have qY:=ab eH;have QJ:=ab fI;clear JG sN jT jB q2 x2 eH fI qf;go_wp2_with fail;refine kj.out.mono ?_
    rintro e w3 ⟨rfl,b6⟩;have iS:=Below.next sI.out b6;have b8:Hid (sH A (cU d0 id) (.returned (.tuple #[.pointer none,.iface 360 (.pointer (some (A 8)))])) w3∧Dv base A db F d w3∧Mv db F w w3):=⟨.inl ⟨Ff.out,rfl⟩,qY.out.below iS,QJ.out.trans (Mv.of iS)⟩;clear b6 iS k0 k1 k2 k3 k4 Uq kj;go_wp2;go_ret2;exact b8.out
 ·have Ff:Hid (cU d0 id=none):=BA fun s p h1 _=>fy s h1
  obtain ⟨j,hj,hec⟩ : ∃ j,j<2∧S.V.im A c = .iface 360 (.pointer (some (A j))):=by
   rcases Y9 with rfl | rfl
   ·exact ⟨0,by decide,rfl⟩
   ·exact ⟨1,by decide,rfl⟩
  rw [hec] at JG;clear hv hd VH QY AH hnr fy Y9 hec;go_enter func135,ntmps135;go_wp2_with fail;refine JG.out.mono ?_
  rintro e w1 ⟨rfl,sN,jT,jB⟩;obtain ⟨eH,fI⟩:=qf.out w1 sN jT jB;have q2:=ai w1 (.cells #[.int .i64 kd,.int .i64 uo,.int .u64 (tx:Int),.int .i64 cn,.string bd] 87);have Uq:(w1.alloc (.cells #[.int .i64 kd,.int .i64 uo,.int .u64 (tx:Int),.int .i64 cn,.string bd] 87)).cell? ⟨7,0,none⟩=some (.iface 360 (.pointer (some (A 7)))):=(eH.below q2).g 7 (by decide)
  have g8':(w1.alloc (.cells #[.int .i64 kd,.int .i64 uo,.int .u64 (tx:Int),.int .i64 cn,.string bd] 87)).cell? ⟨8,0,none⟩=some (.iface 360 (.pointer (some (A 8)))):=(eH.below q2).g 8 (by decide)
  have ey:=PM A j 7 _ (eH.below q2).errs (by omega) (by decide) (by omega)
  have sI:=ab q2;have b8:Hid (sH A (cU d0 id) (.returned (.tuple #[.pointer none,.iface 360 (.pointer (some (A 8)))])) (w1.alloc (.cells #[.int .i64 kd,.int .i64 uo,.int .u64 (tx:Int),.int .i64 cn,.string bd] 87))∧Dv base A db F d (w1.alloc (.cells #[.int .i64 kd,.int .i64 uo,.int .u64 (tx:Int),.int .i64 cn,.string bd] 87))∧Mv db F w (w1.alloc (.cells #[.int .i64 kd,.int .i64 uo,.int .u64 (tx:Int),.int .i64 cn,.string bd] 87))):=⟨.inl ⟨Ff.out,rfl⟩,eH.below q2,fI.trans (Mv.of q2)⟩;clear JG sN jT jB q2 eH fI qf;go_wp2_with fail;go_quiet (fail)
  go_wp2;go_ret2;exact ⟨.inl ⟨Ff.out,rfl⟩,b8.out.2.1.below (aB (Below.refl _ _) _),b8.out.2.2.trans (Mv.of (aB (Below.refl _ _) _))⟩
end T
namespace W
open Go.RowKit
abbrev Lk:=Nat × Int
def bg(l:List Lk):List Value:=l.flatMap fun p=>[Value.pointer (some ⟨p.1,0,none⟩),.int .i64 p.2]
theorem ee(p:Lk)(l:List Lk):bg (p::l) = .pointer (some ⟨p.1,0,none⟩)::.int .i64 p.2::bg l:=by simp [bg]
theorem dt(a b:List Lk):bg (a++b)=bg a++bg b:=by simp [bg]
theorem a7(l:List Lk):(bg l).length=l.length*2:=by
 induction l with
 | nil=>rfl
 | cons p l ih=>rw [ee];simp [ih];omega
theorem ib(l:List Lk):∀ j (h:j<l.length),(bg l)[j*2]?=some (.pointer (some ⟨l[j].1,0,none⟩))∧(bg l)[j*2+1]?=some (.int .i64 l[j].2):=by
 induction l with
 | nil=>intro j h;simp at h
 | cons p l ih =>
  intro j h;rw [ee];cases j with
  | zero=>exact ⟨rfl,rfl⟩
  | succ j =>
   have:=ih j (by simpa using h)
   rw [show (j+1)*2=j*2+1+1 by omega]
   simpa using this
theorem fT(l:List Lk):∀ u ∈ bg l,u.oneCell'=true:=by
 intro u hu;simp only [bg,lC] at hu;obtain ⟨p,_,h⟩:=hu;simp at h
 rcases h with rfl | rfl <;> rfl
theorem lV:(prog.info? 159).map (fun i=>(i.zero,i.size,i.bytes))=some (some (.agg #[.pointer none,.int .i64 0]),2,16):=by kernel_rfl
def dm(w:World)(v:Value)(l:List Lk):Prop:=∃ a cap,v = .slice a l.length cap∧l.length≤cap∧(a=none→cap=0) ∧
 ∀ j (h:j<l.length),∃ g o,a=some ⟨g,o,none⟩∧w.cell? ⟨g,o+j*2,none⟩=some (.pointer (some ⟨l[j].1,0,none⟩))∧w.cell? ⟨g,o+j*2+1,none⟩=some (.int .i64 l[j].2)
theorem dm.below{w w':World}{v:Value}{l:List Lk}(h:dm w v l)(hb:Below w.heap.size w w'):dm w' v l:=by
 obtain ⟨a,cap,rfl,hle,hn,hc⟩:=h;refine ⟨a,cap,rfl,hle,hn,fun j hj=>?_⟩
 obtain ⟨g,o,ha,h1,h2⟩:=hc j hj;exact ⟨g,o,ha,(hb.cell (p:=⟨g,o+j*2,none⟩) (World.block_lt_of_cell? w _ h1)).trans h1,(hb.cell (p:=⟨g,o+j*2+1,none⟩) (World.block_lt_of_cell? w _ h2)).trans h2⟩
theorem dm.form{w:World}{v:Value}{l:List Lk}(h:dm w v l):∃ a c,v = .slice a l.length c:=by
 obtain ⟨a,c,rfl,_⟩:=h;exact ⟨a,c,rfl⟩
theorem dm.rQ{w:World}{base n:Nat}{v:Value}{l:List Lk}(h:w.ownsRow base 159 2 v n (bg l)):dm w v l:=by
 have hl:=h.1;rw [a7] at hl;have hl:l.length=n:=by omega
 rcases h.2 with ⟨rfl,hn⟩ | ⟨g,cap,cur,rfl,hb,hg,Cs,sO,fG,mC⟩
 ·have h0:l.length=0:=by omega
  exact ⟨none,0,by rw [h0],by omega,fun _=>rfl,fun j hj=>by omega⟩
 ·refine ⟨some ⟨g,0,none⟩,cap,by rw [hl],by omega,fun h=>(by cases h),fun j hj=>⟨g,0,rfl,?_,?_⟩⟩
  ·rw [Nat.zero_add,h.cellAt (j*2) (by omega)];exact (ib l j hj).1
  ·rw [Nat.zero_add,h.cellAt (j*2+1) (by omega)];exact (ib l j hj).2
theorem dm.take{w:World}{a:Option Addr}{n m cap:Nat}{l:List Lk}(h:dm w (.slice a n cap) l)(hm:m≤n):dm w (.slice a m cap) (l.take m):=by
 obtain ⟨a',eO,he,hle,hn,hc⟩:=h;cases he;refine ⟨a,cap,by rw [ag,a8 hm],by rw [ag];omega,hn,fun j hj=>?_⟩
 rw [ag] at hj;obtain ⟨g,o,ha,h1,h2⟩:=hc j (by omega)
 exact ⟨g,o,ha,by rw [bZ];exact h1,by rw [bZ];exact h2⟩
theorem dm.nil(w:World):dm w (.slice none 0 0) []:=⟨none,0,rfl,aj _,fun _=>rfl,fun j h=>by simp at h⟩
def bQ(w:World)(base:Nat)(v:Value)(l:List Lk):Prop:=w.ownsRow base 159 2 v l.length (bg l)
theorem bQ.at{w:World}{base:Nat}{v:Value}{l:List Lk}(h:bQ w base v l):dm w v l:=dm.rQ h
theorem bQ.form{w:World}{base:Nat}{v:Value}{l:List Lk}(h:bQ w base v l):∃ a c,v = .slice a l.length c:=h.at.form
theorem bQ.below{w w':World}{base:Nat}{v:Value}{l:List Lk}(h:bQ w base v l)(hb:Below w.heap.size w w'):bQ w' base v l:=by
 refine ⟨h.1,?_⟩;rcases h.2 with h' | ⟨g,cap,cur,h',h1,h2,hr⟩
 ·exact .inl h'
 ·refine .inr ⟨g,cap,cur,h',h1,?_,hr⟩;have hg:g<w.heap.size:=by
   rcases aZ g w.heap.size with h' | h'
   ·exact h'
   ·rw [aV h'] at h2;cases h2
  rw [hb.block g hg];exact h2
theorem bQ.mono{w:World}{b b2:Nat}{v:Value}{l:List Lk}(h:bQ w b v l)(hb:b2≤b):bQ w b2 v l:=by
 refine ⟨h.1,?_⟩;rcases h.2 with h' | ⟨g,cap,cur,h',h1,hr⟩
 ·exact .inl h'
 ·exact .inr ⟨g,cap,cur,h',aq hb h1,hr⟩
theorem bQ.nil(w:World)(base:Nat):bQ w base (.slice none 0 0) []:=World.ownsRow_nil _ _ _ _
theorem fo(base:Nat)(v s:Value)(xs us:List Lk)(w:World)(aD:bQ w base v xs)(hs:dm w s us)(hb:(xs.length+us.length)*16≤140737488355328)(dr:base≤w.heap.size):∃ a' eO w',(Builtin.append_ #[101,101] 101 #[v,s]).run prog w = .ok (.slice a' (xs.length+us.length) eO) w'∧bQ w' base (.slice a' (xs.length+us.length) eO) (xs++us)∧w.grownBy w' v.ownBlock:=by
 obtain ⟨i0,hi,hz,cp,kL⟩:=info_parts lV;obtain ⟨a,cap,rfl,hle,qH,hc⟩:=hs;have SG:∃ a' c',v = .slice a' xs.length c':=aD.form;unfold bQ at aD ⊢;rw [ae,dt];cases a with
 | none =>
  have h0:us=[]:=by
   cases us with
   | nil=>rfl
   | cons u r=>obtain ⟨g,o,he,_⟩:=hc 0 (by simp);cases he
  subst h0;rw [qH rfl];have hr:=run_append_owned_none (P:=prog) w base 101 101 159 i0 2 underlying101 hi v xs.length (bg xs) aD;obtain ⟨a',c',rfl⟩:=SG;exact ⟨a',c',w,hr,by simpa [bg] using aD,⟨rfl,rfl,rfl,aj _,fun _ _ _=>rfl⟩⟩
 | some ad =>
  obtain ⟨v',w',hr,gk,AN,_⟩:=run_append_own (P:=prog) w base 101 101 159 i0 _ 2 16 underlying101 hi hz cp kL rfl (by decide) v xs.length (bg xs) aD ad us.length cap (bg us) (a7 us) (fun j u hj=>by
   have lW:=(List.getElem?_eq_some_iff.1 hj).1;rw [a7] at lW;obtain ⟨g,o,he,c1,c2⟩:=hc (j / 2) (by omega)
   cases he;have hg:=ib us (j / 2) (by omega)
   rw [bA];rcases cy j with hm | hm
   ·have e:j / 2*2=j:=by omega
    rw [e] at hg c1;rw [hg.1] at hj;cases hj;exact c1
   ·have e:j / 2*2+1=j:=by omega
    rw [ed,e] at c2;rw [e] at hg;rw [hg.2] at hj;cases hj;exact c2) (fT us) (by unfold maxLen;omega) hb dr
  have hf:∃ a' c',v' = .slice a' (xs.length+us.length) c':=by
   rcases gk.2 with ⟨rfl,h0⟩ | ⟨g,cap,cur,rfl,_⟩
   ·exact ⟨none,0,by rw [h0]⟩
   ·exact ⟨_,_,rfl⟩
  obtain ⟨a',c',rfl⟩:=hf;exact ⟨a',c',w',hr,gk,AN⟩
theorem bQ.dy{w:World}{base:Nat}{v:Value}{l:List Lk}(h:bQ w base v l):∀ k,v.ownBlock=some k→base≤k∧k<w.heap.size:=World.ownsRow.lt h
theorem vP(w:World)(p:Lk)(t:TypeId):dm (w.alloc (.cells #[Value.pointer (some ⟨p.1,0,none⟩),.int .i64 p.2] t)) (.slice (some ⟨w.heap.size,0,none⟩) 1 1) [p]:=by
 have hb:=bM w #[Value.pointer (some ⟨p.1,0,none⟩),.int .i64 p.2] t;refine ⟨_,_,rfl,aj _,fun h=>(by cases h),fun j hj=>⟨_,_,rfl,?_,?_⟩⟩
 ·have:j=0:=by simpa using hj
  subst this;exact hb.2 0 (by simp)
 ·have:j=0:=by simpa using hj
  subst this;exact hb.2 1 (by simp)
theorem dm.cap{w:World}{a:Option Addr}{n c:Nat}{l:List Lk}(h:dm w (.slice a n c) l):l.length≤c:=by
 obtain ⟨_,_,he,h,_⟩:=h;cases he;exact h
theorem bQ.has{w:World}{base:Nat}{v:Value}{l:List Lk}(h:bQ w base v l)(hl:0<l.length):∃ g c,v = .slice (some ⟨g,0,none⟩) l.length c∧base≤g∧g<w.heap.size∧l.length≤c:=by
 rcases h.2 with ⟨_,h0⟩ | ⟨g,cap,cur,rfl,h1,h2,h3,_⟩
 ·omega
 ·exact ⟨g,cap,rfl,h1,(h.dy g rfl).2,h3⟩
theorem dm.spot{w:World}{a:Option Addr}{n c:Nat}{l:List Lk}(h:dm w (.slice a n c) l)(j:Nat)(hj:j<l.length):∃ g o,a = .some ⟨g,o,none⟩∧w.cell? ⟨g,o+j*2,none⟩ = .some (.pointer (some ⟨l[j].1,0,none⟩))∧w.cell? ⟨g,o+j*2+1,none⟩ = .some (.int .i64 l[j].2):=by
 obtain ⟨a',c',he,_,_,hc⟩:=h;cases he;exact hc j hj
end W
end Go.Proofs.YtihmgigfkmofnaaGreatDoor
